/- Proved here: a new row (prop.row: a place, and 43 flags), built, laid and stored as one: laws for a walk's three operations. Helpers. -/
import Derived.Test.YtpoeakillimibaaGreatDoorZPPlain
import Derived.Deep.WholeRow
import Derived.Handy
namespace Go.Proofs.YtpoeakillimibaaGreatDoor
open Go.RowKit
set_option maxRecDepth 100000
theorem wpList_value {P : Program} {ops : Array Oper} {rest : List Oper} {o : Oper} {a : Act} {w w' : World} {v : Value} {Q : Exit -> Act -> World -> Prop} (hg : o.guard = none) (hr : (execOp a.eval o).run P w = .ok (.value v) w') (h : wpList P ops Q rest (a.put o.dst v) w') : wpList P ops Q (o :: rest) a w :=
 wpList_plain hg fun K hK => by unfold Oper.wp; rw [hr]; exact hK _ _ h
theorem wpList_skip {P : Program} {ops : Array Oper} {rest : List Oper} {o : Oper} {a : Act} {w w' : World} {Q : Exit -> Act -> World -> Prop} (hg : o.guard = none) (hr : (execOp a.eval o).run P w = .ok .skip w') (h : wpList P ops Q rest (a.put o.dst undef) w') : wpList P ops Q (o :: rest) a w :=
 wpList_plain hg fun K hK => by unfold Oper.wp; rw [hr]; exact hK _ _ h
def rowA (place : Int) : Array Value := #[.int .i64 place] ++ Array.replicate 43 (.bool false)
theorem rowA_size (place : Int) : (rowA place).size = 44 := by simp [rowA]
theorem rowA_one (place : Int) : (rowA place).all (·.oneCell') = true := by kernel_rfl
theorem row_build (a : Act) (dst : Option Tmp) (x : Operand) (ty : TypeId) (pos : String) (after : Array Edge) (place : Int) (hx : a.eval x = .int .i64 place) (w : World) :
  (execOp a.eval ⟨dst,.build 235 #[(0,x)],ty,pos,after,none⟩).run Tryz.prog w = .ok (.value (.agg (rowA place))) w := by
 unfold execOp
 simp only [List.map_toArray,List.map_cons,List.map_nil,hx]
 kernel_rfl
theorem row_alloc (ρ : Operand -> Value) (dst : Option Tmp) (ty : TypeId) (pos : String) (after : Array Edge) (w : World) :
  (execOp ρ ⟨dst,.alloc 235,ty,pos,after,none⟩).run Tryz.prog w = .ok (.value (.pointer (some ⟨w.heap.size,0,none⟩))) (w.alloc (.cells (rowA 0) 235)) := by
 kernel_rfl
theorem row_size : (Tryz.prog.info? 235).map (·.size) = some 44 := by kernel_rfl
theorem row_store (a : Act) (dst : Option Tmp) (x y : Operand) (ty : TypeId) (pos : String) (after : Array Edge) (place : Int) (w : World) (hx : a.eval x = .pointer (some ⟨w.heap.size,0,none⟩)) (hy : a.eval y = .agg (rowA place)) :
  (execOp a.eval ⟨dst,.store 235 x y,ty,pos,after,none⟩).run Tryz.prog (w.alloc (.cells (rowA 0) 235)) = .ok .skip (w.alloc (.cells (rowA place) 235)) := by
 show Sem.run Tryz.prog (do Instr.storeAt 235 (a.eval x) (a.eval y); pure Next.skip) _ = _
 rw [hx,hy]
 simp only [Sem.run_bind]
 rw [run_storeAt_new w 235 (rowA 0) (rowA place) (by rw [row_size,rowA_size]) (by rw [rowA_size,rowA_size]) (rowA_one place)]
 rfl
end Go.Proofs.YtpoeakillimibaaGreatDoor
