/- Proved here: blocks of one's own that hold a message or a parcel whole: laid, loaded, stored, set; frames of many cells. Helper laws. -/
import Derived.Test.YtfgelagmjjjlgaaZNRp
import Derived.Deep.WholeRow
namespace Go.Proofs.Ytfgelagmjjjlgaa.Nt
open Go.RowKit
set_option maxRecDepth 100000

theorem wpList_value {P : Program} {ops : Array Oper} {rest : List Oper} {o : Oper} {a : Act} {w w' : World} {v : Value} {Q : Exit → Act → World → Prop} (hg : o.guard = none) (hr : (execOp a.eval o).run P w = .ok (.value v) w') (h : wpList P ops Q rest (a.put o.dst v) w') : wpList P ops Q (o :: rest) a w :=
  wpList_plain hg fun K hK => by unfold Oper.wp; rw [hr]; exact hK _ _ h
theorem wpList_skip {P : Program} {ops : Array Oper} {rest : List Oper} {o : Oper} {a : Act} {w w' : World} {Q : Exit → Act → World → Prop} (hg : o.guard = none) (hr : (execOp a.eval o).run P w = .ok .skip w') (h : wpList P ops Q rest (a.put o.dst undef) w') : wpList P ops Q (o :: rest) a w :=
  wpList_plain hg fun K hK => by unfold Oper.wp; rw [hr]; exact hK _ _ h
theorem setCells_fr {F : Nat → Prop} (b : Nat) (hF : F b) : ∀ (cs : List Value) (i : Nat) (w : World), Fr F w (w.setCells b i cs)
  | [], _, w => Fr.refl F w
  | v :: r, i, w => Fr.trans (set_fr hF) (setCells_fr b hF r (i + 1) (w.setCell ⟨b, i, none⟩ v))
theorem setCells_sf {T : Nat → Prop} (b : Nat) (hT : T b) : ∀ (cs : List Value) (i : Nat) (w : World), SF T w (w.setCells b i cs)
  | [], _, w => SF.refl T w
  | v :: r, i, w => ((SF.refl T w).set b i v hT).trans (setCells_sf b hT r (i + 1) (w.setCell ⟨b, i, none⟩ v))
theorem owns_setCells {B : Nat} {e : TypeId} {s g n cap : Nat} : ∀ (vs : List Value) (o : Nat) (w : World) (ys : List Value), w.ownsRow B e s (.slice (some ⟨g, 0, none⟩) n cap) n ys → ∃ zs, (w.setCells g o vs).ownsRow B e s (.slice (some ⟨g, 0, none⟩) n cap) n zs ∧ ∀ j, o + vs.length ≤ j → zs[j]? = ys[j]?
  | [], _, _, ys, h => ⟨ys, h, fun _ _ => rfl⟩
  | v :: r, o, w, ys, h => by
    obtain ⟨zs, h1, h2⟩ := owns_setCells r (o + 1) _ _ (h.stored o v).1
    refine ⟨zs, h1, fun j hj => ?_⟩
    rw [List.length_cons] at hj
    rw [h2 j (by omega), List.getElem?_set_ne (by omega)]
/-- the block b holds the cells cs, and they may be set -/
def Bx (w : World) (b : Nat) (cs : List Value) (t : TypeId) : Prop := w.heap[b]? = some (.cells cs.toArray t (0, 0))
theorem Bx.new (w : World) (cs : List Value) (t : TypeId) (b : Nat) (h : b = w.heap.size) : Bx (w.alloc (.cells cs.toArray t)) b cs t := by subst h; exact heap_alloc_last w _
theorem Bx.below {w w' : World} {b : Nat} {cs : List Value} {t : TypeId} (h : Bx w b cs t) (hb : Below w.heap.size w w') : Bx w' b cs t := (hb.block b (Array.getElem?_eq_some_iff.1 h).1).trans h
theorem Bx.fr {F : Nat → Prop} {w w' : World} {b : Nat} {cs : List Value} {t : TypeId} (h : Bx w b cs t) (hf : Fr F w w') (hb : ¬ F b) : Bx w' b cs t := (hf.block b (Array.getElem?_eq_some_iff.1 h).1 hb).trans h
theorem Bx.lt {w : World} {b : Nat} {cs : List Value} {t : TypeId} (h : Bx w b cs t) : b < w.heap.size := (Array.getElem?_eq_some_iff.1 h).1
theorem Bx.cell {w : World} {b : Nat} {cs : List Value} {t : TypeId} (h : Bx w b cs t) (j : Nat) (v : Value) (hj : cs[j]? = some v) : w.cell? ⟨b, j, none⟩ = some v := by rw [cell_of h, List.getElem?_toArray]; exact hj
theorem Bx.frz {w : World} {b : Nat} {cs : List Value} {t : TypeId} (h : Bx w b cs t) (j : Nat) : w.frozen? ⟨b, j, none⟩ = false := frozen_of h j
theorem Bx.range {w : World} {b : Nat} {cs : List Value} {t : TypeId} (h : Bx w b cs t) : w.rangeAt b 0 cs := fun j v hv => by rw [Nat.zero_add]; exact h.cell j v hv
theorem Bx.there {w : World} {b : Nat} {cs : List Value} {t : TypeId} (h : Bx w b cs t) (n : Nat) (hn : n ≤ cs.length) : w.there b 0 n := fun j hj => by
  rw [Nat.zero_add]
  exact ⟨by rw [h.cell j _ (List.getElem?_eq_getElem (by omega))]; rfl, h.frz j⟩
theorem Bx.set {w : World} {b : Nat} {cs : List Value} {t : TypeId} (h : Bx w b cs t) (j : Nat) (v : Value) (hj : j < cs.length) : Bx (w.setCell ⟨b, j, none⟩ v) b (cs.set j v) t := by
  have := set_heap h j v (by simpa using hj)
  unfold Bx
  rw [this]
  simp
def rz : List Value := [.int .i64 0, .int .i64 0, .int .i64 0, .int .i64 0, .int .i64 0, .int .i64 0, .int .i64 0, .bool false, .slice none 0 0, .slice none 0 0, .string ⟨#[]⟩]
theorem mcs_all (q : Mq) : (mcs q).toArray.all (·.oneCell') = true := all_oneCell_toArray (mcs_one q)
theorem rpc_alloc (ρ : Operand → Value) (dst : Option Tmp) (ty : TypeId) (pos : String) (after : Array Edge) (w : World) :
    (execOp ρ ⟨dst, .alloc 33, ty, pos, after, none⟩).run Try.prog w = .ok (.value (.pointer (some ⟨w.heap.size, 0, none⟩))) (w.alloc (.cells rz.toArray 33)) := by
  kernel_rfl
theorem rpc_store (a : Act) (dst : Option Tmp) (x y : Operand) (ty : TypeId) (pos : String) (after : Array Edge) (q : Mq) (w : World) (hx : a.eval x = .pointer (some ⟨w.heap.size, 0, none⟩)) (hy : a.eval y = .agg (mcs q).toArray) :
    (execOp a.eval ⟨dst, .store 33 x y, ty, pos, after, none⟩).run Try.prog (w.alloc (.cells rz.toArray 33)) = .ok .skip (w.alloc (.cells (mcs q).toArray 33)) := by
  show Sem.run Try.prog (do Instr.storeAt 33 (a.eval x) (a.eval y); pure Next.skip) _ = _
  rw [hx, hy]
  simp only [Sem.run_bind]
  rw [run_storeAt_new w 33 rz.toArray (mcs q).toArray (by rw [rpc_size]; rfl) rfl (mcs_all q)]
  rfl
theorem res_r {fn : Func} {a : Tmp} (h : fn.results = #[.cell a 33]) {tmps : Array Value} {w : World} {B : Nat} {q : Mq} (ha : tmps[a]?.getD undef = .pointer (some ⟨B, 0, none⟩)) (hq : w.rangeAt B 0 (mcs q)) : (results fn tmps).run Try.prog w = .ok (.agg (mcs q).toArray) w := by
  have k := run_loadVar_mid (P := Try.prog) w B 0 33 (mcs q) _ hq Try.underlying33 rfl rpc_size
  simp [results, h, ha, asAddr, k]
/-- a parcel on its way -/
structure Pc where
  q : Mq
  put : Int
  delay : Int
instance : Inhabited Pc := ⟨⟨default, 0, 0⟩⟩
def pcs (p : Pc) : List Value := mcs p.q ++ [.int .i64 p.put, .int .i64 p.delay]
def pz : List Value := rz ++ [.int .i64 0, .int .i64 0]
theorem pcs_len (p : Pc) : (pcs p).length = 13 := rfl
theorem pcs_one (p : Pc) : ∀ u ∈ pcs p, u.oneCell' = true := by
  intro u hu
  rcases List.mem_append.1 hu with h | h
  · exact mcs_one _ u h
  · simp only [List.mem_cons, List.not_mem_nil, or_false] at h
    rcases h with rfl | rfl <;> rfl
theorem pcs_all (p : Pc) : (pcs p).toArray.all (·.oneCell') = true := all_oneCell_toArray (pcs_one p)
theorem par_size : (Try.prog.info? 53).map (·.size) = some 13 := by kernel_rfl
theorem infoPc : (Try.prog.info? 53).map (fun i => (i.zero, i.size, i.bytes)) = some (some (.agg pz.toArray), 13, 144) := by kernel_rfl
theorem par_alloc (ρ : Operand → Value) (dst : Option Tmp) (ty : TypeId) (pos : String) (after : Array Edge) (w : World) :
    (execOp ρ ⟨dst, .alloc 53, ty, pos, after, none⟩).run Try.prog w = .ok (.value (.pointer (some ⟨w.heap.size, 0, none⟩))) (w.alloc (.cells pz.toArray 53)) := by
  kernel_rfl
theorem par_store (a : Act) (dst : Option Tmp) (x y : Operand) (ty : TypeId) (pos : String) (after : Array Edge) (p : Pc) (w : World) (hx : a.eval x = .pointer (some ⟨w.heap.size, 0, none⟩)) (hy : a.eval y = .agg (pcs p).toArray) :
    (execOp a.eval ⟨dst, .store 53 x y, ty, pos, after, none⟩).run Try.prog (w.alloc (.cells pz.toArray 53)) = .ok .skip (w.alloc (.cells (pcs p).toArray 53)) := by
  show Sem.run Try.prog (do Instr.storeAt 53 (a.eval x) (a.eval y); pure Next.skip) _ = _
  rw [hx, hy]
  simp only [Sem.run_bind]
  rw [run_storeAt_new w 53 pz.toArray (pcs p).toArray (by rw [par_size]; rfl) rfl (pcs_all p)]
  rfl

/-- the block of a slice of one's own -/
def bl (v : Value) : List Nat := v.ownBlock.toList
theorem mem_bl {v : Value} {g : Nat} : g ∈ bl v ↔ v.ownBlock = some g := by unfold bl; simp
/-- a message whose rows are its own -/
def MqOwn (w : World) (B : Nat) (q : Mq) : Prop := w.ownsRow B 63 4 q.es.v q.r.ents.length (ecs q.r.ents) ∧ w.ownsRow B 3 1 q.ms.v q.r.mems.length (q.r.mems.map (Value.int .i64)) ∧ Szs q.r
def qb (q : Mq) : List Nat := bl q.es.v ++ bl q.ms.v
theorem MqOwn.rok {w : World} {B : Nat} {q : Mq} (h : MqOwn w B q) : Rok w q := ⟨ens_of_owns h.1, nms_of_owns h.2.1⟩
theorem MqOwn.below {w w' : World} {B : Nat} {q : Mq} (h : MqOwn w B q) (hb : Below w.heap.size w w') : MqOwn w' B q := ⟨owns_below h.1 hb, owns_below h.2.1 hb, h.2.2⟩
theorem MqOwn.mono {w : World} {B B' : Nat} {q : Mq} (h : MqOwn w B q) (hb : B' ≤ B) : MqOwn w B' q := ⟨owns_mono h.1 hb, owns_mono h.2.1 hb, h.2.2⟩
theorem MqOwn.fr {F : Nat → Prop} {w w' : World} {B : Nat} {q : Mq} (h : MqOwn w B q) (hf : Fr F w w') (hs : ∀ g ∈ qb q, ¬ F g) : MqOwn w' B q :=
  ⟨owns_fr h.1 hf (fun g hg => hs g (List.mem_append.2 (.inl (mem_bl.2 hg)))), owns_fr h.2.1 hf (fun g hg => hs g (List.mem_append.2 (.inr (mem_bl.2 hg)))), h.2.2⟩
theorem MqOwn.blk {w : World} {B : Nat} {q : Mq} (h : MqOwn w B q) : ∀ g ∈ qb q, B ≤ g ∧ g < w.heap.size := fun g hg => by
  rcases List.mem_append.1 hg with hg | hg
  · exact owns_blk h.1 g (mem_bl.1 hg)
  · exact owns_blk h.2.1 g (mem_bl.1 hg)
end Go.Proofs.Ytfgelagmjjjlgaa.Nt
