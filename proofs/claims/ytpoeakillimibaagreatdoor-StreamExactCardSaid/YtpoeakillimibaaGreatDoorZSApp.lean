/- Proved here: append of any bytes to bytes of one's own, which tells where the new bytes lie. Helpers. -/
import Derived.Test.YtpoeakillimibaaGreatDoorM16
import Derived.Maps.AppendAt
namespace Go.Proofs.YtpoeakillimibaaGreatDoor.K
open Go.RowKit
theorem run_append_byt_at (w : World) (base : Nat) (ty : TypeId) (v : Value) (n : Nat) (xs : List Int) (hown : w.ownsRow base 5 1 v n (xs.map (Value.int .u8))) (vx : Value) (ys : List Int) (hy : Byt w vx ys)
  (hbytes : n + ys.length <= 140737488355328) (hbase : base <= w.heap.size) :
  ∃ v' w',(Builtin.append_ #[31,31] ty #[v,vx]).run Tryz.prog w = .ok v' w' /\ w'.ownsRow base 5 1 v' (n + ys.length) ((xs ++ ys).map (Value.int .u8)) /\ w.grownBy w' v.ownBlock /\ (v'.ownBlock = v.ownBlock \/ v'.ownBlock = some w.heap.size) := by
 obtain ⟨i0,hi,hz0,hz1,hz2⟩ := info_parts Tryz.infoU8
 obtain ⟨ao,cap,rfl,hlen,hr,hcase⟩ := hy
 have key : ∀ (a : Addr),(∀ j,j < ys.length -> w.cell? (a.add j) = some (.int .u8 (ys.getD j 0))) -> ∃ v' w',(Builtin.append_ #[31,31] ty #[v,.slice (some a) ys.length cap]).run Tryz.prog w = .ok v' w' /\ w'.ownsRow base 5 1 v' (n + ys.length) ((xs ++ ys).map (Value.int .u8)) /\ w.grownBy w' v.ownBlock /\ (v'.ownBlock = v.ownBlock \/ v'.ownBlock = some w.heap.size) := by
  intro a ha
  obtain ⟨v',w',h1,h2,h3,_,h4⟩ := run_append_own_at (P := Tryz.prog) w base 31 ty 5 i0 (.int .u8 0) 1 1 Tryz.underlying31 hi hz0 hz1 hz2 rfl (by decide) v n _ hown a ys.length cap (ys.map (Value.int .u8)) (by simp)
   (fun j u hj => by
    rw [List.getElem?_map] at hj
    by_cases hjl : j < ys.length
    ·rw [ha j hjl]
     rw [List.getElem?_eq_getElem hjl] at hj
     rw [List.getD_eq_getElem?_getD,List.getElem?_eq_getElem hjl]
     exact hj
    ·rw [List.getElem?_eq_none (by omega)] at hj; cases hj)
   (fun u hu => by obtain ⟨_,_,rfl⟩ := List.mem_map.1 hu; rfl) (by unfold maxLen; omega) (by omega) hbase
  exact ⟨v',w',h1,by rw [List.map_append]; exact h2,h3,h4⟩
 rcases hcase with rfl | ⟨b,off,rfl,hc⟩
 ·cases ao with
  | none =>
   refine ⟨v,w,?_,?_,⟨rfl,rfl,rfl,Nat.le_refl _,fun _ _ _ => rfl⟩,.inl rfl⟩
   ·rcases hown.2 with ⟨rfl,rfl⟩ | ⟨g,cap',cur,rfl,_,_,hnc,_⟩
    ·simp [Builtin.append_,run_underlying Tryz.underlying31,sizeOf,typeInfo,hi,Builtin.lenOf,Builtin.firstCells]
    ·simp [Builtin.append_,run_underlying Tryz.underlying31,sizeOf,typeInfo,hi,Builtin.lenOf,Builtin.firstCells,hnc,storeCells]
   ·simpa using hown
  | some a => exact key a (fun j hj => by simp at hj)
 ·exact key ⟨b,off,none⟩ (fun j hj => by rw [addr_add]; exact hc j hj)
theorem wpList_append_byt_at (w : World) {ops : Array Oper} {rest : List Oper} {o : Oper} {a : Act} {Q : Exit -> Act -> World -> Prop} (hgd : o.guard = none) (s x : Operand)
  (ho : o.op = .call { callee := .builtin .append,args := #[s,x],argTypes := #[31,31] })
  (base : Nat) (v : Value) (n : Nat) (xs : List Int) (hs : a.eval s = v) (hown : w.ownsRow base 5 1 v n (xs.map (Value.int .u8))) (vx : Value) (ys : List Int) (hx : a.eval x = vx) (hy : Byt w vx ys)
  (hbytes : n + ys.length <= 140737488355328) (hbase : base <= w.heap.size)
  (h : ∀ v' w',w'.ownsRow base 5 1 v' (n + ys.length) ((xs ++ ys).map (Value.int .u8)) -> w.grownBy w' v.ownBlock -> (v'.ownBlock = v.ownBlock \/ v'.ownBlock = some w.heap.size) -> wpList Tryz.prog ops Q rest (a.put o.dst v') w') : wpList Tryz.prog ops Q (o :: rest) a w := by
 refine wpList_plain hgd fun K hK => ?_
 obtain ⟨v',w',hr,h2,h3,h4⟩ := run_append_byt_at w base o.type v n xs hown vx ys hy hbytes hbase
 unfold Oper.wp execOp
 simp only [ho,resolve,invoke,builtin,Sem.run_bind,Sem.run_pure,Result.andThen_ok,List.map_toArray,List.map_cons,List.map_nil,hs,hx,hr]
 exact hK _ _ (h v' w' h2 h3 h4)
end Go.Proofs.YtpoeakillimibaaGreatDoor.K
