/- Proved here: the contracts of retain.Drop and of the page's Drop. Helper contracts. -/
import Derived.Test.YtknbgnoahfeigaaDoorZMChk
namespace Go.Proofs.YtknbgnoahfeigaaDoor.M
open Go.RowKit
set_option maxRecDepth 100000

theorem box7 {w w2 : World} {t : TypeId} {m : Mg} {s : Value} (hb : Below (w.alloc (.cells #[.string m.topic, .string m.payload, .int .i64 m.qos, .bool m.ret, .string m.frm, .int .i64 m.untl, s] t)).heap.size (w.alloc (.cells #[.string m.topic, .string m.payload, .int .i64 m.qos, .bool m.ret, .string m.frm, .int .i64 m.untl, s] t)) w2) :
    w2.cell? ⟨w.heap.size, 0, none⟩ = some (.string m.topic) ∧ w2.cell? ⟨w.heap.size, 1, none⟩ = some (.string m.payload) ∧ w2.cell? ⟨w.heap.size, 2, none⟩ = some (.int .i64 m.qos) ∧ w2.cell? ⟨w.heap.size, 3, none⟩ = some (.bool m.ret) ∧ w2.cell? ⟨w.heap.size, 4, none⟩ = some (.string m.frm) ∧ w2.cell? ⟨w.heap.size, 5, none⟩ = some (.int .i64 m.untl) ∧ w2.cell? ⟨w.heap.size, 6, none⟩ = some s := by
  have hl : w.heap.size < (w.alloc (.cells #[.string m.topic, .string m.payload, .int .i64 m.qos, .bool m.ret, .string m.frm, .int .i64 m.untl, s] t)).heap.size := by simp
  exact ⟨(hb.cell hl).trans (by simp), (hb.cell hl).trans (by simp), (hb.cell hl).trans (by simp), (hb.cell hl).trans (by simp), (hb.cell hl).trans (by simp), (hb.cell hl).trans (by simp), (hb.cell hl).trans (by simp)⟩
/-- one message more, at the end of a row of one's own -/
theorem own_one {w2 w1 : World} {B B2 : Nat} {v v' : Value} {qs : List Mq} {u : Mg} {s : Value} {o : Obj} (h : OwnMs w2 B v qs) (hs : w2.ownsRow B2 76 4 s u.props.length (pcs u.props)) (hB : B ≤ B2) (hk : u.props.length ≤ 2932031007317) (hg : (w2.alloc o).grownBy w1 v.ownBlock) (ho : w1.ownsRow B 27 7 v' (qs.length + 1) (mrow qs ++ mcs u s)) : OwnMs w1 B v' (qs ++ [(u, s)]) :=
  OwnMs.app (h.below ((Below.refl _ _).alloc (Nat.le_refl _) _)) (fun q hq => by obtain rfl := List.mem_singleton.1 hq; exact ⟨owns_mono (hs.alloc _) hB, hk⟩) hg (by simpa [mrow] using ho)
theorem FI.nxt {l : List Mg} {p : Mg → Bool} {k : Nat} {qs : List Mq} {u : Mg} {s : Value} (h : qs.map (·.1) = (l.take k).filter p ∧ qs.length ≤ k) (hf : (l.take (k + 1)).filter p = (l.take k).filter p ++ (if p u = true then [u] else [])) (hp : p u = true) : (qs ++ [(u, s)]).map (·.1) = (l.take (k + 1)).filter p ∧ (qs ++ [(u, s)]).length ≤ k + 1 := by
  rw [hf, if_pos hp, List.map_append, h.1, List.length_append]
  exact ⟨rfl, by simp; omega⟩
theorem FI.same {l : List Mg} {p : Mg → Bool} {k : Nat} {qs : List Mq} {u : Mg} (h : qs.map (·.1) = (l.take k).filter p ∧ qs.length ≤ k) (hf : (l.take (k + 1)).filter p = (l.take k).filter p ++ (if p u = true then [u] else [])) (hp : p u = false) : qs.map (·.1) = (l.take (k + 1)).filter p ∧ qs.length ≤ k + 1 := by
  rw [hf, hp, if_neg (by simp), List.append_nil, h.1]
  exact ⟨rfl, by omega⟩
end Go.Proofs.YtknbgnoahfeigaaDoor.M
