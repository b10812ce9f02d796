/- Proved here: rows of messages; dovecotelaw0.Rpcs, handed a row of the caller's own, writes into that and into its messages' rows alone. Helper contracts. -/
import Derived.Test.YtfgelagmjjjlgaaZNCp
import Derived.Deep.CutBlock
namespace Go.Proofs.Ytfgelagmjjjlgaa.Nt
open Go.RowKit
set_option maxRecDepth 100000

def mrow (qs : List Mq) : List Value := qs.flatMap mcs
theorem mrow_app (a b : List Mq) : mrow (a ++ b) = mrow a ++ mrow b := by unfold mrow; rw [List.flatMap_append]
theorem mrow_get (qs : List Mq) : ∀ k q, qs[k]? = some q → ∀ j, j < 11 → (mrow qs)[k * 11 + j]? = (mcs q)[j]? := by
  induction qs with
  | nil => intro k q hk; simp at hk
  | cons p l ih =>
    intro k q hk j hj
    have e : mrow (p :: l) = mcs p ++ mrow l := rfl
    rw [e]
    rcases k with _ | k
    · simp at hk
      subst hk
      rw [List.getElem?_append_left (by rw [mcs_len]; omega)]
      simp
    · rw [List.getElem?_append_right (by rw [mcs_len]; omega), mcs_len, show (k + 1) * 11 + j - 11 = k * 11 + j from by omega]
      exact ih k q (by simpa using hk) j hj
/-- a row of one's own reads as its messages -/
theorem rps_of_own {w : World} {B : Nat} {v : Value} {qs : List Mq} (h : w.ownsRow B 33 11 v qs.length (mrow qs)) (ho : ∀ q ∈ qs, Rok w q ∧ Szs q.r) : Rps w v qs := by
  rcases h.2 with ⟨rfl, h1⟩ | ⟨g, cap, cur, rfl, hB, hg, rest⟩
  · exact ⟨none, 0, by rw [h1], .inl (List.length_eq_zero_iff.1 h1)⟩
  · refine ⟨_, cap, rfl, .inr ⟨g, 0, rfl, fun k hk => ?_⟩⟩
    have hq : qs[k]? = some (qs.getD k default) := by rw [List.getD_eq_getElem?_getD, List.getElem?_eq_getElem hk]; rfl
    refine ⟨fun j u hu => ?_, ho _ (List.mem_of_getElem? hq)⟩
    have hj : j < 11 := (List.getElem?_eq_some_iff.1 hu).1
    rw [Nat.zero_add, h.cellAt (k * 11 + j) (by omega), mrow_get qs k _ hq j hj]
    exact hu
theorem rpc_slice (a : Act) (dst : Option Tmp) (x : Operand) (ty : TypeId) (pos : String) (after : Array Edge) (q : Mq) (hx : a.eval x = .agg (mcs q).toArray) (w : World) :
    (execOp a.eval ⟨dst, .buildSlice 27 1 #[(0, x)], ty, pos, after, none⟩).run Try.prog w = .ok (.value (.slice (some ⟨w.heap.size, 0, none⟩) 1 1)) (w.alloc (.cells (mcs q).toArray 33)) := by
  unfold execOp
  simp only [List.map_toArray, List.map_cons, List.map_nil, hx]
  kernel_rfl
theorem mcs_cells {w : World} {b : Nat} {q : Mq} {t : TypeId} (h : Bx w b (mcs q) t) : ∀ j u, (mcs q)[j]? = some u → w.cell? ((⟨b, 0, none⟩ : Addr).add j) = some u := fun j u hu => by
  rw [Addr.add_mid, Nat.zero_add]
  exact h.cell j u hu
end Go.Proofs.Ytfgelagmjjjlgaa.Nt
