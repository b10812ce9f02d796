/- Proved here: dovecoteref15.MayMerge: whether an index, a term and entries may be. Helper contracts. -/
import Derived.Test.YtcffbkgkdoaplaaDoorZEMr
import Derived.Test.YtcffbkgkdoaplaaDoorZERu
namespace Go.Proofs.YtcffbkgkdoaplaaDoor.Et
open Go.RowKit Nt
set_option maxRecDepth 100000

set_option maxHeartbeats 4000000 in
theorem mayMg_any (p u : Int) (ao : Option Addr) (n cap : Nat) (l : List En) (w : World) (h : Es w ao n cap l) :
    Calls Tryd.prog 29 #[.int .i64 p, .int .i64 u, .slice ao n cap] w fun e w' => e = .returned (.bool (decide (MayMg p u l))) ∧ Below w.heap.size w w' := by
  have HE := hide h
  obtain ⟨d, hd⟩ : ∃ d, d = decide (MayMg p u l) := ⟨_, rfl⟩
  have HD := hide hd
  rw [← hd]
  clear hd h
  by_cases c1 : 0 ≤ p
  · by_cases c2 : p ≤ 1099511627776
    · by_cases c3 : 0 ≤ u
      · by_cases c4 : u < 1099511627776
        · have HF : Hid (decide (GoOn p u l) = d) := (decide_eq_decide.2 ⟨fun h => ⟨c1, c2, ⟨c3, c4⟩, h⟩, fun h => h.2.2.2⟩).trans (unhide HD).symm
          clear HD
          go_enter Tryd.func29, Tryd.ntmps29
          go_wp2_with fail
          refine (runs_any p u ao n cap l w (unhide HE) (by omega) (by omega)).mono ?_
          rintro e w2 ⟨rfl, hb⟩
          rw [unhide HF]
          have HB := hide hb
          clear hb
          cases d
          · go_wp2
            go_ret
            exact ⟨rfl, unhide HB⟩
          · go_wp2
            go_ret
            exact ⟨rfl, unhide HB⟩
        · have HF : Hid (false = d) := ((unhide HD).trans (decide_eq_false (fun h => c4 h.2.2.1.2))).symm
          clear HD
          go_enter Tryd.func29, Tryd.ntmps29
          go_wp2
          go_ret
          exact ⟨ret_bool (unhide HF), Below.refl _ _⟩
      · have HF : Hid (false = d) := ((unhide HD).trans (decide_eq_false (fun h => c3 h.2.2.1.1))).symm
        clear HD
        go_enter Tryd.func29, Tryd.ntmps29
        go_wp2
        go_ret
        exact ⟨ret_bool (unhide HF), Below.refl _ _⟩
    · have HF : Hid (false = d) := ((unhide HD).trans (decide_eq_false (fun h => c2 h.2.1))).symm
      clear HD
      go_enter Tryd.func29, Tryd.ntmps29
      go_wp2
      go_ret
      exact ⟨ret_bool (unhide HF), Below.refl _ _⟩
  · have HF : Hid (false = d) := ((unhide HD).trans (decide_eq_false (fun h => c1 h.1))).symm
    clear HD
    go_enter Tryd.func29, Tryd.ntmps29
    go_wp2
    go_ret
    exact ⟨ret_bool (unhide HF), Below.refl _ _⟩
/-- the page's end of Merge and the program's are one -/
theorem spl_ap {L : Lo} {q : Nat} {es : List En} (hm : May L) (hq : q ≤ L.es.length) (hf : ¬ 512 < q + es.length) : apR ⟨L.b, L.t, L.es.take q⟩ es = splR L q es := by
  have hl : (L.es.take q).length = q := by rw [List.length_take]; omega
  have hc : May ⟨L.b, L.t, L.es.take q⟩ := ⟨hm.1, by show (L.es.take q).length ≤ 512; rw [hl]; have := hm.2.1; omega, goOn_take hm.2.2 q⟩
  unfold splR apR
  rw [if_neg hf]
  by_cases hg : GoOn (lastI ⟨L.b, L.t, L.es.take q⟩) (lastT ⟨L.b, L.t, L.es.take q⟩) es
  · rw [if_pos hg, if_neg (by show ¬ 512 < (L.es.take q).length + es.length; rw [hl]; exact hf), if_pos (hc.app es (by show (L.es.take q).length + es.length ≤ 512; rw [hl]; omega) hg)]
  · rw [if_neg hg, if_neg (fun h => hg ((goOn_app _ _ _ _).1 h.2.2).2)]
end Go.Proofs.YtcffbkgkdoaplaaDoor.Et
