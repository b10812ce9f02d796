/- Proved here: the page's Put at a list that may be: its number and its list. Helper contract. -/
import Derived.Test.YtknbgnoahfeigaaGreatDoorZMAk
import Derived.Test.YtknbgnoahfeigaaGreatDoorZMRPut
namespace Go.Proofs.YtknbgnoahfeigaaGreatDoor.M
open Go.RowKit

theorem rput_yes (v : Value) (l : List Mg) (m : Mg) (mo : Option Addr) (mc : Nat) (k : Nat) (w : World) (hm : mayL l) (hk : At l m.topic k) (hmx : l.length ≤ 1000000) (h : Mgs w v l) (hp : Pok w mo mc m.props) (hts : m.topic.size ≤ 140737488351232) :
    Calls Tryz.prog 7 #[v, mval m (.slice mo m.props.length mc)] w fun e w' => ∃ v' qs, e = .returned (.tuple #[v', .int .i64 (putN l m k)]) ∧ Hid (OwnMs w' w.heap.size v' qs ∧ qs.map (·.1) = putA l m k) ∧ Below w.heap.size w w' := by
  refine (rput_any v l m mo mc w hmx hm h hp hts).mono ?_
  rintro e w' ⟨⟨hn, rfl⟩ | ⟨hn, k', HAT, ⟨h0, v', qs, rfl, HO⟩ | ⟨h9, rfl⟩⟩, hb⟩
  · have e5 : putN l m k = 5 := by unfold putN; rw [if_neg (by rw [hn]; simp)]
    exact ⟨_, [], by rw [e5], ⟨OwnMs.nil _ _, by unfold putA; rw [e5]; rfl⟩, hb⟩
  · obtain rfl := (unhide HAT).uniq hk
    exact ⟨v', qs, by rw [h0], ⟨(unhide HO).1, by unfold putA; rw [if_pos h0]; exact (unhide HO).2⟩, hb⟩
  · obtain rfl := (unhide HAT).uniq hk
    exact ⟨_, [], by rw [h9], ⟨OwnMs.nil _ _, by unfold putA; rw [h9]; rfl⟩, hb⟩
end Go.Proofs.YtknbgnoahfeigaaGreatDoor.M
