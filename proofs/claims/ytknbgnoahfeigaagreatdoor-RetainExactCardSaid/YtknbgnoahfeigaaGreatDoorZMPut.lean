/- Proved here: the contract of retain.Put. Helper contract. -/
import Derived.Test.YtknbgnoahfeigaaGreatDoorZMJoin
import Derived.Test.YtknbgnoahfeigaaGreatDoorZMSrch
namespace Go.Proofs.YtknbgnoahfeigaaGreatDoor.M
open Go.RowKit
set_option maxRecDepth 100000

/-- a beginning, an end of a list -/
theorem MgAt.take {w : World} {b off : Nat} {l : List Mg} (h : MgAt w b off l) (k : Nat) (hk : k ≤ l.length) : MgAt w b off (l.take k) := fun j hj => by
  rw [List.length_take] at hj
  have := h j (by omega)
  rw [List.getD_eq_getElem?_getD, List.getElem?_take, if_pos (by omega), ← List.getD_eq_getElem?_getD]
  exact this
theorem MgAt.drop {w : World} {b off : Nat} {l : List Mg} (h : MgAt w b off l) (k : Nat) (_hk : k ≤ l.length) : MgAt w b (off + k * 7) (l.drop k) := fun j hj => by
  rw [List.length_drop] at hj
  have := h (k + j) (by omega)
  rw [List.getD_eq_getElem?_getD, List.getElem?_drop, ← List.getD_eq_getElem?_getD, Nat.add_assoc, ← Nat.add_mul]
  exact this
theorem Mgs.take {w : World} {b off n cap : Nat} {l : List Mg} (h : Mgs w (.slice (some ⟨b, off, none⟩) n cap) l) (k : Nat) (hk : k ≤ n) : Mgs w (.slice (some ⟨b, off, none⟩) k cap) (l.take k) := by
  obtain ⟨ao', cap', e, ⟨h1, h2⟩, hc⟩ := h
  simp only [Value.slice.injEq] at e
  obtain ⟨rfl, rfl, rfl⟩ := e
  have hl : (l.take k).length = k := by rw [List.length_take]; omega
  refine ⟨_, _, by rw [hl], ⟨by rw [hl]; omega, h2⟩, ?_⟩
  rcases hc with rfl | ⟨b', off', e, hc⟩
  · exact .inl (by simp)
  · simp only [Option.some.injEq, Addr.mk.injEq] at e
    obtain ⟨rfl, rfl, _⟩ := e
    exact .inr ⟨b, off, rfl, hc.take k hk⟩
theorem Mgs.drop {w : World} {b off n cap : Nat} {l : List Mg} (h : Mgs w (.slice (some ⟨b, off, none⟩) n cap) l) (k : Nat) (hk : k ≤ n) : Mgs w (.slice (if cap = k then some ⟨b, off, none⟩ else some ⟨b, off + k * 7, none⟩) (n - k) (cap - k)) (l.drop k) := by
  obtain ⟨ao', cap', e, ⟨h1, h2⟩, hc⟩ := h
  simp only [Value.slice.injEq] at e
  obtain ⟨rfl, rfl, rfl⟩ := e
  have hl : (l.drop k).length = l.length - k := List.length_drop
  by_cases hck : cap = k
  · rw [if_pos hck]
    have h0 : l.drop k = [] := List.drop_of_length_le (by omega)
    exact ⟨_, _, by rw [hl], ⟨by rw [hl]; omega, by omega⟩, .inl h0⟩
  · rw [if_neg hck]
    refine ⟨_, _, by rw [hl], ⟨by rw [hl]; omega, by omega⟩, ?_⟩
    rcases hc with rfl | ⟨b', off', e, hc⟩
    · exact .inl (by simp)
    · simp only [Option.some.injEq, Addr.mk.injEq] at e
      obtain ⟨rfl, rfl, _⟩ := e
      exact .inr ⟨b, _, rfl, hc.drop k hk⟩
theorem rows3_mk {w : World} {t : TypeId} {v1 v2 v3 : Value} {l1 l2 l3 : List Mg} (h1 : Mgs w v1 l1) (h2 : Mgs w v2 l2) (h3 : Mgs w v3 l3) : Rows3 (w.alloc (.cells #[v1, v2, v3] t)) w.heap.size [v1, v2, v3] [l1, l2, l3] := by
  have hb : Below w.heap.size w (w.alloc (.cells #[v1, v2, v3] t)) := (Below.refl _ _).alloc (Nat.le_refl _) _
  refine ⟨rfl, fun i hi => ?_⟩
  have : i = 0 ∨ i = 1 ∨ i = 2 := by simp at hi; omega
  rcases this with rfl | rfl | rfl
  · exact ⟨by simp, h1.below hb⟩
  · exact ⟨by simp, h2.below hb⟩
  · exact ⟨by simp, h3.below hb⟩
theorem joined3 {w : World} {t : TypeId} {v1 v2 v3 : Value} {l1 l2 l3 : List Mg} (h1 : Mgs w v1 l1) (h2 : Mgs w v2 l2) (h3 : Mgs w v3 l3) (ht : [l1, l2, l3].flatten.length ≤ 1000000000) :
    Calls Tryz.prog 33 #[.slice (some ⟨w.heap.size, 0, none⟩) 3 3] (w.alloc (.cells #[v1, v2, v3] t)) fun e w' => ∃ v qs, e = .returned v ∧ Hid (OwnMs w' (w.alloc (.cells #[v1, v2, v3] t)).heap.size v qs ∧ qs.map (·.1) = [l1, l2, l3].flatten) ∧ Below (w.alloc (.cells #[v1, v2, v3] t)).heap.size (w.alloc (.cells #[v1, v2, v3] t)) w' :=
  joined_any w.heap.size 3 3 [v1, v2, v3] [l1, l2, l3] _ rfl (by omega) ht (rows3_mk h1 h2 h3)
/-- what a list is with a message more, its place being k -/
def putL (l : List Mg) (m : Mg) (k : Nat) : List Mg := l.take k ++ (wrt m ++ (if thr l m.topic k = true then l.drop (k + 1) else l.drop k))
/-- the number of Put's error at a list that may be: 0: none -/
def putN (l : List Mg) (m : Mg) (k : Nat) : Int := if nm m = true then (if thr l m.topic k = true ∨ m.payload.toList.isEmpty = true ∨ l.length < 64 then 0 else 9) else 5
def PutPost (l : List Mg) (m : Mg) (w : World) (e : Ending) (w' : World) : Prop :=
  ((¬ mayL l ∧ ∃ x, e = .returned (.tuple #[.slice none 0 0, .iface 76 x]) ∧ Hid (Era w' (.iface 76 x) 1)) ∨
   (mayL l ∧ nm m = false ∧ ∃ x, e = .returned (.tuple #[.slice none 0 0, .iface 76 x]) ∧ Hid (Era w' (.iface 76 x) 5)) ∨
   (mayL l ∧ nm m = true ∧ ∃ k, Hid (At l m.topic k) ∧
     ((putN l m k = 0 ∧ ∃ v qs, e = .returned (.tuple #[v, .nilIface]) ∧ Hid (OwnMs w' w.heap.size v qs ∧ qs.map (·.1) = putL l m k)) ∨
      (putN l m k = 9 ∧ ∃ x, e = .returned (.tuple #[.slice none 0 0, .iface 76 x]) ∧ Hid (Era w' (.iface 76 x) 9))))) ∧ Below w.heap.size w w'
set_option maxHeartbeats 8000000 in
theorem put_core (b off cap : Nat) (l : List Mg) (m : Mg) (mo : Option Addr) (mc : Nat) (len : Nat) (w : World) (hlen : l.length = len) (hcap : len ≤ cap ∧ cap ≤ maxLen) (hmx : len ≤ 1000000) (ht : TopOk l) (hl : MgAt w b off l) (hp : Pok w mo mc m.props) (hts : m.topic.size ≤ 140737488351232) :
    Calls Tryz.prog 12 #[.slice (some ⟨b, off, none⟩) len cap, mval m (.slice mo m.props.length mc)] w (PutPost l m w) := by
  have HMG : Hid (∀ W, Below w.heap.size w W → Mgs W (.slice (some ⟨b, off, none⟩) len cap) l) := fun W hW => ⟨_, _, by rw [hlen], by rw [hlen]; exact hcap, .inr ⟨b, off, rfl, hl.below hW⟩⟩
  have HCK := hide (fun W (hW : Below w.heap.size w W) => check_any _ l W (by omega) ht ((unhide HMG) W hW))
  have HP := hide hp
  have HLEN := hide hlen
  have HTS := hide hts
  clear hl ht hlen hp hts
  obtain ⟨hcl, hcm⟩ := hcap
  go_enter Tryz.func12, Tryz.ntmps12
  go_wp2_with fail
  refine ((unhide HCK) _ (by go_grown)).mono ?_
  clear HCK
  rintro e w1 ⟨⟨hmay, rfl⟩ | ⟨hmay, x, rfl, hx⟩, hb1⟩
  · have HM := hide hmay
    clear hmay
    obtain ⟨y0, y1, y2, y3, y4, y5, y6⟩ := box7 hb1
    have HB1 : Hid (Below w.heap.size w w1) := bnx ((Below.refl _ _).alloc (Nat.le_refl _) _) hb1
    have HBX := hide hb1
    clear hb1
    cases hn : nm m
    · go_wp2_with (first
        | (go_at_call 29; refine (namen m.topic _ (unhide HTS) hn).mono ?_; rintro e w2 ⟨x, rfl, hx, hb2⟩)
        | (go_at_call 30; refine (rfault_any 1 (by decide) _ 5 _ (unhide hx)).mono ?_; rintro e w3 ⟨y, rfl, hy, hb3⟩))
      go_returns
      exact ⟨.inr (.inl ⟨unhide HM, hn, y, rfl, hy⟩), bnx (bnx (unhide HB1) hb2) hb3⟩
    · go_wp2_with (first
        | (go_at_call 29; refine (namey m.topic _ hn).mono ?_; rintro e w2 ⟨rfl, hb2⟩; clear y0 y1 y2 y3 y4 y5 y6; obtain ⟨y0, y1, y2, y3, y4, y5, y6⟩ := box7 (bnx (unhide HBX) hb2); have HB2 := hide (bnx (unhide HB1) hb2); have HBX2 := hide (bnx (unhide HBX) hb2); clear hb2)
        | fail)
      refine (bs_any _ l m.topic _ (by rw [unhide HLEN]; omega) (unhide HM) ((unhide HMG) _ (unhide HB2))).mono ?_
      rintro e w3 ⟨k, rfl, HAT, hb3⟩
      clear y0 y1 y2 y3 y4 y5 y6
      obtain ⟨y0, y1, y2, y3, y4, y5, y6⟩ := box7 (bnx (unhide HBX2) hb3)
      have HB3 := hide (bnx (unhide HB2) hb3)
      have HBX3 := hide (bnx (unhide HBX2) hb3)
      have hk : k ≤ len := by have := (unhide HAT).1; rw [unhide HLEN] at this; exact this
      clear hb3
      have HK : Hid (∀ W : World, Below w3.heap.size w3 W → W.cell? ⟨w.heap.size, 0, none⟩ = some (.string m.topic) ∧ W.cell? ⟨w.heap.size, 1, none⟩ = some (.string m.payload) ∧ W.cell? ⟨w.heap.size, 2, none⟩ = some (.int .i64 m.qos) ∧ W.cell? ⟨w.heap.size, 3, none⟩ = some (.bool m.ret) ∧ W.cell? ⟨w.heap.size, 4, none⟩ = some (.string m.frm) ∧ W.cell? ⟨w.heap.size, 5, none⟩ = some (.int .i64 m.untl) ∧ W.cell? ⟨w.heap.size, 6, none⟩ = some (.slice mo m.props.length mc)) := fun W hW => box7 (bnx (unhide HBX3) hW)
      have HPB : Hid (∀ W : World, Below w3.heap.size w3 W → Pok W mo mc m.props) := fun W hW => (unhide HP).below (bnx (unhide HB3) hW)
      have HM0 := hide ((unhide HMG) _ (unhide HB3))
      have HM1 := hide ((unhide HM0).take k hk)
      have HTOT : Hid (∀ x : List Mg, x.length ≤ len → [l.take k, wrt m, x].flatten.length ≤ 1000000000) := fun x hx => by
        have h1 : (l.take k).length ≤ len := by rw [List.length_take, unhide HLEN]; omega
        have h2 : (wrt m).length ≤ 1 := by unfold wrt; split <;> simp
        simp only [List.flatten_cons, List.flatten_nil, List.append_nil, List.length_append]
        omega
      clear HBX HBX2 HB1 HB2
      cases hth : thr l m.topic k
      · have HD : Hid (putL l m k = l.take k ++ (wrt m ++ l.drop k)) := by show _ = _; unfold putL; rw [if_neg (by rw [hth]; simp)]
        by_cases hck : cap = k
        · have hlk : len = k := by omega
          subst hck
          subst hlk
          have HX : Hid (l.drop len = []) := List.drop_of_length_le (by rw [unhide HLEN]; exact Nat.le_refl _)
          have HM3 : Hid (Mgs w3 (.slice (some ⟨b, off, none⟩) 0 0) []) := ⟨_, _, rfl, ⟨Nat.le_refl _, by simp⟩, .inl rfl⟩
          rw [unhide HX] at HD
          cases hpe : m.payload.toList.isEmpty
          · by_cases h64 : len < 64
            · have HN0 : Hid (putN l m len = 0) := by show _ = _; unfold putN; rw [if_pos hn, if_pos (.inr (.inr (by rw [unhide HLEN]; exact h64)))]
              go_wp2_with fail
              refine wp_region_noPanic ?_
              refine wp_region_held_drew (S := (fun w' => w'.cell? ⟨w.heap.size, 0, none⟩ = some (.string m.topic) ∧ w'.cell? ⟨w.heap.size, 1, none⟩ = some (.string m.payload) ∧ w'.cell? ⟨w.heap.size, 2, none⟩ = some (.int .i64 m.qos) ∧ w'.cell? ⟨w.heap.size, 3, none⟩ = some (.bool m.ret) ∧ w'.cell? ⟨w.heap.size, 4, none⟩ = some (.string m.frm) ∧ w'.cell? ⟨w.heap.size, 5, none⟩ = some (.int .i64 m.untl) ∧ w'.cell? ⟨w.heap.size, 6, none⟩ = some (.slice mo m.props.length mc))) (by kernel_rfl) ((unhide HK) _ (below_drewN (Below.refl _ _) 1)) (fun hHeld => ?_)
              refine rtk 0 (h := ?_)
              refine rtk 1 (h := ?_)
              refine rtk 2 (h := ?_)
              refine rtk 3 (h := ?_)
              refine rtk 5 (h := ?_)
              refine rcl 4 (h := fun K hK => ?_)
              go_simp
              refine (worth_any m mo mc _ ((unhide HPB) _ (below_drewN (Below.refl _ _) 1))).mono ?_
              rintro e w5 ⟨v5, rfl, HV5, hb5⟩
              have HB5 : Hid (Below w3.heap.size w3 w5) := (below_drewN (Below.refl _ _) 1).trans hb5
              clear hb5
              obtain ⟨o5, c5, e5⟩ : ∃ o c, v5 = .slice o (wrt m).length c := by obtain ⟨o, c, h, _⟩ := unhide HV5; exact ⟨o, c, h⟩
              subst e5
              refine hK.out _ _ ((unhide HK) _ (unhide HB5)) (fun hHeld => ?_)
              clear hK K
              refine rcl 6 (h := fun K hK => ?_)
              go_simp
              refine hK.out _ _ ((unhide HK) _ ((unhide HB5).alloc (unhide HB5).size _)) (fun hHeld => ?_)
              clear hK K
              refine rcl 7 (h := fun K hK => ?_)
              go_simp
              refine (joined3 ((unhide HM1).below (unhide HB5)) (unhide HV5) ((unhide HM3).below (unhide HB5)) ((unhide HTOT) _ (by simp <;> (have := unhide HLEN; omega)))).mono ?_
              rintro e w6 ⟨v6, qs, rfl, HO6, hb6⟩
              have HB6 : Hid (Below w3.heap.size w3 w6) := bnx ((unhide HB5).alloc (unhide HB5).size _) hb6
              have hsz6 := (unhide HB5).size
              clear hb6
              refine hK.out _ _ ((unhide HK) _ (unhide HB6)) (fun hHeld => ?_)
              clear hK K
              refine rcl 8 (h := fun K hK => ?_)
              go_simp
              refine hK.out _ _ ((unhide HK) _ (unhide HB6)) (fun hHeld => ?_)
              clear hK K
              refine rcl 9 (h := fun K hK => ?_)
              go_simp
              refine hK.out _ _ ((unhide HK) _ (unhide HB6)) (fun hHeld => ?_)
              clear hK K
              refine wpAnyH_done (by kernel_rfl) ?_ _
              refine NoPanic.normal ?_
              go_wp2
              go_returns
              exact ⟨.inr (.inr ⟨unhide HM, hn, len, HAT, .inl ⟨unhide HN0, v6, qs, rfl, (unhide HO6).1.mono (by have := (unhide HB3).size; simp; omega), by rw [(unhide HO6).2, unhide HD]; simp⟩⟩), bnx (unhide HB3) (unhide HB6)⟩
            · have HN9 : Hid (putN l m len = 9) := by show _ = _; unfold putN; rw [if_pos hn, if_neg (by rw [hth, hpe, unhide HLEN]; simp; omega)]
              go_wp2_with (go_at_call 30; refine (rfault_n 9 _).mono ?_; rintro e w5 ⟨x, rfl, hx, hb5⟩)
              go_returns
              exact ⟨.inr (.inr ⟨unhide HM, hn, len, HAT, .inr ⟨unhide HN9, x, rfl, hx⟩⟩), bnx (unhide HB3) hb5⟩
          · have HN0 : Hid (putN l m len = 0) := by show _ = _; unfold putN; rw [if_pos hn, if_pos (.inr (.inl hpe))]
            go_wp2_with fail
            refine wp_region_noPanic ?_
            refine wp_region_held_drew (S := (fun w' => w'.cell? ⟨w.heap.size, 0, none⟩ = some (.string m.topic) ∧ w'.cell? ⟨w.heap.size, 1, none⟩ = some (.string m.payload) ∧ w'.cell? ⟨w.heap.size, 2, none⟩ = some (.int .i64 m.qos) ∧ w'.cell? ⟨w.heap.size, 3, none⟩ = some (.bool m.ret) ∧ w'.cell? ⟨w.heap.size, 4, none⟩ = some (.string m.frm) ∧ w'.cell? ⟨w.heap.size, 5, none⟩ = some (.int .i64 m.untl) ∧ w'.cell? ⟨w.heap.size, 6, none⟩ = some (.slice mo m.props.length mc))) (by kernel_rfl) ((unhide HK) _ (below_drewN (Below.refl _ _) 1)) (fun hHeld => ?_)
            refine rtk 0 (h := ?_)
            refine rtk 1 (h := ?_)
            refine rtk 2 (h := ?_)
            refine rtk 3 (h := ?_)
            refine rtk 5 (h := ?_)
            refine rcl 4 (h := fun K hK => ?_)
            go_simp
            refine (worth_any m mo mc _ ((unhide HPB) _ (below_drewN (Below.refl _ _) 1))).mono ?_
            rintro e w5 ⟨v5, rfl, HV5, hb5⟩
            have HB5 : Hid (Below w3.heap.size w3 w5) := (below_drewN (Below.refl _ _) 1).trans hb5
            clear hb5
            obtain ⟨o5, c5, e5⟩ : ∃ o c, v5 = .slice o (wrt m).length c := by obtain ⟨o, c, h, _⟩ := unhide HV5; exact ⟨o, c, h⟩
            subst e5
            refine hK.out _ _ ((unhide HK) _ (unhide HB5)) (fun hHeld => ?_)
            clear hK K
            refine rcl 6 (h := fun K hK => ?_)
            go_simp
            refine hK.out _ _ ((unhide HK) _ ((unhide HB5).alloc (unhide HB5).size _)) (fun hHeld => ?_)
            clear hK K
            refine rcl 7 (h := fun K hK => ?_)
            go_simp
            refine (joined3 ((unhide HM1).below (unhide HB5)) (unhide HV5) ((unhide HM3).below (unhide HB5)) ((unhide HTOT) _ (by simp <;> (have := unhide HLEN; omega)))).mono ?_
            rintro e w6 ⟨v6, qs, rfl, HO6, hb6⟩
            have HB6 : Hid (Below w3.heap.size w3 w6) := bnx ((unhide HB5).alloc (unhide HB5).size _) hb6
            have hsz6 := (unhide HB5).size
            clear hb6
            refine hK.out _ _ ((unhide HK) _ (unhide HB6)) (fun hHeld => ?_)
            clear hK K
            refine rcl 8 (h := fun K hK => ?_)
            go_simp
            refine hK.out _ _ ((unhide HK) _ (unhide HB6)) (fun hHeld => ?_)
            clear hK K
            refine rcl 9 (h := fun K hK => ?_)
            go_simp
            refine hK.out _ _ ((unhide HK) _ (unhide HB6)) (fun hHeld => ?_)
            clear hK K
            refine wpAnyH_done (by kernel_rfl) ?_ _
            refine NoPanic.normal ?_
            go_wp2
            go_returns
            exact ⟨.inr (.inr ⟨unhide HM, hn, len, HAT, .inl ⟨unhide HN0, v6, qs, rfl, (unhide HO6).1.mono (by have := (unhide HB3).size; simp; omega), by rw [(unhide HO6).2, unhide HD]; simp⟩⟩), bnx (unhide HB3) (unhide HB6)⟩
        · have HM3 := hide ((unhide HM0).drop k hk)
          rw [if_neg hck] at HM3
          cases hpe : m.payload.toList.isEmpty
          · by_cases h64 : len < 64
            · have HN0 : Hid (putN l m k = 0) := by show _ = _; unfold putN; rw [if_pos hn, if_pos (.inr (.inr (by rw [unhide HLEN]; exact h64)))]
              go_wp2_with fail
              refine wp_region_noPanic ?_
              refine wp_region_held_drew (S := (fun w' => w'.cell? ⟨w.heap.size, 0, none⟩ = some (.string m.topic) ∧ w'.cell? ⟨w.heap.size, 1, none⟩ = some (.string m.payload) ∧ w'.cell? ⟨w.heap.size, 2, none⟩ = some (.int .i64 m.qos) ∧ w'.cell? ⟨w.heap.size, 3, none⟩ = some (.bool m.ret) ∧ w'.cell? ⟨w.heap.size, 4, none⟩ = some (.string m.frm) ∧ w'.cell? ⟨w.heap.size, 5, none⟩ = some (.int .i64 m.untl) ∧ w'.cell? ⟨w.heap.size, 6, none⟩ = some (.slice mo m.props.length mc))) (by kernel_rfl) ((unhide HK) _ (below_drewN (Below.refl _ _) 1)) (fun hHeld => ?_)
              refine rtk 0 (h := ?_)
              refine rtk 1 (h := ?_)
              refine rtk 2 (h := ?_)
              refine rtk 3 (h := ?_)
              refine rtk 5 (h := ?_)
              refine rcl 4 (h := fun K hK => ?_)
              go_simp
              refine (worth_any m mo mc _ ((unhide HPB) _ (below_drewN (Below.refl _ _) 1))).mono ?_
              rintro e w5 ⟨v5, rfl, HV5, hb5⟩
              have HB5 : Hid (Below w3.heap.size w3 w5) := (below_drewN (Below.refl _ _) 1).trans hb5
              clear hb5
              obtain ⟨o5, c5, e5⟩ : ∃ o c, v5 = .slice o (wrt m).length c := by obtain ⟨o, c, h, _⟩ := unhide HV5; exact ⟨o, c, h⟩
              subst e5
              refine hK.out _ _ ((unhide HK) _ (unhide HB5)) (fun hHeld => ?_)
              clear hK K
              refine rcl 6 (h := fun K hK => ?_)
              go_simp
              refine hK.out _ _ ((unhide HK) _ ((unhide HB5).alloc (unhide HB5).size _)) (fun hHeld => ?_)
              clear hK K
              refine rcl 7 (h := fun K hK => ?_)
              go_simp
              refine (joined3 ((unhide HM1).below (unhide HB5)) (unhide HV5) ((unhide HM3).below (unhide HB5)) ((unhide HTOT) _ (by simp <;> (have := unhide HLEN; omega)))).mono ?_
              rintro e w6 ⟨v6, qs, rfl, HO6, hb6⟩
              have HB6 : Hid (Below w3.heap.size w3 w6) := bnx ((unhide HB5).alloc (unhide HB5).size _) hb6
              have hsz6 := (unhide HB5).size
              clear hb6
              refine hK.out _ _ ((unhide HK) _ (unhide HB6)) (fun hHeld => ?_)
              clear hK K
              refine rcl 8 (h := fun K hK => ?_)
              go_simp
              refine hK.out _ _ ((unhide HK) _ (unhide HB6)) (fun hHeld => ?_)
              clear hK K
              refine rcl 9 (h := fun K hK => ?_)
              go_simp
              refine hK.out _ _ ((unhide HK) _ (unhide HB6)) (fun hHeld => ?_)
              clear hK K
              refine wpAnyH_done (by kernel_rfl) ?_ _
              refine NoPanic.normal ?_
              go_wp2
              go_returns
              exact ⟨.inr (.inr ⟨unhide HM, hn, k, HAT, .inl ⟨unhide HN0, v6, qs, rfl, (unhide HO6).1.mono (by have := (unhide HB3).size; simp; omega), by rw [(unhide HO6).2, unhide HD]; simp⟩⟩), bnx (unhide HB3) (unhide HB6)⟩
            · have HN9 : Hid (putN l m k = 9) := by show _ = _; unfold putN; rw [if_pos hn, if_neg (by rw [hth, hpe, unhide HLEN]; simp; omega)]
              go_wp2_with (go_at_call 30; refine (rfault_n 9 _).mono ?_; rintro e w5 ⟨x, rfl, hx, hb5⟩)
              go_returns
              exact ⟨.inr (.inr ⟨unhide HM, hn, k, HAT, .inr ⟨unhide HN9, x, rfl, hx⟩⟩), bnx (unhide HB3) hb5⟩
          · have HN0 : Hid (putN l m k = 0) := by show _ = _; unfold putN; rw [if_pos hn, if_pos (.inr (.inl hpe))]
            go_wp2_with fail
            refine wp_region_noPanic ?_
            refine wp_region_held_drew (S := (fun w' => w'.cell? ⟨w.heap.size, 0, none⟩ = some (.string m.topic) ∧ w'.cell? ⟨w.heap.size, 1, none⟩ = some (.string m.payload) ∧ w'.cell? ⟨w.heap.size, 2, none⟩ = some (.int .i64 m.qos) ∧ w'.cell? ⟨w.heap.size, 3, none⟩ = some (.bool m.ret) ∧ w'.cell? ⟨w.heap.size, 4, none⟩ = some (.string m.frm) ∧ w'.cell? ⟨w.heap.size, 5, none⟩ = some (.int .i64 m.untl) ∧ w'.cell? ⟨w.heap.size, 6, none⟩ = some (.slice mo m.props.length mc))) (by kernel_rfl) ((unhide HK) _ (below_drewN (Below.refl _ _) 1)) (fun hHeld => ?_)
            refine rtk 0 (h := ?_)
            refine rtk 1 (h := ?_)
            refine rtk 2 (h := ?_)
            refine rtk 3 (h := ?_)
            refine rtk 5 (h := ?_)
            refine rcl 4 (h := fun K hK => ?_)
            go_simp
            refine (worth_any m mo mc _ ((unhide HPB) _ (below_drewN (Below.refl _ _) 1))).mono ?_
            rintro e w5 ⟨v5, rfl, HV5, hb5⟩
            have HB5 : Hid (Below w3.heap.size w3 w5) := (below_drewN (Below.refl _ _) 1).trans hb5
            clear hb5
            obtain ⟨o5, c5, e5⟩ : ∃ o c, v5 = .slice o (wrt m).length c := by obtain ⟨o, c, h, _⟩ := unhide HV5; exact ⟨o, c, h⟩
            subst e5
            refine hK.out _ _ ((unhide HK) _ (unhide HB5)) (fun hHeld => ?_)
            clear hK K
            refine rcl 6 (h := fun K hK => ?_)
            go_simp
            refine hK.out _ _ ((unhide HK) _ ((unhide HB5).alloc (unhide HB5).size _)) (fun hHeld => ?_)
            clear hK K
            refine rcl 7 (h := fun K hK => ?_)
            go_simp
            refine (joined3 ((unhide HM1).below (unhide HB5)) (unhide HV5) ((unhide HM3).below (unhide HB5)) ((unhide HTOT) _ (by simp <;> (have := unhide HLEN; omega)))).mono ?_
            rintro e w6 ⟨v6, qs, rfl, HO6, hb6⟩
            have HB6 : Hid (Below w3.heap.size w3 w6) := bnx ((unhide HB5).alloc (unhide HB5).size _) hb6
            have hsz6 := (unhide HB5).size
            clear hb6
            refine hK.out _ _ ((unhide HK) _ (unhide HB6)) (fun hHeld => ?_)
            clear hK K
            refine rcl 8 (h := fun K hK => ?_)
            go_simp
            refine hK.out _ _ ((unhide HK) _ (unhide HB6)) (fun hHeld => ?_)
            clear hK K
            refine rcl 9 (h := fun K hK => ?_)
            go_simp
            refine hK.out _ _ ((unhide HK) _ (unhide HB6)) (fun hHeld => ?_)
            clear hK K
            refine wpAnyH_done (by kernel_rfl) ?_ _
            refine NoPanic.normal ?_
            go_wp2
            go_returns
            exact ⟨.inr (.inr ⟨unhide HM, hn, k, HAT, .inl ⟨unhide HN0, v6, qs, rfl, (unhide HO6).1.mono (by have := (unhide HB3).size; simp; omega), by rw [(unhide HO6).2, unhide HD]; simp⟩⟩), bnx (unhide HB3) (unhide HB6)⟩
      · have HD : Hid (putL l m k = l.take k ++ (wrt m ++ l.drop (k + 1))) := by show _ = _; unfold putL; rw [if_pos hth]
        have HN0 : Hid (putN l m k = 0) := by show _ = _; unfold putN; rw [if_pos hn, if_pos (.inl hth)]
        have hkl : k < len := by
          unfold thr at hth
          simp only [Bool.and_eq_true, decide_eq_true_eq] at hth
          rw [← unhide HLEN]; exact hth.1
        have HM2 := hide ((unhide HM0).drop k hk)
        rw [if_neg (by omega)] at HM2
        have HM3 := hide ((unhide HM2).drop 1 (by omega))
        rw [List.drop_drop, Nat.one_mul] at HM3
        by_cases hc1 : cap - k = 1
        · rw [if_pos hc1, hc1] at HM3
          go_wp2_with fail
          refine wp_region_noPanic ?_
          refine wp_region_held_drew (S := (fun w' => w'.cell? ⟨w.heap.size, 0, none⟩ = some (.string m.topic) ∧ w'.cell? ⟨w.heap.size, 1, none⟩ = some (.string m.payload) ∧ w'.cell? ⟨w.heap.size, 2, none⟩ = some (.int .i64 m.qos) ∧ w'.cell? ⟨w.heap.size, 3, none⟩ = some (.bool m.ret) ∧ w'.cell? ⟨w.heap.size, 4, none⟩ = some (.string m.frm) ∧ w'.cell? ⟨w.heap.size, 5, none⟩ = some (.int .i64 m.untl) ∧ w'.cell? ⟨w.heap.size, 6, none⟩ = some (.slice mo m.props.length mc))) (by kernel_rfl) ((unhide HK) _ (below_drewN (Below.refl _ _) 1)) (fun hHeld => ?_)
          refine rtk 0 (h := ?_)
          refine rtk 1 (h := ?_)
          refine rtk 2 (h := ?_)
          refine rtk 3 (h := ?_)
          refine rtk 5 (h := ?_)
          refine rcl 4 (h := fun K hK => ?_)
          go_simp
          refine (worth_any m mo mc _ ((unhide HPB) _ (below_drewN (Below.refl _ _) 1))).mono ?_
          rintro e w5 ⟨v5, rfl, HV5, hb5⟩
          have HB5 : Hid (Below w3.heap.size w3 w5) := (below_drewN (Below.refl _ _) 1).trans hb5
          clear hb5
          obtain ⟨o5, c5, e5⟩ : ∃ o c, v5 = .slice o (wrt m).length c := by obtain ⟨o, c, h, _⟩ := unhide HV5; exact ⟨o, c, h⟩
          subst e5
          refine hK.out _ _ ((unhide HK) _ (unhide HB5)) (fun hHeld => ?_)
          clear hK K
          refine rcl 6 (h := fun K hK => ?_)
          go_simp
          refine hK.out _ _ ((unhide HK) _ ((unhide HB5).alloc (unhide HB5).size _)) (fun hHeld => ?_)
          clear hK K
          refine rcl 7 (h := fun K hK => ?_)
          go_simp
          refine (joined3 ((unhide HM1).below (unhide HB5)) (unhide HV5) ((unhide HM3).below (unhide HB5)) ((unhide HTOT) _ (by simp <;> (have := unhide HLEN; omega)))).mono ?_
          rintro e w6 ⟨v6, qs, rfl, HO6, hb6⟩
          have HB6 : Hid (Below w3.heap.size w3 w6) := bnx ((unhide HB5).alloc (unhide HB5).size _) hb6
          have hsz6 := (unhide HB5).size
          clear hb6
          refine hK.out _ _ ((unhide HK) _ (unhide HB6)) (fun hHeld => ?_)
          clear hK K
          refine rcl 8 (h := fun K hK => ?_)
          go_simp
          refine hK.out _ _ ((unhide HK) _ (unhide HB6)) (fun hHeld => ?_)
          clear hK K
          refine rcl 9 (h := fun K hK => ?_)
          go_simp
          refine hK.out _ _ ((unhide HK) _ (unhide HB6)) (fun hHeld => ?_)
          clear hK K
          refine wpAnyH_done (by kernel_rfl) ?_ _
          refine NoPanic.normal ?_
          go_wp2
          go_returns
          exact ⟨.inr (.inr ⟨unhide HM, hn, k, HAT, .inl ⟨unhide HN0, v6, qs, rfl, (unhide HO6).1.mono (by have := (unhide HB3).size; simp; omega), by rw [(unhide HO6).2, unhide HD]; simp⟩⟩), bnx (unhide HB3) (unhide HB6)⟩
        · rw [if_neg hc1] at HM3
          go_wp2_with fail
          refine wp_region_noPanic ?_
          refine wp_region_held_drew (S := (fun w' => w'.cell? ⟨w.heap.size, 0, none⟩ = some (.string m.topic) ∧ w'.cell? ⟨w.heap.size, 1, none⟩ = some (.string m.payload) ∧ w'.cell? ⟨w.heap.size, 2, none⟩ = some (.int .i64 m.qos) ∧ w'.cell? ⟨w.heap.size, 3, none⟩ = some (.bool m.ret) ∧ w'.cell? ⟨w.heap.size, 4, none⟩ = some (.string m.frm) ∧ w'.cell? ⟨w.heap.size, 5, none⟩ = some (.int .i64 m.untl) ∧ w'.cell? ⟨w.heap.size, 6, none⟩ = some (.slice mo m.props.length mc))) (by kernel_rfl) ((unhide HK) _ (below_drewN (Below.refl _ _) 1)) (fun hHeld => ?_)
          refine rtk 0 (h := ?_)
          refine rtk 1 (h := ?_)
          refine rtk 2 (h := ?_)
          refine rtk 3 (h := ?_)
          refine rtk 5 (h := ?_)
          refine rcl 4 (h := fun K hK => ?_)
          go_simp
          refine (worth_any m mo mc _ ((unhide HPB) _ (below_drewN (Below.refl _ _) 1))).mono ?_
          rintro e w5 ⟨v5, rfl, HV5, hb5⟩
          have HB5 : Hid (Below w3.heap.size w3 w5) := (below_drewN (Below.refl _ _) 1).trans hb5
          clear hb5
          obtain ⟨o5, c5, e5⟩ : ∃ o c, v5 = .slice o (wrt m).length c := by obtain ⟨o, c, h, _⟩ := unhide HV5; exact ⟨o, c, h⟩
          subst e5
          refine hK.out _ _ ((unhide HK) _ (unhide HB5)) (fun hHeld => ?_)
          clear hK K
          refine rcl 6 (h := fun K hK => ?_)
          go_simp
          refine hK.out _ _ ((unhide HK) _ ((unhide HB5).alloc (unhide HB5).size _)) (fun hHeld => ?_)
          clear hK K
          refine rcl 7 (h := fun K hK => ?_)
          go_simp
          refine (joined3 ((unhide HM1).below (unhide HB5)) (unhide HV5) ((unhide HM3).below (unhide HB5)) ((unhide HTOT) _ (by simp <;> (have := unhide HLEN; omega)))).mono ?_
          rintro e w6 ⟨v6, qs, rfl, HO6, hb6⟩
          have HB6 : Hid (Below w3.heap.size w3 w6) := bnx ((unhide HB5).alloc (unhide HB5).size _) hb6
          have hsz6 := (unhide HB5).size
          clear hb6
          refine hK.out _ _ ((unhide HK) _ (unhide HB6)) (fun hHeld => ?_)
          clear hK K
          refine rcl 8 (h := fun K hK => ?_)
          go_simp
          refine hK.out _ _ ((unhide HK) _ (unhide HB6)) (fun hHeld => ?_)
          clear hK K
          refine rcl 9 (h := fun K hK => ?_)
          go_simp
          refine hK.out _ _ ((unhide HK) _ (unhide HB6)) (fun hHeld => ?_)
          clear hK K
          refine wpAnyH_done (by kernel_rfl) ?_ _
          refine NoPanic.normal ?_
          go_wp2
          go_returns
          exact ⟨.inr (.inr ⟨unhide HM, hn, k, HAT, .inl ⟨unhide HN0, v6, qs, rfl, (unhide HO6).1.mono (by have := (unhide HB3).size; simp; omega), by rw [(unhide HO6).2, unhide HD]; simp⟩⟩), bnx (unhide HB3) (unhide HB6)⟩
  · have HM := hide hmay
    have HB1 : Hid (Below w.heap.size w w1) := bnx ((Below.refl _ _).alloc (Nat.le_refl _) _) hb1
    clear hmay hb1
    go_wp2
    go_returns
    exact ⟨.inl ⟨unhide HM, x, rfl, hx⟩, unhide HB1⟩
theorem Mgs.empty (w : World) (ao : Option Addr) (cap : Nat) (h : cap ≤ maxLen) : Mgs w (.slice ao 0 cap) [] := ⟨ao, cap, rfl, ⟨Nat.zero_le _, h⟩, .inl rfl⟩
set_option maxHeartbeats 8000000 in
theorem put_nil (ao : Option Addr) (cap : Nat) (m : Mg) (mo : Option Addr) (mc : Nat) (w : World) (hcm : cap ≤ maxLen) (hp : Pok w mo mc m.props) (hts : m.topic.size ≤ 140737488351232) :
    Calls Tryz.prog 12 #[.slice ao 0 cap, mval m (.slice mo m.props.length mc)] w (PutPost [] m w) := by
  have HM : Hid (mayL []) := fun j hj => absurd hj (Nat.not_lt_zero j)
  have HP := hide hp
  have HTS := hide hts
  clear hp hts
  go_enter Tryz.func12, Tryz.ntmps12
  go_wp2_with fail
  refine (check_any _ [] _ (by simp) (fun i hi => by simp at hi) (Mgs.empty _ _ _ hcm)).mono ?_
  rintro e w1 ⟨⟨hmay, rfl⟩ | ⟨hmay, x, rfl, hx⟩, hb1⟩
  · clear hmay
    obtain ⟨y0, y1, y2, y3, y4, y5, y6⟩ := box7 hb1
    have HB1 : Hid (Below w.heap.size w w1) := bnx ((Below.refl _ _).alloc (Nat.le_refl _) _) hb1
    have HBX := hide hb1
    clear hb1
    cases hn : nm m
    · go_wp2_with (first
        | (go_at_call 29; refine (namen m.topic _ (unhide HTS) hn).mono ?_; rintro e w2 ⟨x, rfl, hx, hb2⟩)
        | (go_at_call 30; refine (rfault_any 1 (by decide) _ 5 _ (unhide hx)).mono ?_; rintro e w3 ⟨y, rfl, hy, hb3⟩))
      go_returns
      exact ⟨.inr (.inl ⟨unhide HM, hn, y, rfl, hy⟩), bnx (bnx (unhide HB1) hb2) hb3⟩
    · go_wp2_with (first
        | (go_at_call 29; refine (namey m.topic _ hn).mono ?_; rintro e w2 ⟨rfl, hb2⟩; clear y0 y1 y2 y3 y4 y5 y6; obtain ⟨y0, y1, y2, y3, y4, y5, y6⟩ := box7 (bnx (unhide HBX) hb2); have HB2 := hide (bnx (unhide HB1) hb2); have HBX2 := hide (bnx (unhide HBX) hb2); clear hb2)
        | fail)
      refine (bs_nil _ _ m.topic _).mono ?_
      rintro e w3 ⟨rfl, hw3⟩
      obtain rfl := hw3
      have HK : Hid (∀ W : World, Below w3.heap.size w3 W → W.cell? ⟨w.heap.size, 0, none⟩ = some (.string m.topic) ∧ W.cell? ⟨w.heap.size, 1, none⟩ = some (.string m.payload) ∧ W.cell? ⟨w.heap.size, 2, none⟩ = some (.int .i64 m.qos) ∧ W.cell? ⟨w.heap.size, 3, none⟩ = some (.bool m.ret) ∧ W.cell? ⟨w.heap.size, 4, none⟩ = some (.string m.frm) ∧ W.cell? ⟨w.heap.size, 5, none⟩ = some (.int .i64 m.untl) ∧ W.cell? ⟨w.heap.size, 6, none⟩ = some (.slice mo m.props.length mc)) := fun W hW => box7 (bnx (unhide HBX2) hW)
      have HB3 := HB2
      have HPB : Hid (∀ W : World, Below w3.heap.size w3 W → Pok W mo mc m.props) := fun W hW => (unhide HP).below (bnx (unhide HB3) hW)
      have HTOT : Hid ([([] : List Mg), wrt m, []].flatten.length ≤ 1000000000) := by
        show _ ≤ _
        have h2 : (wrt m).length ≤ 1 := by unfold wrt; split <;> simp
        simp only [List.flatten_cons, List.flatten_nil, List.append_nil, List.nil_append]
        omega
      have HAT : Hid (At [] m.topic 0) := ⟨Nat.le_refl _, fun j hj => absurd hj (Nat.not_lt_zero j), fun j _ hj => absurd hj (Nat.not_lt_zero j)⟩
      have HN0 : Hid (putN [] m 0 = 0) := by show _ = _; unfold putN; rw [if_pos hn, if_pos (.inr (.inr (by simp)))]
      have HD : Hid (putL [] m 0 = wrt m) := by show _ = _; unfold putL; simp
      clear HBX HB1
      cases ao with
      | none =>
        cases hpe : m.payload.toList.isEmpty
        · go_wp2_with fail
          refine wp_region_noPanic ?_
          refine wp_region_held_drew (S := (fun w' => w'.cell? ⟨w.heap.size, 0, none⟩ = some (.string m.topic) ∧ w'.cell? ⟨w.heap.size, 1, none⟩ = some (.string m.payload) ∧ w'.cell? ⟨w.heap.size, 2, none⟩ = some (.int .i64 m.qos) ∧ w'.cell? ⟨w.heap.size, 3, none⟩ = some (.bool m.ret) ∧ w'.cell? ⟨w.heap.size, 4, none⟩ = some (.string m.frm) ∧ w'.cell? ⟨w.heap.size, 5, none⟩ = some (.int .i64 m.untl) ∧ w'.cell? ⟨w.heap.size, 6, none⟩ = some (.slice mo m.props.length mc))) (by kernel_rfl) ((unhide HK) _ (below_drewN (Below.refl _ _) 1)) (fun hHeld => ?_)
          refine rtk 0 (h := ?_)
          refine rtk 1 (h := ?_)
          refine rtk 2 (h := ?_)
          refine rtk 3 (h := ?_)
          refine rtk 5 (h := ?_)
          refine rcl 4 (h := fun K hK => ?_)
          go_simp
          refine (worth_any m mo mc _ ((unhide HPB) _ (below_drewN (Below.refl _ _) 1))).mono ?_
          rintro e w5 ⟨v5, rfl, HV5, hb5⟩
          have HB5 : Hid (Below w3.heap.size w3 w5) := (below_drewN (Below.refl _ _) 1).trans hb5
          clear hb5
          obtain ⟨o5, c5, e5⟩ : ∃ o c, v5 = .slice o (wrt m).length c := by obtain ⟨o, c, h, _⟩ := unhide HV5; exact ⟨o, c, h⟩
          subst e5
          refine hK.out _ _ ((unhide HK) _ (unhide HB5)) (fun hHeld => ?_)
          clear hK K
          refine rcl 6 (h := fun K hK => ?_)
          go_simp
          refine hK.out _ _ ((unhide HK) _ ((unhide HB5).alloc (unhide HB5).size _)) (fun hHeld => ?_)
          clear hK K
          refine rcl 7 (h := fun K hK => ?_)
          go_simp
          refine (joined3 ((Mgs.empty w3 _ _ (by omega)).below (unhide HB5)) (unhide HV5) ((Mgs.empty w3 _ _ (by omega)).below (unhide HB5)) (unhide HTOT)).mono ?_
          rintro e w6 ⟨v6, qs, rfl, HO6, hb6⟩
          have HB6 : Hid (Below w3.heap.size w3 w6) := bnx ((unhide HB5).alloc (unhide HB5).size _) hb6
          have hsz6 := (unhide HB5).size
          clear hb6
          refine hK.out _ _ ((unhide HK) _ (unhide HB6)) (fun hHeld => ?_)
          clear hK K
          refine rcl 8 (h := fun K hK => ?_)
          go_simp
          refine hK.out _ _ ((unhide HK) _ (unhide HB6)) (fun hHeld => ?_)
          clear hK K
          refine rcl 9 (h := fun K hK => ?_)
          go_simp
          refine hK.out _ _ ((unhide HK) _ (unhide HB6)) (fun hHeld => ?_)
          clear hK K
          refine wpAnyH_done (by kernel_rfl) ?_ _
          refine NoPanic.normal ?_
          go_wp2
          go_returns
          exact ⟨.inr (.inr ⟨unhide HM, hn, 0, HAT, .inl ⟨unhide HN0, v6, qs, rfl, (unhide HO6).1.mono (by have := (unhide HB3).size; simp; omega), by rw [(unhide HO6).2, unhide HD]; simp⟩⟩), bnx (unhide HB3) (unhide HB6)⟩
        · go_wp2_with fail
          refine wp_region_noPanic ?_
          refine wp_region_held_drew (S := (fun w' => w'.cell? ⟨w.heap.size, 0, none⟩ = some (.string m.topic) ∧ w'.cell? ⟨w.heap.size, 1, none⟩ = some (.string m.payload) ∧ w'.cell? ⟨w.heap.size, 2, none⟩ = some (.int .i64 m.qos) ∧ w'.cell? ⟨w.heap.size, 3, none⟩ = some (.bool m.ret) ∧ w'.cell? ⟨w.heap.size, 4, none⟩ = some (.string m.frm) ∧ w'.cell? ⟨w.heap.size, 5, none⟩ = some (.int .i64 m.untl) ∧ w'.cell? ⟨w.heap.size, 6, none⟩ = some (.slice mo m.props.length mc))) (by kernel_rfl) ((unhide HK) _ (below_drewN (Below.refl _ _) 1)) (fun hHeld => ?_)
          refine rtk 0 (h := ?_)
          refine rtk 1 (h := ?_)
          refine rtk 2 (h := ?_)
          refine rtk 3 (h := ?_)
          refine rtk 5 (h := ?_)
          refine rcl 4 (h := fun K hK => ?_)
          go_simp
          refine (worth_any m mo mc _ ((unhide HPB) _ (below_drewN (Below.refl _ _) 1))).mono ?_
          rintro e w5 ⟨v5, rfl, HV5, hb5⟩
          have HB5 : Hid (Below w3.heap.size w3 w5) := (below_drewN (Below.refl _ _) 1).trans hb5
          clear hb5
          obtain ⟨o5, c5, e5⟩ : ∃ o c, v5 = .slice o (wrt m).length c := by obtain ⟨o, c, h, _⟩ := unhide HV5; exact ⟨o, c, h⟩
          subst e5
          refine hK.out _ _ ((unhide HK) _ (unhide HB5)) (fun hHeld => ?_)
          clear hK K
          refine rcl 6 (h := fun K hK => ?_)
          go_simp
          refine hK.out _ _ ((unhide HK) _ ((unhide HB5).alloc (unhide HB5).size _)) (fun hHeld => ?_)
          clear hK K
          refine rcl 7 (h := fun K hK => ?_)
          go_simp
          refine (joined3 ((Mgs.empty w3 _ _ (by omega)).below (unhide HB5)) (unhide HV5) ((Mgs.empty w3 _ _ (by omega)).below (unhide HB5)) (unhide HTOT)).mono ?_
          rintro e w6 ⟨v6, qs, rfl, HO6, hb6⟩
          have HB6 : Hid (Below w3.heap.size w3 w6) := bnx ((unhide HB5).alloc (unhide HB5).size _) hb6
          have hsz6 := (unhide HB5).size
          clear hb6
          refine hK.out _ _ ((unhide HK) _ (unhide HB6)) (fun hHeld => ?_)
          clear hK K
          refine rcl 8 (h := fun K hK => ?_)
          go_simp
          refine hK.out _ _ ((unhide HK) _ (unhide HB6)) (fun hHeld => ?_)
          clear hK K
          refine rcl 9 (h := fun K hK => ?_)
          go_simp
          refine hK.out _ _ ((unhide HK) _ (unhide HB6)) (fun hHeld => ?_)
          clear hK K
          refine wpAnyH_done (by kernel_rfl) ?_ _
          refine NoPanic.normal ?_
          go_wp2
          go_returns
          exact ⟨.inr (.inr ⟨unhide HM, hn, 0, HAT, .inl ⟨unhide HN0, v6, qs, rfl, (unhide HO6).1.mono (by have := (unhide HB3).size; simp; omega), by rw [(unhide HO6).2, unhide HD]; simp⟩⟩), bnx (unhide HB3) (unhide HB6)⟩
      | some a =>
        cases hpe : m.payload.toList.isEmpty
        · by_cases hc0 : cap = 0
          · go_wp2_with fail
            refine wp_region_noPanic ?_
            refine wp_region_held_drew (S := (fun w' => w'.cell? ⟨w.heap.size, 0, none⟩ = some (.string m.topic) ∧ w'.cell? ⟨w.heap.size, 1, none⟩ = some (.string m.payload) ∧ w'.cell? ⟨w.heap.size, 2, none⟩ = some (.int .i64 m.qos) ∧ w'.cell? ⟨w.heap.size, 3, none⟩ = some (.bool m.ret) ∧ w'.cell? ⟨w.heap.size, 4, none⟩ = some (.string m.frm) ∧ w'.cell? ⟨w.heap.size, 5, none⟩ = some (.int .i64 m.untl) ∧ w'.cell? ⟨w.heap.size, 6, none⟩ = some (.slice mo m.props.length mc))) (by kernel_rfl) ((unhide HK) _ (below_drewN (Below.refl _ _) 1)) (fun hHeld => ?_)
            refine rtk 0 (h := ?_)
            refine rtk 1 (h := ?_)
            refine rtk 2 (h := ?_)
            refine rtk 3 (h := ?_)
            refine rtk 5 (h := ?_)
            refine rcl 4 (h := fun K hK => ?_)
            go_simp
            refine (worth_any m mo mc _ ((unhide HPB) _ (below_drewN (Below.refl _ _) 1))).mono ?_
            rintro e w5 ⟨v5, rfl, HV5, hb5⟩
            have HB5 : Hid (Below w3.heap.size w3 w5) := (below_drewN (Below.refl _ _) 1).trans hb5
            clear hb5
            obtain ⟨o5, c5, e5⟩ : ∃ o c, v5 = .slice o (wrt m).length c := by obtain ⟨o, c, h, _⟩ := unhide HV5; exact ⟨o, c, h⟩
            subst e5
            refine hK.out _ _ ((unhide HK) _ (unhide HB5)) (fun hHeld => ?_)
            clear hK K
            refine rcl 6 (h := fun K hK => ?_)
            go_simp
            refine hK.out _ _ ((unhide HK) _ ((unhide HB5).alloc (unhide HB5).size _)) (fun hHeld => ?_)
            clear hK K
            refine rcl 7 (h := fun K hK => ?_)
            go_simp
            refine (joined3 ((Mgs.empty w3 _ _ (by omega)).below (unhide HB5)) (unhide HV5) ((Mgs.empty w3 _ _ (by omega)).below (unhide HB5)) (unhide HTOT)).mono ?_
            rintro e w6 ⟨v6, qs, rfl, HO6, hb6⟩
            have HB6 : Hid (Below w3.heap.size w3 w6) := bnx ((unhide HB5).alloc (unhide HB5).size _) hb6
            have hsz6 := (unhide HB5).size
            clear hb6
            refine hK.out _ _ ((unhide HK) _ (unhide HB6)) (fun hHeld => ?_)
            clear hK K
            refine rcl 8 (h := fun K hK => ?_)
            go_simp
            refine hK.out _ _ ((unhide HK) _ (unhide HB6)) (fun hHeld => ?_)
            clear hK K
            refine rcl 9 (h := fun K hK => ?_)
            go_simp
            refine hK.out _ _ ((unhide HK) _ (unhide HB6)) (fun hHeld => ?_)
            clear hK K
            refine wpAnyH_done (by kernel_rfl) ?_ _
            refine NoPanic.normal ?_
            go_wp2
            go_returns
            exact ⟨.inr (.inr ⟨unhide HM, hn, 0, HAT, .inl ⟨unhide HN0, v6, qs, rfl, (unhide HO6).1.mono (by have := (unhide HB3).size; simp; omega), by rw [(unhide HO6).2, unhide HD]; simp⟩⟩), bnx (unhide HB3) (unhide HB6)⟩
          · go_wp2_with fail
            refine wp_region_noPanic ?_
            refine wp_region_held_drew (S := (fun w' => w'.cell? ⟨w.heap.size, 0, none⟩ = some (.string m.topic) ∧ w'.cell? ⟨w.heap.size, 1, none⟩ = some (.string m.payload) ∧ w'.cell? ⟨w.heap.size, 2, none⟩ = some (.int .i64 m.qos) ∧ w'.cell? ⟨w.heap.size, 3, none⟩ = some (.bool m.ret) ∧ w'.cell? ⟨w.heap.size, 4, none⟩ = some (.string m.frm) ∧ w'.cell? ⟨w.heap.size, 5, none⟩ = some (.int .i64 m.untl) ∧ w'.cell? ⟨w.heap.size, 6, none⟩ = some (.slice mo m.props.length mc))) (by kernel_rfl) ((unhide HK) _ (below_drewN (Below.refl _ _) 1)) (fun hHeld => ?_)
            refine rtk 0 (h := ?_)
            refine rtk 1 (h := ?_)
            refine rtk 2 (h := ?_)
            refine rtk 3 (h := ?_)
            refine rtk 5 (h := ?_)
            refine rcl 4 (h := fun K hK => ?_)
            go_simp
            refine (worth_any m mo mc _ ((unhide HPB) _ (below_drewN (Below.refl _ _) 1))).mono ?_
            rintro e w5 ⟨v5, rfl, HV5, hb5⟩
            have HB5 : Hid (Below w3.heap.size w3 w5) := (below_drewN (Below.refl _ _) 1).trans hb5
            clear hb5
            obtain ⟨o5, c5, e5⟩ : ∃ o c, v5 = .slice o (wrt m).length c := by obtain ⟨o, c, h, _⟩ := unhide HV5; exact ⟨o, c, h⟩
            subst e5
            refine hK.out _ _ ((unhide HK) _ (unhide HB5)) (fun hHeld => ?_)
            clear hK K
            refine rcl 6 (h := fun K hK => ?_)
            go_simp
            refine hK.out _ _ ((unhide HK) _ ((unhide HB5).alloc (unhide HB5).size _)) (fun hHeld => ?_)
            clear hK K
            refine rcl 7 (h := fun K hK => ?_)
            go_simp
            refine (joined3 ((Mgs.empty w3 _ _ (by omega)).below (unhide HB5)) (unhide HV5) ((Mgs.empty w3 _ _ (by omega)).below (unhide HB5)) (unhide HTOT)).mono ?_
            rintro e w6 ⟨v6, qs, rfl, HO6, hb6⟩
            have HB6 : Hid (Below w3.heap.size w3 w6) := bnx ((unhide HB5).alloc (unhide HB5).size _) hb6
            have hsz6 := (unhide HB5).size
            clear hb6
            refine hK.out _ _ ((unhide HK) _ (unhide HB6)) (fun hHeld => ?_)
            clear hK K
            refine rcl 8 (h := fun K hK => ?_)
            go_simp
            refine hK.out _ _ ((unhide HK) _ (unhide HB6)) (fun hHeld => ?_)
            clear hK K
            refine rcl 9 (h := fun K hK => ?_)
            go_simp
            refine hK.out _ _ ((unhide HK) _ (unhide HB6)) (fun hHeld => ?_)
            clear hK K
            refine wpAnyH_done (by kernel_rfl) ?_ _
            refine NoPanic.normal ?_
            go_wp2
            go_returns
            exact ⟨.inr (.inr ⟨unhide HM, hn, 0, HAT, .inl ⟨unhide HN0, v6, qs, rfl, (unhide HO6).1.mono (by have := (unhide HB3).size; simp; omega), by rw [(unhide HO6).2, unhide HD]; simp⟩⟩), bnx (unhide HB3) (unhide HB6)⟩
        · by_cases hc0 : cap = 0
          · go_wp2_with fail
            refine wp_region_noPanic ?_
            refine wp_region_held_drew (S := (fun w' => w'.cell? ⟨w.heap.size, 0, none⟩ = some (.string m.topic) ∧ w'.cell? ⟨w.heap.size, 1, none⟩ = some (.string m.payload) ∧ w'.cell? ⟨w.heap.size, 2, none⟩ = some (.int .i64 m.qos) ∧ w'.cell? ⟨w.heap.size, 3, none⟩ = some (.bool m.ret) ∧ w'.cell? ⟨w.heap.size, 4, none⟩ = some (.string m.frm) ∧ w'.cell? ⟨w.heap.size, 5, none⟩ = some (.int .i64 m.untl) ∧ w'.cell? ⟨w.heap.size, 6, none⟩ = some (.slice mo m.props.length mc))) (by kernel_rfl) ((unhide HK) _ (below_drewN (Below.refl _ _) 1)) (fun hHeld => ?_)
            refine rtk 0 (h := ?_)
            refine rtk 1 (h := ?_)
            refine rtk 2 (h := ?_)
            refine rtk 3 (h := ?_)
            refine rtk 5 (h := ?_)
            refine rcl 4 (h := fun K hK => ?_)
            go_simp
            refine (worth_any m mo mc _ ((unhide HPB) _ (below_drewN (Below.refl _ _) 1))).mono ?_
            rintro e w5 ⟨v5, rfl, HV5, hb5⟩
            have HB5 : Hid (Below w3.heap.size w3 w5) := (below_drewN (Below.refl _ _) 1).trans hb5
            clear hb5
            obtain ⟨o5, c5, e5⟩ : ∃ o c, v5 = .slice o (wrt m).length c := by obtain ⟨o, c, h, _⟩ := unhide HV5; exact ⟨o, c, h⟩
            subst e5
            refine hK.out _ _ ((unhide HK) _ (unhide HB5)) (fun hHeld => ?_)
            clear hK K
            refine rcl 6 (h := fun K hK => ?_)
            go_simp
            refine hK.out _ _ ((unhide HK) _ ((unhide HB5).alloc (unhide HB5).size _)) (fun hHeld => ?_)
            clear hK K
            refine rcl 7 (h := fun K hK => ?_)
            go_simp
            refine (joined3 ((Mgs.empty w3 _ _ (by omega)).below (unhide HB5)) (unhide HV5) ((Mgs.empty w3 _ _ (by omega)).below (unhide HB5)) (unhide HTOT)).mono ?_
            rintro e w6 ⟨v6, qs, rfl, HO6, hb6⟩
            have HB6 : Hid (Below w3.heap.size w3 w6) := bnx ((unhide HB5).alloc (unhide HB5).size _) hb6
            have hsz6 := (unhide HB5).size
            clear hb6
            refine hK.out _ _ ((unhide HK) _ (unhide HB6)) (fun hHeld => ?_)
            clear hK K
            refine rcl 8 (h := fun K hK => ?_)
            go_simp
            refine hK.out _ _ ((unhide HK) _ (unhide HB6)) (fun hHeld => ?_)
            clear hK K
            refine rcl 9 (h := fun K hK => ?_)
            go_simp
            refine hK.out _ _ ((unhide HK) _ (unhide HB6)) (fun hHeld => ?_)
            clear hK K
            refine wpAnyH_done (by kernel_rfl) ?_ _
            refine NoPanic.normal ?_
            go_wp2
            go_returns
            exact ⟨.inr (.inr ⟨unhide HM, hn, 0, HAT, .inl ⟨unhide HN0, v6, qs, rfl, (unhide HO6).1.mono (by have := (unhide HB3).size; simp; omega), by rw [(unhide HO6).2, unhide HD]; simp⟩⟩), bnx (unhide HB3) (unhide HB6)⟩
          · go_wp2_with fail
            refine wp_region_noPanic ?_
            refine wp_region_held_drew (S := (fun w' => w'.cell? ⟨w.heap.size, 0, none⟩ = some (.string m.topic) ∧ w'.cell? ⟨w.heap.size, 1, none⟩ = some (.string m.payload) ∧ w'.cell? ⟨w.heap.size, 2, none⟩ = some (.int .i64 m.qos) ∧ w'.cell? ⟨w.heap.size, 3, none⟩ = some (.bool m.ret) ∧ w'.cell? ⟨w.heap.size, 4, none⟩ = some (.string m.frm) ∧ w'.cell? ⟨w.heap.size, 5, none⟩ = some (.int .i64 m.untl) ∧ w'.cell? ⟨w.heap.size, 6, none⟩ = some (.slice mo m.props.length mc))) (by kernel_rfl) ((unhide HK) _ (below_drewN (Below.refl _ _) 1)) (fun hHeld => ?_)
            refine rtk 0 (h := ?_)
            refine rtk 1 (h := ?_)
            refine rtk 2 (h := ?_)
            refine rtk 3 (h := ?_)
            refine rtk 5 (h := ?_)
            refine rcl 4 (h := fun K hK => ?_)
            go_simp
            refine (worth_any m mo mc _ ((unhide HPB) _ (below_drewN (Below.refl _ _) 1))).mono ?_
            rintro e w5 ⟨v5, rfl, HV5, hb5⟩
            have HB5 : Hid (Below w3.heap.size w3 w5) := (below_drewN (Below.refl _ _) 1).trans hb5
            clear hb5
            obtain ⟨o5, c5, e5⟩ : ∃ o c, v5 = .slice o (wrt m).length c := by obtain ⟨o, c, h, _⟩ := unhide HV5; exact ⟨o, c, h⟩
            subst e5
            refine hK.out _ _ ((unhide HK) _ (unhide HB5)) (fun hHeld => ?_)
            clear hK K
            refine rcl 6 (h := fun K hK => ?_)
            go_simp
            refine hK.out _ _ ((unhide HK) _ ((unhide HB5).alloc (unhide HB5).size _)) (fun hHeld => ?_)
            clear hK K
            refine rcl 7 (h := fun K hK => ?_)
            go_simp
            refine (joined3 ((Mgs.empty w3 _ _ (by omega)).below (unhide HB5)) (unhide HV5) ((Mgs.empty w3 _ _ (by omega)).below (unhide HB5)) (unhide HTOT)).mono ?_
            rintro e w6 ⟨v6, qs, rfl, HO6, hb6⟩
            have HB6 : Hid (Below w3.heap.size w3 w6) := bnx ((unhide HB5).alloc (unhide HB5).size _) hb6
            have hsz6 := (unhide HB5).size
            clear hb6
            refine hK.out _ _ ((unhide HK) _ (unhide HB6)) (fun hHeld => ?_)
            clear hK K
            refine rcl 8 (h := fun K hK => ?_)
            go_simp
            refine hK.out _ _ ((unhide HK) _ (unhide HB6)) (fun hHeld => ?_)
            clear hK K
            refine rcl 9 (h := fun K hK => ?_)
            go_simp
            refine hK.out _ _ ((unhide HK) _ (unhide HB6)) (fun hHeld => ?_)
            clear hK K
            refine wpAnyH_done (by kernel_rfl) ?_ _
            refine NoPanic.normal ?_
            go_wp2
            go_returns
            exact ⟨.inr (.inr ⟨unhide HM, hn, 0, HAT, .inl ⟨unhide HN0, v6, qs, rfl, (unhide HO6).1.mono (by have := (unhide HB3).size; simp; omega), by rw [(unhide HO6).2, unhide HD]; simp⟩⟩), bnx (unhide HB3) (unhide HB6)⟩
  · exact absurd (unhide HM) hmay
theorem put_any (v : Value) (l : List Mg) (m : Mg) (mo : Option Addr) (mc : Nat) (w : World) (hmx : l.length ≤ 1000000) (ht : TopOk l) (h : Mgs w v l) (hp : Pok w mo mc m.props) (hts : m.topic.size ≤ 140737488351232) :
    Calls Tryz.prog 12 #[v, mval m (.slice mo m.props.length mc)] w (PutPost l m w) := by
  obtain ⟨ao, cap, rfl, hcap, rfl | ⟨b, off, rfl, hc⟩⟩ := h
  · exact put_nil ao cap m mo mc w hcap.2 hp hts
  · exact put_core b off cap l m mo mc _ w rfl hcap hmx ht hc hp hts
end Go.Proofs.YtknbgnoahfeigaaGreatDoor.M
