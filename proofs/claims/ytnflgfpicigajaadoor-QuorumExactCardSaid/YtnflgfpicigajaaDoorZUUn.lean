/- Proved here: quorum's calls, each by one contract for what is told and what is refused. Helper contracts. -/
import Derived.Test.YtnflgfpicigajaaDoorZUCh
import Derived.Test.YtnflgfpicigajaaDoorZUBy
import Derived.Test.YtnflgfpicigajaaDoorZUIx
import Derived.Test.YtnflgfpicigajaaDoorZUSd
import Derived.Test.YtnflgfpicigajaaDoorZULw
namespace Go.Proofs.YtnflgfpicigajaaDoor.Qu
open Go.RowKit Nt
set_option maxRecDepth 100000

/-- an error's number: none, or the first -/
def er (b : Bool) : Int := match b with | true => 0 | false => 1
theorem eqn_self' (va vb : Value) (xs : List Int) (w : World) (ha : Nms w va xs) (hb : Nms w vb xs) :
    Calls Tryd.prog 20 #[va, vb] w fun e w' => e = .returned (.bool true) ∧ Hid (Below w.heap.size w w') := by
  have h := eqn_any va vb xs xs w ha hb
  rw [decide_eq_true (rfl : xs = xs)] at h
  refine h.mono ?_
  rintro e w' ⟨rfl, q, rfl⟩
  exact ⟨rfl, below_drewN (Below.refl _ _) q⟩
theorem chkU (dm : Bool) (ao : Option Addr) (n cap : Nat) (m : List Int) (w : World) (hd : dm = decide (Mem m)) (h : Ls w ao n cap m) :
    Calls Tryd.prog 12 #[.slice ao n cap] w fun e w' => ∃ E, e = .returned E ∧ Hid (ErrX w' E (er dm)) ∧ Hid (Below w.heap.size w w') := by
  refine (chk_any ao n cap m w h).mono ?_
  rintro e w' (⟨hM, rfl, rfl⟩ | ⟨hM, x, rfl, hE, hb⟩)
  · subst hd; rw [decide_eq_true hM]
    exact ⟨_, rfl, (ErrB.nil _).errX, Below.refl _ _⟩
  · subst hd; rw [decide_eq_false hM]
    exact ⟨_, rfl, ErrB.errX (.inr hE), hb⟩
theorem enoU (dm : Bool) (a1 a2 : Option Addr) (n1 c1 n2 c2 : Nat) (m v : List Int) (w : World) (hd : dm = decide (Mem m)) (h1 : Ls w a1 n1 c1 m) (h2 : Ls w a2 n2 c2 v) :
    Calls Tryd.prog 10 #[.slice a1 n1 c1, .slice a2 n2 c2] w fun e w' => ∃ E, e = .returned (.tuple #[.bool (dm && enoB m v), E]) ∧ Hid (ErrX w' E (er dm)) ∧ Hid (Below w.heap.size w w') := by
  refine (eno_any a1 a2 n1 c1 n2 c2 m v w h1 h2).mono ?_
  rintro e w' (⟨hM, rfl, rfl⟩ | ⟨hM, x, rfl, hE, hb⟩)
  · subst hd; rw [decide_eq_true hM]
    exact ⟨_, rfl, (ErrB.nil _).errX, Below.refl _ _⟩
  · subst hd; rw [decide_eq_false hM]
    exact ⟨_, rfl, ErrB.errX (.inr hE), hb⟩
theorem idxU (fb : Bool) (wn : Int) (a1 a2 : Option Addr) (n1 c1 n2 c2 : Nat) (m l : List Int) (w : World) (hf : fb = fitB m l) (hw : wn = if fb = true then idxQ l else 0) (h1 : Ls w a1 n1 c1 m) (h2 : Ls w a2 n2 c2 l) :
    Calls Tryd.prog 15 #[.slice a1 n1 c1, .slice a2 n2 c2] w fun e w' => ∃ E, e = .returned (.tuple #[.int .i64 wn, E]) ∧ Hid (ErrX w' E (er fb)) ∧ Hid (Below w.heap.size w w') := by
  refine (idx_any a1 a2 n1 c1 n2 c2 m l w h1 h2).mono ?_
  rintro e w' (⟨hM, rfl, hb⟩ | ⟨hM, x, rfl, hE, hb⟩)
  · rw [hM] at hf; subst hf; rw [if_pos rfl] at hw; subst hw
    exact ⟨_, rfl, (ErrB.nil _).errX, hb⟩
  · rw [hM] at hf; subst hf; rw [if_neg (by simp)] at hw; subst hw
    exact ⟨_, rfl, ErrB.errX (.inr hE), hb⟩
theorem rixU (wn : Int) (ao : Option Addr) (n cap : Nat) (m l : List Int) (w : World) (hf : fitB m l = true) (hw : wn = if true = true then idxQ l else 0) (h : Ls w ao n cap l) :
    Calls Tryd.prog 14 #[.slice ao n cap] w fun e w' => e = .returned (.int .i64 wn) ∧ Hid (Below w.heap.size w w') := by
  rw [if_pos rfl] at hw
  have h0 : ∀ x ∈ l, 0 ≤ x := by
    unfold fitB at hf
    simp only [Bool.and_eq_true, Bool.not_eq_true'] at hf
    have := hf.2
    unfold negB at this
    rw [List.any_eq_false] at this
    intro x hx
    have := this x hx
    simp at this
    exact this
  refine (rix_any ao n cap l w h).mono ?_
  rintro e w' ⟨rfl, q, rfl⟩
  exact ⟨by rw [hw, idx_bst h0], below_drewN (Below.refl _ _) q⟩
theorem chgU (bo : Bool) (a1 a2 : Option Addr) (n1 c1 n2 c2 : Nat) (l1 l2 : List Int) (w : World) (hd : bo = (decide (Mem l1) && decide (Mem l2))) (h1 : Ls w a1 n1 c1 l1) (h2 : Ls w a2 n2 c2 l2) :
    Calls Tryd.prog 16 #[.slice a1 n1 c1, .slice a2 n2 c2] w fun e w' => ∃ E, e = .returned (.tuple #[.bool (bo && chgB l1 l2), E]) ∧ Hid (ErrX w' E (er bo)) ∧ Hid (Below w.heap.size w w') := by
  refine (chg_any a1 a2 n1 c1 n2 c2 l1 l2 w h1 h2).mono ?_
  rintro e w' (⟨hM1, hM2, rfl, hb⟩ | ⟨hM, x, rfl, hE, hb⟩)
  · rw [decide_eq_true hM1, decide_eq_true hM2] at hd; subst hd
    exact ⟨_, rfl, (ErrB.nil _).errX, hb⟩
  · have h0 : bo = false := by
      rw [hd]
      by_cases h1 : Mem l1
      · rw [decide_eq_false (fun h2 => hM ⟨h1, h2⟩), Bool.and_false]
      · rw [decide_eq_false h1, Bool.false_and]
    subst h0
    exact ⟨_, rfl, ErrB.errX (.inr hE), hb⟩
/-- the members whose bytes a text has, or none -/
def parL (s : ByteArray) : List Int := if decide (Mem (sb s)) = true then sb s else []
theorem parU (p : Bool) (s : ByteArray) (w : World) (hp : p = decide (Mem (sb s))) (hs : s.size ≤ 17592186043904) :
    Calls Tryd.prog 19 #[.string s] w fun e w' => ∃ ao n cap E, e = .returned (.tuple #[.slice ao n cap, E]) ∧ Hid (Nms w' (.slice ao n cap) (parL s)) ∧ Hid (ErrX w' E (er p)) ∧ Hid (Below w.heap.size w w') := by
  refine (par_any s w hs).mono ?_
  unfold parL
  rintro e w' (⟨hM, ao, n, cap, rfl, ho, hb⟩ | ⟨hM, x, rfl, hE, hb⟩)
  · subst hp; rw [decide_eq_true hM, if_pos rfl]
    exact ⟨_, _, _, _, rfl, ho.ls.nms, (ErrB.nil _).errX, hb⟩
  · subst hp; rw [decide_eq_false hM, if_neg (by simp)]
    exact ⟨_, _, _, _, rfl, (Ls.nil w').nms, ErrB.errX (.inr hE), hb⟩
/-- members as bytes, or nothing -/
def bytS (dm : Bool) (m : List Int) : ByteArray := match dm with | true => bs m | false => ⟨#[]⟩
theorem bytU (dm : Bool) (ao : Option Addr) (n cap : Nat) (m : List Int) (w : World) (hd : dm = decide (Mem m)) (h : Ls w ao n cap m) :
    Calls Tryd.prog 21 #[.slice ao n cap] w fun e w' => ∃ E, e = .returned (.tuple #[.string (bytS dm m), E]) ∧ Hid (ErrX w' E (er dm)) ∧ Hid (Below w.heap.size w w') := by
  refine (byt_any ao n cap m w h).mono ?_
  rintro e w' (⟨hM, rfl, hb⟩ | ⟨hM, x, rfl, hE, hb⟩)
  · rw [decide_eq_true hM] at hd; subst hd
    exact ⟨_, rfl, (ErrB.nil _).errX, hb⟩
  · rw [decide_eq_false hM] at hd; subst hd
    exact ⟨_, rfl, ErrB.errX (.inr hE), hb⟩
/-- where the walk over the indexes stands -/
def FitR (m l : List Int) (j : Nat) (b : Bool) : Prop := (b = true ∧ Mem m ∧ l.length = m.length ∧ ∀ i, i < j → 0 ≤ l.getD i 0) ∨ (b = false ∧ fitB m l = false)
theorem FitR.all {m l : List Int} {b : Bool} (h : FitR m l l.length b) : b = fitB m l := by
  rcases h with ⟨h0, h1, h2, h3⟩ | ⟨h0, h1⟩
  · rw [h0]
    unfold fitB
    rw [decide_eq_true h1, decide_eq_true h2]
    have : negB l = false := by
      unfold negB
      rw [List.any_eq_false]
      intro x hx
      have := upto_all (p := fun x => 0 ≤ x) h3 x hx
      simpa using this
    rw [this]; rfl
  · rw [h0, h1]
theorem FitR.no {m l : List Int} {j : Nat} (h : FitR m l j false) : false = fitB m l := by
  rcases h with ⟨h0, _⟩ | ⟨_, h1⟩
  · cases h0
  · exact h1.symm
theorem FitR.step {m l : List Int} {j : Nat} (h : FitR m l j true) (hj : j < l.length) : FitR m l (j + 1) (decide (l.getD j 0 ≥ 0)) := by
  rcases h with ⟨_, h1, h2, h3⟩ | ⟨h0, _⟩
  · by_cases hy : l.getD j 0 ≥ 0
    · exact .inl ⟨decide_eq_true hy, h1, h2, upto_snoc (p := fun x => 0 ≤ x) h3 hy⟩
    · refine .inr ⟨decide_eq_false hy, ?_⟩
      unfold fitB
      have : negB l = true := by
        unfold negB
        rw [List.any_eq_true]
        exact ⟨_, mem_getD hj, decide_eq_true (by omega)⟩
      rw [this]; simp
  · cases h0
theorem FitR.start {m l : List Int} {dm : Bool} (hd : dm = decide (Mem m)) : FitR m l 0 (dm && ((l.length : Int) == (m.length : Int))) := by
  by_cases hM : Mem m
  · rw [decide_eq_true hM] at hd
    subst hd
    by_cases he : l.length = m.length
    · refine .inl ⟨?_, hM, he, fun i hi => absurd hi (Nat.not_lt_zero i)⟩
      rw [he]; simp
    · refine .inr ⟨?_, ?_⟩
      · have : ((l.length : Int) == (m.length : Int)) = false := beq_eq_false_iff_ne.2 (by omega)
        rw [this]; rfl
      · unfold fitB; rw [decide_eq_false he]; simp
  · rw [decide_eq_false hM] at hd
    subst hd
    refine .inr ⟨rfl, ?_⟩
    unfold fitB; rw [decide_eq_false hM]; rfl
end Go.Proofs.YtnflgfpicigajaaDoor.Qu
