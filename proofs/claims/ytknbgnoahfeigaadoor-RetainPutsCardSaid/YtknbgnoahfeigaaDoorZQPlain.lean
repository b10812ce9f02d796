/- Proved here: plain facts on lists of bytes: a text's levels, what a name and a filter are, when a name matches; that a text cut at a slash is two texts. No program is named. -/
import Derived.Test.YtknbgnoahfeigaaDoorZTPlain
import Derived.Lib.SplitLaws
import Derived.Lib.IndexAny
import Derived.Lib.Strings
namespace Go.Proofs.YtknbgnoahfeigaaDoor
open Go.RowKit

/-- the levels of a text: what stands between slashes -/
def lvl : List UInt8 → List (List UInt8)
  | [] => [[]]
  | c :: r => if c = 47 then [] :: lvl r else match lvl r with
    | h :: t => (c :: h) :: t
    | [] => [[c]]
theorem lvl_ne : ∀ l, lvl l ≠ []
  | [] => by simp [lvl]
  | c :: r => by
    unfold lvl
    split
    · simp
    · split <;> simp
theorem lvl_none : ∀ l : List UInt8, 47 ∉ l → lvl l = [l]
  | [], _ => rfl
  | c :: r, h => by
    have hc : ¬ c = 47 := fun e => h (by simp [e])
    rw [lvl, if_neg hc, lvl_none r (fun e => h (by simp [e]))]
theorem lvl_cut : ∀ (a b : List UInt8), 47 ∉ a → lvl (a ++ 47 :: b) = a :: lvl b
  | [], b, _ => by rw [List.nil_append, lvl, if_pos rfl]
  | c :: a, b, h => by
    have hc : ¬ c = 47 := fun e => h (by simp [e])
    rw [List.cons_append, lvl, if_neg hc, lvl_cut a b (fun e => h (by simp [e]))]
theorem lvl_len : ∀ l, (lvl l).length = l.count 47 + 1
  | [] => rfl
  | c :: r => by
    have ih := lvl_len r
    unfold lvl
    by_cases hc : c = 47
    · rw [if_pos hc, List.length_cons, ih, hc, List.count_cons_self]
    · rw [if_neg hc, List.count_cons_of_ne (by simpa using hc)]
      split
      · rename_i h t e; rw [e] at ih; simpa using ih
      · rename_i e; exact absurd e (lvl_ne r)
/-- a text of bytes -/
def bt (l : List UInt8) : ByteArray := ⟨l.toArray⟩
theorem bt_data (l : List UInt8) : (bt l).data.toList = l := rfl
theorem size_len (s : ByteArray) : s.data.toList.length = s.size := by rw [Array.length_toList]; rfl
/-- the levels as texts -/
def lvB (s : ByteArray) : List ByteArray := (lvl s.data.toList).map bt
theorem lvB_len (s : ByteArray) : (lvB s).length = s.data.toList.count 47 + 1 := by rw [lvB, List.length_map, lvl_len]
/-- a plus or a hash within -/
def sg (l : List UInt8) : Bool := l.any fun b => b == 43 || b == 35
theorem sg_contains (l : List UInt8) : Lib.containsAny l [43, 35] = sg l := by
  induction l with
  | nil => rfl
  | cons b r ih =>
    have hge := Lib.indexAny_ge [43, 35] r
    unfold Lib.containsAny at ih ⊢
    rw [Lib.indexAny, sg, List.any_cons]
    have hb : ([43, 35] : List UInt8).contains b = (b == 43 || b == 35) := by simp only [List.contains_cons, List.contains_nil, Bool.or_false]
    rw [hb]
    cases h : (b == 43 || b == 35)
    · rw [if_neg (by simp), Bool.false_or]
      show _ = sg r
      rw [← ih]
      split
      · rename_i e; have e := beq_iff_eq.1 e; rw [e]
      · rename_i e; have e : Lib.indexAny r [43, 35] ≠ -1 := fun x => e (beq_iff_eq.2 x)
        rw [decide_eq_true (by omega), decide_eq_true (by omega)]
    · rw [if_pos rfl]; rfl
theorem sg_app (a b : List UInt8) : sg (a ++ b) = (sg a || sg b) := by simp [sg]

/-- Check's number of a text's bytes -/
def ck (l : List UInt8) : Int := chk (l.map fun b => (b.toNat : Int))
def cnt (l : List UInt8) : Bool := decide (l ≠ []) && decide (l.count 47 < 32)
def isName (l : List UInt8) : Bool := decide (ck l = 0) && (cnt l && !sg l)
end Go.Proofs.YtknbgnoahfeigaaDoor
