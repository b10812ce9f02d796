/- Proved here: xorshift on plain numbers: a step is one-to-one, leads no number to itself, and the lowest bits of a long run are not all the same. Helpers that name no program. -/
import Derived.Test.YthnhbocifbhoaaaZBase
namespace Go.Proofs.Ythnhbocifbhoaaa.R
open Go.RowKit

/-- a number and it shifted, of 64 bits -/
def up (k x : Nat) : Nat := x <<< k % 2 ^ 64
/-- one step, of numbers that are not 0 -/
def xs (x : Nat) : Nat :=
  (x ^^^ up 13 x ^^^ (x ^^^ up 13 x) >>> 7) ^^^ up 17 (x ^^^ up 13 x ^^^ (x ^^^ up 13 x) >>> 7)
/-- what follows -/
def nx (s : Nat) : Nat := xs (if s = 0 then 11400714819323198485 else s)
def Add (F : Nat -> Nat) : Prop := forall x y, F (x ^^^ y) = F x ^^^ F y
theorem Add.comp {F G : Nat -> Nat} (hF : Add F) (hG : Add G) : Add (fun x => F (G x)) := fun x y => by
  show F (G (x ^^^ y)) = F (G x) ^^^ F (G y)
  rw [hG x y, hF]
theorem xor4 (a b c d : Nat) : (a ^^^ b) ^^^ (c ^^^ d) = (a ^^^ c) ^^^ (b ^^^ d) := by
  rw [Nat.xor_assoc, Nat.xor_assoc, <- Nat.xor_assoc b, <- Nat.xor_assoc c, Nat.xor_comm b c]
theorem Add.xor {F G : Nat -> Nat} (hF : Add F) (hG : Add G) : Add (fun x => F x ^^^ G x) := fun x y => by
  show F (x ^^^ y) ^^^ G (x ^^^ y) = (F x ^^^ G x) ^^^ (F y ^^^ G y)
  rw [hF x y, hG x y, xor4]
theorem Add.zero {F : Nat -> Nat} (hF : Add F) : F 0 = 0 := by
  have := hF 0 0
  rw [Nat.xor_self, Nat.xor_self] at this
  exact this
theorem add_id : Add (fun x => x) := fun _ _ => rfl
theorem add_up (k : Nat) : Add (up k) := fun x y => by
  unfold up
  rw [Nat.shiftLeft_xor_distrib, Nat.xor_mod_two_pow]
theorem add_dn (k : Nat) : Add (fun x => x >>> k) := fun _ _ => Nat.shiftRight_xor_distrib
theorem add_xs : Add xs := by
  have h1 : Add (fun x => x ^^^ up 13 x) := add_id.xor (add_up 13)
  have h2 : Add (fun x => x ^^^ up 13 x ^^^ (x ^^^ up 13 x) >>> 7) := h1.xor ((add_dn 7).comp h1)
  exact h2.xor ((add_up 17).comp h2)
/-- two that add, the same at each single bit, are the same -/
theorem add_ext {F G : Nat -> Nat} (hF : Add F) (hG : Add G) : forall n, (forall i, i < n -> F (2 ^ i) = G (2 ^ i)) -> forall x, x < 2 ^ n -> F x = G x
  | 0, _, x, hx => by
    have : x = 0 := by simpa using hx
    rw [this, hF.zero, hG.zero]
  | n + 1, h, x, hx => by
    have ih := add_ext hF hG n (fun i hi => h i (by omega))
    by_cases hb : x < 2 ^ n
    · exact ih x hb
    · have hlt : x - 2 ^ n < 2 ^ n := by rw [Nat.pow_succ] at hx; omega
      have e : x = (x - 2 ^ n) ^^^ 2 ^ n := by
        have e1 : x = 2 ^ n + (x - 2 ^ n) := by omega
        have e2 : (2 ^ n + (x - 2 ^ n) : Nat) = 2 ^ n ^^^ (x - 2 ^ n) := by
          apply Nat.eq_of_testBit_eq
          intro i
          rw [Nat.testBit_xor, Nat.testBit_two_pow]
          by_cases hi : i = n
          · subst hi
            rw [Nat.testBit_two_pow_add_eq, Nat.testBit_lt_two_pow hlt]; simp
          · rcases Nat.lt_or_gt_of_ne hi with hi' | hi'
            · rw [Nat.testBit_two_pow_add_gt hi']
              have : decide (n = i) = false := decide_eq_false (fun e => hi e.symm)
              rw [this]; simp
            · have h1 : 2 ^ n + (x - 2 ^ n) < 2 ^ i := by
                have : 2 ^ (n + 1) <= 2 ^ i := Nat.pow_le_pow_right (by decide) hi'
                omega
              have h2 : x - 2 ^ n < 2 ^ i := Nat.lt_trans hlt (Nat.pow_lt_pow_right (by decide) hi')
              rw [Nat.testBit_lt_two_pow h1, Nat.testBit_lt_two_pow h2, decide_eq_false (fun e => hi e.symm)]; rfl
        rw [Nat.xor_comm, <- e2]; exact e1
      rw [e, hF, hG, ih _ hlt, h n (by omega)]
/-- the xor of those whose bit is set -/
def lin : List Nat -> Nat -> Nat
  | [], _ => 0
  | a :: r, x => (if x % 2 = 1 then a else 0) ^^^ lin r (x / 2)
theorem add_lin : forall l, Add (lin l)
  | [], x, y => by simp [lin]
  | a :: r, x, y => by
    have h := add_lin r (x / 2) (y / 2)
    have e : (x ^^^ y) / 2 = x / 2 ^^^ y / 2 := by
      have := Nat.shiftRight_xor_distrib (a := x) (b := y) (i := 1)
      rw [Nat.shiftRight_eq_div_pow, Nat.shiftRight_eq_div_pow, Nat.shiftRight_eq_div_pow, Nat.pow_one] at this
      exact this
    have m : (x ^^^ y) % 2 = (x % 2 + y % 2) % 2 := by
      have := Nat.xor_mod_two_pow (a := x) (b := y) (n := 1)
      simp only [Nat.pow_one] at this
      rw [this]
      have hx : x % 2 = 0 ∨ x % 2 = 1 := by omega
      have hy : y % 2 = 0 ∨ y % 2 = 1 := by omega
      rcases hx with hx | hx <;> rcases hy with hy | hy <;> rw [hx, hy] <;> rfl
    unfold lin
    rw [e, h, m]
    have hx : x % 2 = 0 ∨ x % 2 = 1 := by omega
    have hy : y % 2 = 0 ∨ y % 2 = 1 := by omega
    rw [xor4]
    congr 1
    rcases hx with hx | hx <;> rcases hy with hy | hy <;> rw [hx, hy] <;> simp
def undo : List Nat := [13721891023265367629, 8992534923016744091, 17985069846033488182, 17523395618357424748, 16595543013554996441, 14739837804084373939, 11032931534459196262, 3614614845758539469, 7224726641712639387, 14449453283425278774, 10452162493141005932, 2453076763122158809, 4901649376928250291, 8929476267905233508, 17854448386360165577, 17266656848461080979, 16086569623212610342, 13726395172715669068, 9001543221917346969, 18003086443834693938, 17559428813959836260, 16667609404759819465, 14883970586494019987, 11321197099278488358, 4195650124847425100, 8386797199890410649, 16773594399780821298, 15100444725852090980, 11749641228544328905, 5048034234063038867, 9222245982174810660, 18444491964349621320, 18446744004439992465, 18446743935170433314, 18446743796631315012, 18442240469748638857, 18437736865787726098, 18428729657865900580, 18410715242022249544, 18370182261018880145, 18293620448328208674, 18140496822946865732, 17829746522379740297, 17212748971049928978, 15978753868390306340, 13510763663071061064, 8570279103116503185, 2177756241903489056, 4355512483806978112, 8715529117064257665, 17431058234128515330, 16415372394547479044, 14384000715385406472, 10321257357061261328, 2195770640412971040, 4391541280825942080, 8787586711102185601, 17575173422204371202, 16703602770699190788, 14960461467688829960, 11474178861668108304, 4501613649626664992, 9003227299253329984, 18010958747956961409]
def undoD : List Nat := [1543737011832479919, 848062959960547691, 15470882911132181007, 10122747898706093099, 4173278474950961251, 10660776033095340074, 502533042114134113, 17137591055431335982, 15828438037153120348, 8532516530407940193, 933774701730709550, 4104709767998021737, 12742917627139678219, 7039091180569804822, 16304092523707703321, 16544973821542719495, 16873608538700079163, 17674999753931776067, 3147500198616096863, 10837369353003655271, 14765726481160355874, 13315113856928718961, 12730502422019399739, 4632986311919689795, 6967379790779990122, 2397168452994793528, 7175621254636412997, 437865684269686867, 17006008948234993738, 1817397688083783757, 15156619499398938742, 4938197266289655808, 9876394532579311616, 3691830746136617013, 5144250423208304735, 5760770785756897383, 9206200966584746018, 18412401933169492036, 2246660704697090148, 18402054974764883985, 16131456810618118167, 13816169547526684718, 9185595021343817820, 2221917290982178900, 18199586511452512369, 4042421023540731963, 8084842047081463926, 18014398509481984, 36028797018963968, 72057594037927936, 144115188075855872, 288230376151711744, 576460752303423488, 1152921504606846976, 2305843009213693952, 4611686018427387904, 9223372036854775808, 2385787953710800949, 7143850856784060511, 536590819960610919, 17204585108701724706, 18201838311266197617, 4037917423913361467, 8075834847826722934]
def undoO : List Nat := [765214667332754139, 17235300656508344808, 10842792154767364426, 11861477401142530924, 14154529017182104628, 6385596388370554376, 691532738334620026, 5898541763365421178, 9711907597095275372, 12155618025712473194, 14464720641952688440, 2882249153028451682, 14123691599545303624, 2730094042262532610, 16943126684394861412, 8391591040338876758, 8412819294875497488, 10454139813421337350, 2645037302714756190, 5572395287506874938, 16312520999624989474, 14144171103483719746, 12917310659351395640, 17048491418589012308, 9196468559228725018, 2804089106546801516, 12414680139536559922, 7289974364390773054, 16285795414807087104, 3329047493701789002, 7973942233180524410, 6686695763040587866, 8108938154923198564, 1739210396313539182, 5039640327213289804, 1483330272981337414, 16926079430631865660, 8858273193987592758, 4487123005330979394, 5423209127082717454, 10611730223768939352, 432480615466467932, 3009160650165451786, 12500005660831046206, 13756769122937169242, 11694655578394963716, 3279004005068725266, 13486553326788161628, 16732199692265421102, 18295950747006212144, 15154678892734518072, 5340094515050717524, 10364499405675801888, 4184263754248862584, 7349930159865715534, 3234284937974697554, 1880517756254625852, 1122887321797376076, 1636572852913295186, 3429814496891692058, 16121056615786247282, 8649341513868404770, 12523919624944392464, 4102641269797740334]
/-- a step can be undone -/
theorem xs_undo (x : Nat) (hx : x < 2 ^ 64) : lin undo (xs x) = x := by
  refine add_ext ((add_lin undo).comp add_xs) add_id 64 ?_ x hx
  have h : (List.range 64).all (fun i => lin undo (xs (2 ^ i)) == 2 ^ i) = true := by decide +kernel
  intro i hi
  exact eq_of_beq (List.all_eq_true.1 h i (List.mem_range.2 hi))
theorem xs_inj {x y : Nat} (hx : x < 2 ^ 64) (hy : y < 2 ^ 64) (h : xs x = xs y) : x = y := by
  rw [<- xs_undo x hx, h, xs_undo y hy]
theorem xs_zero {x : Nat} (hx : x < 2 ^ 64) (h : xs x = 0) : x = 0 := xs_inj hx (by decide) (h.trans (by decide +kernel))
/-- nor leads a step to where it was -/
def df (x : Nat) : Nat := xs x ^^^ x
theorem add_df : Add df := add_xs.xor add_id
theorem df_undo (x : Nat) (hx : x < 2 ^ 64) : lin undoD (df x) = x := by
  refine add_ext ((add_lin undoD).comp add_df) add_id 64 ?_ x hx
  have h : (List.range 64).all (fun i => lin undoD (df (2 ^ i)) == 2 ^ i) = true := by decide +kernel
  intro i hi
  exact eq_of_beq (List.all_eq_true.1 h i (List.mem_range.2 hi))
theorem df_zero {x : Nat} (hx : x < 2 ^ 64) (h : df x = 0) : x = 0 := by
  have := df_undo x hx
  rw [h, (add_lin undoD).zero] at this
  exact this.symm
theorem xs_ne {x : Nat} (hx : x < 2 ^ 64) (h : xs x = x) : x = 0 := df_zero hx (by unfold df; rw [h, Nat.xor_self])
theorem up_lt (k x : Nat) : up k x < 2 ^ 64 := Nat.mod_lt _ (by decide)
theorem xs_lt {x : Nat} (hx : x < 2 ^ 64) : xs x < 2 ^ 64 := by
  have h1 : x ^^^ up 13 x < 2 ^ 64 := Nat.xor_lt_two_pow hx (up_lt _ _)
  have h2 : (x ^^^ up 13 x) >>> 7 < 2 ^ 64 := by
    rw [Nat.shiftRight_eq_div_pow]
    exact Nat.lt_of_le_of_lt (Nat.div_le_self _ _) h1
  exact Nat.xor_lt_two_pow (Nat.xor_lt_two_pow h1 h2) (up_lt _ _)
/-! runs -/
def sd (s : Nat) : Nat := if s = 0 then 11400714819323198485 else s
theorem sd_lt {s : Nat} (h : s < 2 ^ 64) : sd s < 2 ^ 64 := by unfold sd; split <;> first | decide | exact h
theorem sd_ne (s : Nat) : sd s ≠ 0 := by unfold sd; split <;> first | decide | assumption
theorem nx_lt {s : Nat} (h : s < 2 ^ 64) : nx s < 2 ^ 64 := xs_lt (sd_lt h)
theorem nx_ne0 {s : Nat} (h : s < 2 ^ 64) : nx s ≠ 0 := fun e => sd_ne s (xs_zero (sd_lt h) e)
theorem nx_of_ne {s : Nat} (h : s ≠ 0) : nx s = xs s := by unfold nx; rw [if_neg h]
theorem nx_ne {s : Nat} (h : s < 2 ^ 64) : nx s ≠ s := fun e => by
  have h0 : s ≠ 0 := fun e0 => nx_ne0 h (e.trans e0)
  rw [nx_of_ne h0] at e
  exact h0 (xs_ne h e)
theorem nx_inj {s t : Nat} (hs : s < 2 ^ 64) (ht : t < 2 ^ 64) (h0 : s ≠ 0) (h1 : t ≠ 0) (h : nx s = nx t) : s = t := by
  rw [nx_of_ne h0, nx_of_ne h1] at h
  exact xs_inj hs ht h
def nxs : Nat -> Nat -> Nat
  | 0, s => s
  | k + 1, s => nx (nxs k s)
theorem nxs_lt {s : Nat} (h : s < 2 ^ 64) : forall k, nxs k s < 2 ^ 64
  | 0 => h
  | k + 1 => nx_lt (nxs_lt h k)
def xss : Nat -> Nat -> Nat
  | 0, x => x
  | k + 1, x => xs (xss k x)
theorem xss_lt {s : Nat} (h : s < 2 ^ 64) : forall k, xss k s < 2 ^ 64
  | 0 => h
  | k + 1 => xs_lt (xss_lt h k)
theorem xss_ne {s : Nat} (h : s < 2 ^ 64) (h0 : s ≠ 0) : forall k, xss k s ≠ 0
  | 0 => h0
  | k + 1 => fun e => xss_ne h h0 k (xs_zero (xss_lt h k) e)
theorem nxs_eq {s : Nat} (h : s < 2 ^ 64) : forall k, nxs (k + 1) s = xss (k + 1) (sd s)
  | 0 => rfl
  | k + 1 => by
    show nx (nxs (k + 1) s) = xs (xss (k + 1) (sd s))
    rw [nxs_eq h k, nx_of_ne (xss_ne (sd_lt h) (sd_ne s) (k + 1))]
theorem add_xss : forall k, Add (xss k)
  | 0 => add_id
  | k + 1 => add_xs.comp (add_xss k)
/-- the lowest bits of a run, as one number -/
def obs : Nat -> Nat -> Nat
  | 0, _ => 0
  | n + 1, x => (x % 2) ^^^ (obs n (xs x)) <<< 1
theorem add_obs : forall n, Add (obs n)
  | 0, _, _ => by simp [obs]
  | n + 1, x, y => by
    unfold obs
    rw [add_xs x y, add_obs n, Nat.shiftLeft_xor_distrib]
    have := Nat.xor_mod_two_pow (a := x) (b := y) (n := 1)
    simp only [Nat.pow_one] at this
    rw [this, xor4]
theorem obs_undo (x : Nat) (hx : x < 2 ^ 64) : lin undoO (obs 64 x) = x := by
  refine add_ext ((add_lin undoO).comp (add_obs 64)) add_id 64 ?_ x hx
  have h : (List.range 64).all (fun i => lin undoO (obs 64 (2 ^ i)) == 2 ^ i) = true := by decide +kernel
  intro i hi
  exact eq_of_beq (List.all_eq_true.1 h i (List.mem_range.2 hi))
theorem xss_xs (x : Nat) : forall k, xss k (xs x) = xss (k + 1) x
  | 0 => rfl
  | k + 1 => by
    show xs (xss k (xs x)) = xs (xss (k + 1) x)
    rw [xss_xs x k]
theorem obs_zero : forall n x, (forall k, k < n -> xss k x % 2 = 0) -> obs n x = 0
  | 0, _, _ => rfl
  | n + 1, x, h => by
    unfold obs
    rw [obs_zero n (xs x) (fun k hk => by rw [xss_xs]; exact h (k + 1) (by omega)), show x % 2 = 0 from h 0 (by omega)]
    rfl
theorem xss_df (x : Nat) (k : Nat) : xss k (df x) = xss (k + 1) x ^^^ xss k x := by
  unfold df
  rw [add_xss k, xss_xs]
/-- not all numbers of a run are the same below 8 -/
theorem run_differs {s r : Nat} (hs : s < 2 ^ 64) (h : forall k, k < 400 -> nxs (k + 1) s % 8 = r) : False := by
  have hy := xss_lt (sd_lt hs) 1
  have h2 : forall k, k < 65 -> xss k (xss 1 (sd s)) % 2 = r % 2 := fun k hk => by
    have := h k (by omega)
    rw [nxs_eq hs] at this
    have e : xss k (xss 1 (sd s)) = xss (k + 1) (sd s) := xss_xs (sd s) k
    rw [e]; omega
  have h3 : obs 64 (df (xss 1 (sd s))) = 0 := obs_zero 64 _ fun k hk => by
    rw [xss_df]
    have a := h2 (k + 1) (by omega)
    have b := h2 k (by omega)
    have := Nat.xor_mod_two_pow (a := xss (k + 1) (xss 1 (sd s))) (b := xss k (xss 1 (sd s))) (n := 1)
    simp only [Nat.pow_one] at this
    rw [this, a, b, Nat.xor_self]
  have hd : df (xss 1 (sd s)) < 2 ^ 64 := Nat.xor_lt_two_pow (xs_lt hy) hy
  have h4 := obs_undo _ hd
  rw [h3, (add_lin undoO).zero] at h4
  exact xss_ne (sd_lt hs) (sd_ne s) 1 (df_zero hy h4.symm)
/-- how often a number stands in a run -/
def cnt (s r : Nat) : Nat -> Nat
  | 0 => 0
  | k + 1 => cnt s r k + if nxs (k + 1) s % 8 = r then 1 else 0
theorem cnt_le (s r : Nat) : forall k, cnt s r k <= k
  | 0 => Nat.le_refl _
  | k + 1 => by
    have := cnt_le s r k
    unfold cnt
    split <;> omega
theorem cnt_all (s r : Nat) : forall k, cnt s r k = k -> forall j, j < k -> nxs (j + 1) s % 8 = r
  | 0, _, j, hj => absurd hj (Nat.not_lt_zero _)
  | k + 1, h, j, hj => by
    have hl := cnt_le s r k
    unfold cnt at h
    split at h
    · rename_i hk
      rcases Nat.lt_or_eq_of_le (Nat.lt_succ_iff.1 hj) with h1 | h1
      · exact cnt_all s r k (by omega) j h1
      · rw [h1]; exact hk
    · omega
theorem cnt_400 {s : Nat} (hs : s < 2 ^ 64) (r : Nat) : cnt s r 400 <= 399 := by
  have := cnt_le s r 400
  rcases Nat.lt_or_eq_of_le this with h | h
  · omega
  · exact (run_differs hs (cnt_all s r 400 h)).elim
theorem nx_1 : nx 1 = 1082269761 := by decide +kernel
end Go.Proofs.Ythnhbocifbhoaaa.R
