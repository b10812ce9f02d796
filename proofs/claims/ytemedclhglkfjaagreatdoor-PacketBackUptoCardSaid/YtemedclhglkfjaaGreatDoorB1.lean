/- Proved here: helpers, one text behind the other. -/
import Derived.Test.YtemedclhglkfjaaGreatDoorM53
import Derived.Test.YtemedclhglkfjaaGreatDoorM37
import Derived.Test.YtemedclhglkfjaaGreatDoorZPBackPlain
namespace Go.Proofs.YtemedclhglkfjaaGreatDoor.K.B
open Go.RowKit
open Go.Proofs.YtemedclhglkfjaaGreatDoor.K
set_option maxRecDepth 100000
def RT {α : Type} (f : List Int -> Option (α × List Int)) (ys : List Int) (x : α) : Prop := ∀ r,f (ys ++ r) = some (x,r)
def ET {α : Type} (f : List Int -> Option (α × List Int)) (ys : List Int) (x : α) : Prop := f ys = some (x,[])
theorem RT.bind {α β : Type} {f : List Int -> Option (α × List Int)} {g : α -> List Int -> Option (β × List Int)} {ys zs : List Int} {x : α} {y : β} (h : RT f ys x) (k : RT (g x) zs y) : RT (bindR f g) (ys ++ zs) y := fun r => by
 unfold bindR
 rw [List.append_assoc,h]
 exact k r
theorem RT.bind0 {α β : Type} {f : List Int -> Option (α × List Int)} {g : α -> List Int -> Option (β × List Int)} {zs : List Int} {x : α} {y : β} (h : RT f [] x) (k : RT (g x) zs y) : RT (bindR f g) zs y := RT.bind (ys := []) h k
theorem RT.last {α β : Type} {f : List Int -> Option (α × List Int)} {ys : List Int} {x : α} {y : β} (h : RT f ys x) (φ : α -> β) (e : φ x = y) : RT (bindR f fun a => pureR (φ a)) ys y := fun r => by
 unfold bindR
 rw [h,<- e]
 rfl
theorem RT.ebind {α β : Type} {f : List Int -> Option (α × List Int)} {g : α -> List Int -> Option (β × List Int)} {ys zs : List Int} {x : α} {y : β} (h : RT f ys x) (k : ET (g x) zs y) : ET (bindR f g) (ys ++ zs) y := by
 unfold ET bindR
 rw [h]
 exact k
theorem RT.ebind0 {α β : Type} {f : List Int -> Option (α × List Int)} {g : α -> List Int -> Option (β × List Int)} {zs : List Int} {x : α} {y : β} (h : RT f [] x) (k : ET (g x) zs y) : ET (bindR f g) zs y := RT.ebind (ys := []) h k
theorem RT.et {α : Type} {f : List Int -> Option (α × List Int)} {ys : List Int} {x : α} (h : RT f ys x) : ET f ys x := by
 have := h []
 rw [List.append_nil] at this
 exact this
theorem ET.last {α β : Type} {f : List Int -> Option (α × List Int)} {ys : List Int} {x : α} {y : β} (h : ET f ys x) (φ : α -> β) (e : φ x = y) : ET (bindR f fun a => pureR (φ a)) ys y := by
 unfold ET bindR at *
 rw [h,<- e]
 rfl
theorem rt_must {b : Bool} (hb : b = true) : RT (mustR b) [] () := fun r => by
 unfold mustR
 rw [if_pos hb]
 rfl
theorem rt_one (n : Int) : RT one? [n] n := fun _ => rfl
theorem rt_two {k : Int} (h : in16 k = true) : RT two? (b2 k) k := fun r => by
 unfold in16 at h
 simp only [Bool.and_eq_true,decide_eq_true_eq] at h
 show some (k / 256 % 256 * 256 + k % 256,r) = some (k,r)
 have : k / 256 % 256 * 256 + k % 256 = k := by omega
 rw [this]
theorem rt_id {k : Int} (h : (in16 k && k != 0) = true) : RT id? (b2 k) k := fun r => by
 rw [Bool.and_eq_true] at h
 have h2 := rt_two h.1 r
 unfold id?
 rw [h2]
 have h0 : k ≠ 0 := bne_iff_ne.1 h.2
 show (if k = 0 then none else some (k,r)) = _
 rw [if_neg h0]
theorem drop_tx (s : ByteArray) (r : List Int) : (tx s ++ r).drop (((2 + s.size : Nat) : Int).toNat) = r := by
 have : (((2 + s.size : Nat) : Int).toNat) = (tx s).length := by rw [tx_length]; rfl
 rw [this,List.drop_left]
theorem rt_text {s : ByteArray} (h : okT s = true) : RT text? (tx s) s := fun r => by
 have e := gt_tx s r (of_decide_eq_true h)
 unfold text?
 rw [e]
 show (if (0 : Int) = 0 then some (s,(tx s ++ r).drop (((2 + s.size : Nat) : Int).toNat)) else none) = _
 rw [if_pos rfl,drop_tx]
theorem rt_bin {s : ByteArray} (h : okB s = true) : RT bin? (tx s) s := fun r => by
 have e := gbn_tx s r (of_decide_eq_true h)
 unfold bin?
 rw [e]
 show (if (0 : Int) = 0 then some (s,(tx s ++ r).drop (((2 + s.size : Nat) : Int).toNat)) else none) = _
 rw [if_pos rfl,drop_tx]
theorem okP_inv {place : Int} {l : List Pr} (h : okP place l = true) : okTo place l l.length /\ l.length <= 32 := by
 have h0 := of_decide_eq_true h
 unfold chkP at h0
 by_cases h1 : ∀ i,i < l.length -> okAt place l i = true
 ·rw [if_pos h1] at h0
  by_cases h2 : l.length <= 32
  ·exact ⟨h1,h2⟩
  ·rw [if_neg h2] at h0; cases h0
 ·rw [if_neg h1] at h0; cases h0
theorem rt_props {place : Int} {l : List Pr} (h : okP place l = true) (hr : Rng (pbs l)) : RT (props? place) (pbs l) l := fun r => by
 obtain ⟨h1,h2⟩ := okP_inv h
 have h0 := of_decide_eq_true h
 obtain ⟨e1,e2⟩ := back_pgt place place l r h1 h2 hr
 obtain ⟨e2,e3⟩ := e2 h0
 unfold props?
 rw [if_pos (e1.trans h0),e2,e3]
 have : (((pbs l).length : Nat) : Int).toNat = (pbs l).length := rfl
 rw [this,List.drop_left]
theorem rng_l {a b : List Int} (h : Rng (a ++ b)) : Rng a := fun j => by
 by_cases hj : j < a.length
 ·have := h j
  rw [List.getD_eq_getElem?_getD,List.getElem?_append_left hj,<- List.getD_eq_getElem?_getD] at this
  exact this
 ·rw [List.getD_eq_getElem?_getD,List.getElem?_eq_none (by omega)]; simp
theorem rng_r {a b : List Int} (h : Rng (a ++ b)) : Rng b := fun j => by
 have := h (a.length + j)
 rw [List.getD_eq_getElem?_getD,List.getElem?_append_right (by omega),Nat.add_sub_cancel_left,<- List.getD_eq_getElem?_getD] at this
 exact this
theorem add_inv {st : Option (List Int)} {c : Bool} {ys l : List Int} (h : st.bind (sAdd c ys) = some l) : ∃ t,st = some t /\ c = true /\ l = t ++ ys := by
 cases st with
 | none => cases h
 | some t =>
  cases c with
  | false => cases h
  | true => cases h; exact ⟨t,rfl,rfl,rfl⟩
theorem must_inv {st : Option (List Int)} {c : Bool} {l : List Int} (h : st.bind (sMust c) = some l) : st = some l /\ c = true := by
 cases st with
 | none => cases h
 | some t =>
  cases c with
  | false => cases h
  | true => cases h; exact ⟨rfl,rfl⟩
theorem emp_inv {P : Pa} (h : empA P = true) : EmpA P := of_decide_eq_true h
theorem no_text {s : ByteArray} (h : s.size = 0) : s = ⟨#[]⟩ := by
 obtain ⟨d⟩ := s
 have : d.size = 0 := h
 rw [Array.eq_empty_of_size_eq_zero this]
theorem no_list {α : Type} {l : List α} (h : l.length = 0) : l = [] := List.length_eq_zero_iff.1 h
theorem pk_et {Q P : Pa} {l : List Int} (h : ET (body? Q) l P) : packet? Q l = some (P,[]) := by
 unfold packet? bindR
 rw [h]
 rfl
theorem many_back {α : Type} {f : List Int -> Option (α × List Int)} {g : α -> List Int -> Option (List Int)} (hg : ∀ a t l,g a t = some l -> ∃ ys,l = t ++ ys /\ 1 <= ys.length /\ RT f ys a) :
  ∀ (d : List α) (t l : List Int),sEach g d t = some l -> ∃ zs,l = t ++ zs /\ ∀ n,zs.length <= n -> many f n zs = some (d,[])
 | [],t,l,h => by
  cases h
  exact ⟨[],by rw [List.append_nil],fun n _ => many_nil f n⟩
 | a :: r,t,l,h => by
  unfold sEach at h
  cases hq : g a t with
  | none => rw [hq] at h; cases h
  | some l1 =>
   rw [hq] at h
   obtain ⟨ys,rfl,h1,hf⟩ := hg a t l1 hq
   obtain ⟨zs,rfl,hz⟩ := many_back hg r (t ++ ys) l h
   refine ⟨ys ++ zs,by rw [List.append_assoc],fun n hn => ?_⟩
   rw [List.length_append] at hn
   obtain ⟨m,rfl⟩ : ∃ m,n = m + 1 := ⟨n - 1,by omega⟩
   have hne : ys ++ zs ≠ [] := fun e => by
    have := congrArg List.length e
    rw [List.length_append,List.length_nil] at this
    omega
   unfold many
   rw [if_neg hne,hf]
   show (many f m zs).map _ = _
   rw [hz m (by omega)]
   rfl
theorem list_back {α : Type} {f : List Int -> Option (α × List Int)} {g : α -> List Int -> Option (List Int)} (hg : ∀ a t l,g a t = some l -> ∃ ys,l = t ++ ys /\ 1 <= ys.length /\ RT f ys a) {d : List α} {t l : List Int} (h : sEach g d t = some l) (hm : mc d.length = true) : ∃ zs,l = t ++ zs /\ ET (list? f) zs d := by
 obtain ⟨zs,rfl,hz⟩ := many_back hg d t l h
 refine ⟨zs,rfl,?_⟩
 unfold ET list? bindR manyR
 rw [hz _ (Nat.le_refl _)]
 show (mustR (mc d.length) []).bind _ = _
 unfold mustR
 rw [if_pos hm]
 rfl
theorem g_tx (s : ByteArray) (t l : List Int) (h : sTx s t = some l) : ∃ ys,l = t ++ ys /\ 1 <= ys.length /\ RT text? ys s := by
 obtain ⟨_,e,hc,rfl⟩ := add_inv (st := some t) h
 cases e
 exact ⟨_,rfl,by rw [tx_length]; omega,rt_text hc⟩
theorem g_code (n : Int) (t l : List Int) (h : sCode n t = some l) : ∃ ys,l = t ++ ys /\ 1 <= ys.length /\ RT one? ys n := by
 obtain ⟨_,e,hc,rfl⟩ := add_inv (st := some t) h
 cases e
 refine ⟨_,rfl,by simp,?_⟩
 unfold in8 at hc
 simp only [Bool.and_eq_true,decide_eq_true_eq] at hc
 have : n % 256 = n := by omega
 rw [this]
 exact rt_one n
theorem opb_back (q h : Int) (n a : Bool) (hk : opk q h = true) : 0 <= opv q n a h /\ opv q n a h < 256 /\ opv q n a h % 4 = q /\ btest (opv q n a h) 4 = n /\ btest (opv q n a h) 8 = a /\ opv q n a h / 16 = h := by
 unfold opk mq at hk
 simp only [Bool.and_eq_true,decide_eq_true_eq] at hk
 have hq : q = 0 \/ q = 1 \/ q = 2 := by omega
 have hh : h = 0 \/ h = 1 \/ h = 2 := by omega
 rcases hq with rfl | rfl | rfl <;> rcases hh with rfl | rfl | rfl <;> cases n <;> cases a <;> decide +kernel
theorem g_sub (s : Sb) (t l : List Int) (h : sSub s t = some l) : ∃ ys,l = t ++ ys /\ 1 <= ys.length /\ RT sub? ys s := by
 unfold sSub at h
 obtain ⟨t1,h1,hc,rfl⟩ := add_inv h
 obtain ⟨t2,h2,ht,rfl⟩ := add_inv h1
 have hk : opk s.qos s.handling = true /\ t2 = t := by
  unfold sMust at h2
  cases hq : opk s.qos s.handling with
  | false => rw [hq] at h2; cases h2
  | true => rw [hq] at h2; cases h2; exact ⟨rfl,rfl⟩
 obtain ⟨hk,rfl⟩ := hk
 obtain ⟨b1,b2,b3,b4,b5,b6⟩ := opb_back s.qos s.handling s.nolocal s.aspub hk
 have he : opb s % 256 = opb s := by unfold opb; omega
 refine ⟨tx s.filter ++ [opb s],by rw [he,List.append_assoc],by simp,?_⟩
 refine RT.bind (rt_text ht) (RT.bind (ys := [opb s]) (zs := []) (rt_one (opb s)) (RT.bind0 (rt_must ?_) ?_))
 ·unfold opb
  rw [b3,b6]
  exact hk
 ·intro r
  show some (sbOf s.filter (opb s),r) = some (s,r)
  unfold sbOf opb
  rw [b3,b4,b5,b6]
theorem reason_back {code kind : Int} {l : List Pr} {t z : List Int} (h : sReason code kind l t = some z) (hr : Rng z) : ∃ ys,z = t ++ ys /\ ET (reason? kind) ys (code,l) := by
 unfold sReason at h
 by_cases h0 : l.length = 0
 ·rw [if_pos h0] at h
  obtain rfl := no_list h0
  by_cases h1 : code = 0
  ·rw [if_pos h1] at h
   cases h
   subst h1
   exact ⟨[],by rw [List.append_nil],rfl⟩
  ·rw [if_neg h1] at h
   obtain ⟨_,e,hc,rfl⟩ := add_inv (st := some t) h
   cases e
   refine ⟨_,rfl,?_⟩
   unfold in8 at hc
   simp only [Bool.and_eq_true,decide_eq_true_eq] at hc
   have : code % 256 = code := by omega
   rw [this]
   rfl
 ·rw [if_neg h0] at h
  obtain ⟨t1,h2,hp,rfl⟩ := add_inv h
  obtain ⟨_,e,hc,rfl⟩ := add_inv (st := some t) h2
  cases e
  unfold in8 at hc
  simp only [Bool.and_eq_true,decide_eq_true_eq] at hc
  have e1 : code % 256 = code := by omega
  refine ⟨[code % 256] ++ pbs l,by rw [List.append_assoc],?_⟩
  rw [e1]
  have hpr := (rt_props hp (rng_r hr)).et
  have hne : pbs l ≠ [] := fun e => by
   have := congrArg List.length e
   unfold pbs at this
   rw [List.length_append,List.length_nil] at this
   have h4 := (V.sz_bounds ((body l).length : Int)).1
   have h5 : 1 <= (V.put ((body l).length : Int)).length := by
    rcases hq : V.put ((body l).length : Int) with _ | ⟨a,r⟩
    ·exfalso
     revert hq
     unfold V.put
     repeat' split
     all_goals simp
    ·simp
   omega
  show (if pbs l = [] then some ((code,[]),[]) else (props? kind (pbs l)).map fun r => ((code,r.1),r.2)) = _
  rw [if_neg hne,hpr]
  rfl
end Go.Proofs.YtemedclhglkfjaaGreatDoor.K.B
namespace Go.Proofs.YtemedclhglkfjaaGreatDoor.K.B
open Go.RowKit
open Go.Proofs.YtemedclhglkfjaaGreatDoor.K
set_option maxRecDepth 100000
theorem back_2 {P : Pa} {l : List Int} (hk : P.kind = 2) (h : eb P = some l) (hr : Rng l) : ET (body? (pa0 2 false 0 false)) l P := by
 unfold eb at h
 rw [if_neg (by omega),if_pos hk] at h
 obtain ⟨h1,he⟩ := must_inv h
 obtain ⟨t1,h2,hp,rfl⟩ := add_inv h1
 obtain ⟨t2,h3,hc,rfl⟩ := add_inv h2
 obtain ⟨t3,h4,hs,rfl⟩ := add_inv h3
 cases h4
 rw [hk] at hp
 have hpr := rt_props hp (rng_r hr)
 have hc1 : P.code % 256 = P.code := by
  unfold in8 at hc
  simp only [Bool.and_eq_true,decide_eq_true_eq] at hc
  omega
 rw [hc1]
 obtain ⟨⟨e1,e2,e3,e4⟩,⟨e5,e6,e7,e8⟩,⟨e9,e10,e11⟩,e12,e13,e14,e15,e16,e17,e18⟩ := emp_inv he
 obtain ⟨kind,dup,qos,retain,topic,id,payload,props,client,clean,keep,wills,user,pass,code,session,subs,filters,codes⟩ := P
 obtain rfl : dup = false := e1
 obtain rfl : qos = 0 := e5
 obtain rfl : retain = false := e2
 obtain rfl : topic = ⟨#[]⟩ := no_text e9
 obtain rfl : id = 0 := e6
 obtain rfl : payload = ⟨#[]⟩ := no_text e10
 obtain rfl : client = ⟨#[]⟩ := no_text e11
 obtain rfl : clean = false := e3
 obtain rfl : keep = 0 := e7
 obtain rfl : wills = [] := no_list e13
 obtain rfl : user = [] := no_list e14
 obtain rfl : pass = [] := no_list e15
 obtain rfl : subs = [] := no_list e16
 obtain rfl : filters = [] := no_list e17
 obtain rfl : codes = [] := no_list e18
 obtain rfl : kind = 2 := hk
 dsimp only at *
 have e : body? (pa0 2 false 0 false) = bindR one? fun f => bindR (mustR (decide (f <= 1))) fun _ => bindR one? fun c => bindR (props? 2) fun x => pureR { (pa0 2 false 0 false) with session := f == 1,code := c,props := x } := rfl
 rw [e]
 cases session
 ·exact (RT.bind (ys := [0]) (rt_one 0) (RT.bind0 (rt_must rfl) (RT.bind (ys := [code]) (rt_one code) (hpr.last _ rfl)))).et
 ·exact (RT.bind (ys := [1]) (rt_one 1) (RT.bind0 (rt_must rfl) (RT.bind (ys := [code]) (rt_one code) (hpr.last _ rfl)))).et
theorem sIdA_inv {P : Pa} {t : List Int} (h : sIdA P = some t) : (in16 P.id && P.id != 0) = true /\ t = b2 P.id := by
 obtain ⟨t1,e,hc,rfl⟩ := add_inv (st := some []) h
 cases e
 exact ⟨hc,rfl⟩
theorem sIpA_inv {P : Pa} {t : List Int} (h : sIpA P = some t) : (in16 P.id && P.id != 0) = true /\ okP P.kind P.props = true /\ t = b2 P.id ++ pbs P.props := by
 obtain ⟨t1,h1,hc,rfl⟩ := add_inv h
 obtain ⟨h2,rfl⟩ := sIdA_inv h1
 exact ⟨h2,hc,rfl⟩
theorem back_4 {P : Pa} {l : List Int} (k : Int) (hkk : k = 4 \/ k = 5 \/ k = 6 \/ k = 7) (hk : P.kind = k) (h : eb P = some l) (hr : Rng l) : ET (body? (pa0 k false 0 false)) l P := by
 unfold eb at h
 rw [if_neg (by omega),if_neg (by omega),if_neg (by omega),if_pos (by omega)] at h
 obtain ⟨h1,he⟩ := must_inv h
 cases h2 : sIdA P with
 | none => rw [h2] at h1; cases h1
 | some t =>
  rw [h2] at h1
  obtain ⟨hid,rfl⟩ := sIdA_inv h2
  obtain ⟨ys,rfl,hz⟩ := reason_back (show sReason P.code P.kind P.props (b2 P.id) = some l from h1) hr
  rw [hk] at hz
  have hri := rt_id hid
  obtain ⟨⟨e1,e2,e3,e4⟩,⟨e5,e6,e7,e8⟩,⟨e9,e10,e11⟩,e12,e13,e14,e15,e16,e17,e18⟩ := emp_inv he
  obtain ⟨kind,dup,qos,retain,topic,id,payload,props,client,clean,keep,wills,user,pass,code,session,subs,filters,codes⟩ := P
  obtain rfl : dup = false := e1
  obtain rfl : qos = 0 := e5
  obtain rfl : retain = false := e2
  obtain rfl : topic = ⟨#[]⟩ := no_text e9
  obtain rfl : payload = ⟨#[]⟩ := no_text e10
  obtain rfl : client = ⟨#[]⟩ := no_text e11
  obtain rfl : clean = false := e3
  obtain rfl : keep = 0 := e7
  obtain rfl : wills = [] := no_list e13
  obtain rfl : user = [] := no_list e14
  obtain rfl : pass = [] := no_list e15
  obtain rfl : session = false := e4
  obtain rfl : subs = [] := no_list e16
  obtain rfl : filters = [] := no_list e17
  obtain rfl : codes = [] := no_list e18
  obtain rfl : kind = k := hk
  dsimp only at *
  have e : body? (pa0 kind false 0 false) = bindR id? fun i => bindR (reason? kind) fun r => pureR { (pa0 kind false 0 false) with id := i,code := r.1,props := r.2 } := by
   unfold body?
   have e0 : (pa0 kind false 0 false).kind = kind := rfl
   rw [e0,if_neg (by omega),if_neg (by omega),if_neg (by omega),if_neg (by omega),if_neg (by omega),if_neg (by omega),if_pos (by omega)]
   all_goals rfl
  rw [e]
  exact RT.ebind hri (hz.last _ rfl)
theorem back_14 {P : Pa} {l : List Int} (k : Int) (hkk : k = 14 \/ k = 15) (hk : P.kind = k) (h : eb P = some l) (hr : Rng l) : ET (body? (pa0 k false 0 false)) l P := by
 unfold eb at h
 rw [if_neg (by omega),if_neg (by omega),if_neg (by omega),if_neg (by omega),if_neg (by omega),if_neg (by omega),if_neg (by omega),if_pos (by omega)] at h
 obtain ⟨h1,he⟩ := must_inv h
 obtain ⟨ys,rfl,hz⟩ := reason_back (show sReason P.code P.kind P.props [] = some l from h1) hr
 rw [hk] at hz
 obtain ⟨⟨e1,e2,e3,e4⟩,⟨e5,e6,e7,e8⟩,⟨e9,e10,e11⟩,e12,e13,e14,e15,e16,e17,e18⟩ := emp_inv he
 obtain ⟨kind,dup,qos,retain,topic,id,payload,props,client,clean,keep,wills,user,pass,code,session,subs,filters,codes⟩ := P
 obtain rfl : dup = false := e1
 obtain rfl : qos = 0 := e5
 obtain rfl : retain = false := e2
 obtain rfl : topic = ⟨#[]⟩ := no_text e9
 obtain rfl : id = 0 := e6
 obtain rfl : payload = ⟨#[]⟩ := no_text e10
 obtain rfl : client = ⟨#[]⟩ := no_text e11
 obtain rfl : clean = false := e3
 obtain rfl : keep = 0 := e7
 obtain rfl : wills = [] := no_list e13
 obtain rfl : user = [] := no_list e14
 obtain rfl : pass = [] := no_list e15
 obtain rfl : session = false := e4
 obtain rfl : subs = [] := no_list e16
 obtain rfl : filters = [] := no_list e17
 obtain rfl : codes = [] := no_list e18
 obtain rfl : kind = k := hk
 dsimp only at *
 have e : body? (pa0 kind false 0 false) = bindR (reason? kind) fun r => pureR { (pa0 kind false 0 false) with code := r.1,props := r.2 } := by
  unfold body?
  have e0 : (pa0 kind false 0 false).kind = kind := rfl
  rw [e0,if_neg (by omega),if_neg (by omega),if_neg (by omega),if_neg (by omega),if_neg (by omega),if_neg (by omega),if_neg (by omega),if_pos (by omega)]
  all_goals rfl
 rw [e]
 exact hz.last _ rfl
theorem back_8 {P : Pa} {l : List Int} (k : Int) (hkk : k = 8) (hk : P.kind = k) (h : eb P = some l) (hr : Rng l) : ET (body? (pa0 k false 0 false)) l P := by
 unfold eb at h
 rw [if_neg (by omega),if_neg (by omega),if_neg (by omega),if_neg (by omega),if_pos (by omega)] at h
 obtain ⟨h1,he⟩ := must_inv h
 cases h2 : (sIpA P).bind (sMust (mc P.subs.length)) with
 | none => rw [h2] at h1; cases h1
 | some t =>
  rw [h2] at h1
  obtain ⟨h3,hm⟩ := must_inv h2
  obtain ⟨hid,hp,rfl⟩ := sIpA_inv h3
  obtain ⟨zs,rfl,hz⟩ := list_back g_sub (show sEach sSub P.subs (b2 P.id ++ pbs P.props) = some l from h1) hm
  have hpr := rt_props hp (rng_r (rng_l hr))
  rw [hk] at hpr
  have hri := rt_id hid
  obtain ⟨⟨e1,e2,e3,e4⟩,⟨e5,e6,e7,e8⟩,⟨e9,e10,e11⟩,e12,e13,e14,e15,e16,e17,e18⟩ := emp_inv he
  obtain ⟨kind,dup,qos,retain,topic,id,payload,props,client,clean,keep,wills,user,pass,code,session,subs,filters,codes⟩ := P
  obtain rfl : dup = false := e1
  obtain rfl : qos = 0 := e5
  obtain rfl : retain = false := e2
  obtain rfl : topic = ⟨#[]⟩ := no_text e9
  obtain rfl : payload = ⟨#[]⟩ := no_text e10
  obtain rfl : client = ⟨#[]⟩ := no_text e11
  obtain rfl : clean = false := e3
  obtain rfl : keep = 0 := e7
  obtain rfl : wills = [] := no_list e13
  obtain rfl : user = [] := no_list e14
  obtain rfl : pass = [] := no_list e15
  obtain rfl : code = 0 := e8
  obtain rfl : session = false := e4
  obtain rfl : filters = [] := no_list e17
  obtain rfl : codes = [] := no_list e18
  obtain rfl : kind = k := hk
  dsimp only at *
  have e : body? (pa0 kind false 0 false) = bindR id? fun i => bindR (props? kind) fun x => bindR (list? sub?) fun d => pureR { (pa0 kind false 0 false) with id := i,props := x,subs := d } := by
   unfold body?
   have e0 : (pa0 kind false 0 false).kind = kind := rfl
   rw [e0,if_neg (by omega),if_neg (by omega),if_neg (by omega),if_pos (by omega)]
   all_goals rfl
  rw [e,List.append_assoc]
  exact RT.ebind hri (RT.ebind hpr (hz.last _ rfl))
theorem back_10 {P : Pa} {l : List Int} (k : Int) (hkk : k = 10) (hk : P.kind = k) (h : eb P = some l) (hr : Rng l) : ET (body? (pa0 k false 0 false)) l P := by
 unfold eb at h
 rw [if_neg (by omega),if_neg (by omega),if_neg (by omega),if_neg (by omega),if_neg (by omega),if_pos (by omega)] at h
 obtain ⟨h1,he⟩ := must_inv h
 cases h2 : (sIpA P).bind (sMust (mc P.filters.length)) with
 | none => rw [h2] at h1; cases h1
 | some t =>
  rw [h2] at h1
  obtain ⟨h3,hm⟩ := must_inv h2
  obtain ⟨hid,hp,rfl⟩ := sIpA_inv h3
  obtain ⟨zs,rfl,hz⟩ := list_back g_tx (show sEach sTx P.filters (b2 P.id ++ pbs P.props) = some l from h1) hm
  have hpr := rt_props hp (rng_r (rng_l hr))
  rw [hk] at hpr
  have hri := rt_id hid
  obtain ⟨⟨e1,e2,e3,e4⟩,⟨e5,e6,e7,e8⟩,⟨e9,e10,e11⟩,e12,e13,e14,e15,e16,e17,e18⟩ := emp_inv he
  obtain ⟨kind,dup,qos,retain,topic,id,payload,props,client,clean,keep,wills,user,pass,code,session,subs,filters,codes⟩ := P
  obtain rfl : dup = false := e1
  obtain rfl : qos = 0 := e5
  obtain rfl : retain = false := e2
  obtain rfl : topic = ⟨#[]⟩ := no_text e9
  obtain rfl : payload = ⟨#[]⟩ := no_text e10
  obtain rfl : client = ⟨#[]⟩ := no_text e11
  obtain rfl : clean = false := e3
  obtain rfl : keep = 0 := e7
  obtain rfl : wills = [] := no_list e13
  obtain rfl : user = [] := no_list e14
  obtain rfl : pass = [] := no_list e15
  obtain rfl : code = 0 := e8
  obtain rfl : session = false := e4
  obtain rfl : subs = [] := no_list e16
  obtain rfl : codes = [] := no_list e18
  obtain rfl : kind = k := hk
  dsimp only at *
  have e : body? (pa0 kind false 0 false) = bindR id? fun i => bindR (props? kind) fun x => bindR (list? text?) fun d => pureR { (pa0 kind false 0 false) with id := i,props := x,filters := d } := by
   unfold body?
   have e0 : (pa0 kind false 0 false).kind = kind := rfl
   rw [e0,if_neg (by omega),if_neg (by omega),if_neg (by omega),if_neg (by omega),if_pos (by omega)]
   all_goals rfl
  rw [e,List.append_assoc]
  exact RT.ebind hri (RT.ebind hpr (hz.last _ rfl))
theorem back_9 {P : Pa} {l : List Int} (k : Int) (hkk : k = 9 \/ k = 11) (hk : P.kind = k) (h : eb P = some l) (hr : Rng l) : ET (body? (pa0 k false 0 false)) l P := by
 unfold eb at h
 rw [if_neg (by omega),if_neg (by omega),if_neg (by omega),if_neg (by omega),if_neg (by omega),if_neg (by omega),if_pos (by omega)] at h
 obtain ⟨h1,he⟩ := must_inv h
 cases h2 : (sIpA P).bind (sMust (mc P.codes.length)) with
 | none => rw [h2] at h1; cases h1
 | some t =>
  rw [h2] at h1
  obtain ⟨h3,hm⟩ := must_inv h2
  obtain ⟨hid,hp,rfl⟩ := sIpA_inv h3
  obtain ⟨zs,rfl,hz⟩ := list_back g_code (show sEach sCode P.codes (b2 P.id ++ pbs P.props) = some l from h1) hm
  have hpr := rt_props hp (rng_r (rng_l hr))
  rw [hk] at hpr
  have hri := rt_id hid
  obtain ⟨⟨e1,e2,e3,e4⟩,⟨e5,e6,e7,e8⟩,⟨e9,e10,e11⟩,e12,e13,e14,e15,e16,e17,e18⟩ := emp_inv he
  obtain ⟨kind,dup,qos,retain,topic,id,payload,props,client,clean,keep,wills,user,pass,code,session,subs,filters,codes⟩ := P
  obtain rfl : dup = false := e1
  obtain rfl : qos = 0 := e5
  obtain rfl : retain = false := e2
  obtain rfl : topic = ⟨#[]⟩ := no_text e9
  obtain rfl : payload = ⟨#[]⟩ := no_text e10
  obtain rfl : client = ⟨#[]⟩ := no_text e11
  obtain rfl : clean = false := e3
  obtain rfl : keep = 0 := e7
  obtain rfl : wills = [] := no_list e13
  obtain rfl : user = [] := no_list e14
  obtain rfl : pass = [] := no_list e15
  obtain rfl : code = 0 := e8
  obtain rfl : session = false := e4
  obtain rfl : subs = [] := no_list e16
  obtain rfl : filters = [] := no_list e17
  obtain rfl : kind = k := hk
  dsimp only at *
  have e : body? (pa0 kind false 0 false) = bindR id? fun i => bindR (props? kind) fun x => bindR (list? one?) fun d => pureR { (pa0 kind false 0 false) with id := i,props := x,codes := d } := by
   unfold body?
   have e0 : (pa0 kind false 0 false).kind = kind := rfl
   rw [e0,if_neg (by omega),if_neg (by omega),if_neg (by omega),if_neg (by omega),if_neg (by omega),if_pos (by omega)]
   all_goals rfl
  rw [e,List.append_assoc]
  exact RT.ebind hri (RT.ebind hpr (hz.last _ rfl))
theorem back_12 {P : Pa} {l : List Int} (k : Int) (hkk : k = 12 \/ k = 13) (hk : P.kind = k) (h : eb P = some l) : ET (body? (pa0 k false 0 false)) l P := by
 unfold eb at h
 rw [if_neg (by omega),if_neg (by omega),if_neg (by omega),if_neg (by omega),if_neg (by omega),if_neg (by omega),if_neg (by omega),if_neg (by omega)] at h
 obtain ⟨h1,he⟩ := must_inv h
 cases h1
 obtain ⟨⟨e1,e2,e3,e4⟩,⟨e5,e6,e7,e8⟩,⟨e9,e10,e11⟩,e12,e13,e14,e15,e16,e17,e18⟩ := emp_inv he
 obtain ⟨kind,dup,qos,retain,topic,id,payload,props,client,clean,keep,wills,user,pass,code,session,subs,filters,codes⟩ := P
 obtain rfl : dup = false := e1
 obtain rfl : qos = 0 := e5
 obtain rfl : retain = false := e2
 obtain rfl : topic = ⟨#[]⟩ := no_text e9
 obtain rfl : id = 0 := e6
 obtain rfl : payload = ⟨#[]⟩ := no_text e10
 obtain rfl : props = [] := no_list e12
 obtain rfl : client = ⟨#[]⟩ := no_text e11
 obtain rfl : clean = false := e3
 obtain rfl : keep = 0 := e7
 obtain rfl : wills = [] := no_list e13
 obtain rfl : user = [] := no_list e14
 obtain rfl : pass = [] := no_list e15
 obtain rfl : code = 0 := e8
 obtain rfl : session = false := e4
 obtain rfl : subs = [] := no_list e16
 obtain rfl : filters = [] := no_list e17
 obtain rfl : codes = [] := no_list e18
 obtain rfl : kind = k := hk
 have e : body? (pa0 kind false 0 false) = pureR (pa0 kind false 0 false) := by
  unfold body?
  have e0 : (pa0 kind false 0 false).kind = kind := rfl
  rw [e0,if_neg (by omega),if_neg (by omega),if_neg (by omega),if_neg (by omega),if_neg (by omega),if_neg (by omega),if_neg (by omega),if_neg (by omega)]
  all_goals rfl
 rw [e]
 rfl
theorem back_3 {P : Pa} {l : List Int} (hk : P.kind = 3) (h : eb P = some l) (hr : Rng l) : ET (body? (pa0 3 P.dup P.qos P.retain)) l P := by
 unfold eb at h
 rw [if_neg (by omega),if_neg (by omega),if_pos hk] at h
 obtain ⟨h1,he⟩ := must_inv h
 unfold sPub at h1
 obtain ⟨t1,h2,-,rfl⟩ := add_inv h1
 obtain ⟨t2,h3,hp,rfl⟩ := add_inv h2
 rw [hk] at hp
 have hpr := rt_props hp (rng_r (rng_l hr))
 have hall : ET allR (sb P.payload) P.payload := by
  unfold ET allR
  rw [bs_sb]
 have e : body? (pa0 3 P.dup P.qos P.retain) = bindR (publish? P.qos) fun r => pureR { (pa0 3 P.dup P.qos P.retain) with topic := r.1,id := r.2.1,props := r.2.2.1,payload := r.2.2.2 } := rfl
 by_cases hq : 0 < P.qos
 ·rw [if_pos hq] at h3 he
  obtain ⟨t3,h4,hid,rfl⟩ := add_inv h3
  obtain ⟨_,e5,ht,rfl⟩ := add_inv (st := some []) h4
  cases e5
  have hri := rt_id hid
  have htx := rt_text ht
  have hpb : ET (publish? P.qos) ((([] ++ tx P.topic) ++ b2 P.id ++ pbs P.props) ++ sb P.payload) (P.topic,P.id,P.props,P.payload) := by
   rw [List.nil_append,List.append_assoc,List.append_assoc]
   unfold publish?
   rw [if_pos hq]
   exact RT.ebind htx (RT.ebind hri (RT.ebind hpr (hall.last _ rfl)))
  rw [e]
  refine hpb.last _ ?_
  obtain ⟨⟨e1,e2,e3,e4⟩,⟨e5,e6,e7,e8⟩,⟨e9,e10,e11⟩,e12,e13,e14,e15,e16,e17,e18⟩ := emp_inv he
  obtain ⟨kind,dup,qos,retain,topic,id,payload,props,client,clean,keep,wills,user,pass,code,session,subs,filters,codes⟩ := P
  obtain rfl : client = ⟨#[]⟩ := no_text e11
  obtain rfl : clean = false := e3
  obtain rfl : keep = 0 := e7
  obtain rfl : wills = [] := no_list e13
  obtain rfl : user = [] := no_list e14
  obtain rfl : pass = [] := no_list e15
  obtain rfl : code = 0 := e8
  obtain rfl : session = false := e4
  obtain rfl : subs = [] := no_list e16
  obtain rfl : filters = [] := no_list e17
  obtain rfl : codes = [] := no_list e18
  obtain rfl : kind = 3 := hk
  rfl
 ·rw [if_neg hq] at h3 he
  obtain ⟨_,e5,ht,h6⟩ : ∃ t,some ([] : List Int) = some t /\ okT P.topic = true /\ t2 = t ++ tx P.topic := add_inv (st := some []) (by
   have k : ∀ x : Option (List Int),x.bind some = x := fun x => by cases x <;> rfl
   have h3' := h3
   rw [k] at h3'
   exact h3')
  cases e5
  subst h6
  have htx := rt_text ht
  have hpb : ET (publish? P.qos) ((([] ++ tx P.topic) ++ pbs P.props) ++ sb P.payload) (P.topic,0,P.props,P.payload) := by
   rw [List.nil_append,List.append_assoc]
   unfold publish?
   rw [if_neg hq]
   exact RT.ebind htx (RT.ebind0 (fun r => rfl) (RT.ebind hpr (hall.last _ rfl)))
  rw [e]
  refine hpb.last _ ?_
  obtain ⟨⟨e1,e2,e3,e4⟩,⟨e5,e6,e7,e8⟩,⟨e9,e10,e11⟩,e12,e13,e14,e15,e16,e17,e18⟩ := emp_inv he
  obtain ⟨kind,dup,qos,retain,topic,id,payload,props,client,clean,keep,wills,user,pass,code,session,subs,filters,codes⟩ := P
  obtain rfl : id = 0 := e6
  obtain rfl : client = ⟨#[]⟩ := no_text e11
  obtain rfl : clean = false := e3
  obtain rfl : keep = 0 := e7
  obtain rfl : wills = [] := no_list e13
  obtain rfl : user = [] := no_list e14
  obtain rfl : pass = [] := no_list e15
  obtain rfl : code = 0 := e8
  obtain rfl : session = false := e4
  obtain rfl : subs = [] := no_list e16
  obtain rfl : filters = [] := no_list e17
  obtain rfl : codes = [] := no_list e18
  obtain rfl : kind = 3 := hk
  rfl
end Go.Proofs.YtemedclhglkfjaaGreatDoor.K.B
namespace Go.Proofs.YtemedclhglkfjaaGreatDoor.K.B
open Go.RowKit
open Go.Proofs.YtemedclhglkfjaaGreatDoor.K
set_option maxRecDepth 100000
theorem cfl0_back (nu np : Nat) (c : Bool) (hu : nu <= 1) (hp : np <= 1) : (0 <= cfl0 nu np c /\ cfl0 nu np c < 256) /\ cfok (cfl0 nu np c) = true /\ btest (cfl0 nu np c) 128 = decide (0 < nu) /\ btest (cfl0 nu np c) 64 = decide (0 < np) /\ btest (cfl0 nu np c) 2 = c /\ btest (cfl0 nu np c) 4 = false := by
 have h1 : nu = 0 \/ nu = 1 := by omega
 have h2 : np = 0 \/ np = 1 := by omega
 rcases h1 with rfl | rfl <;> rcases h2 with rfl | rfl <;> cases c <;> decide +kernel
theorem cfl1_back (nu np : Nat) (c : Bool) (hu : nu <= 1) (hp : np <= 1) (u : Wl) (hq : mq u.qos = true) : (0 <= cstepA (cfl0 nu np c) u /\ cstepA (cfl0 nu np c) u < 256) /\ cfok (cstepA (cfl0 nu np c) u) = true /\ btest (cstepA (cfl0 nu np c) u) 128 = decide (0 < nu) /\ btest (cstepA (cfl0 nu np c) u) 64 = decide (0 < np) /\ btest (cstepA (cfl0 nu np c) u) 2 = c /\ btest (cstepA (cfl0 nu np c) u) 4 = true /\ cstepA (cfl0 nu np c) u / 8 % 4 = u.qos /\ btest (cstepA (cfl0 nu np c) u) 32 = u.retain := by
 have h1 : nu = 0 \/ nu = 1 := by omega
 have h2 : np = 0 \/ np = 1 := by omega
 obtain ⟨t,y,q,r,ps⟩ := u
 unfold mq at hq
 simp only [Bool.and_eq_true,decide_eq_true_eq] at hq
 have h3 : q = 0 \/ q = 1 \/ q = 2 := by omega
 unfold cstepA
 dsimp only
 rcases h1 with rfl | rfl <;> rcases h2 with rfl | rfl <;> rcases h3 with rfl | rfl | rfl <;> cases c <;> cases r <;> decide +kernel
theorem will_back {x : Int} {u : Wl} {t l : List Int} (hx : btest x 4 = true) (h : sEach sWill [u] t = some l) (hr : Rng l) : ∃ ys,l = t ++ ys /\ RT (will? x) ys (some (u.props,u.topic,u.payload)) := by
 have k : ∀ z : Option (List Int),z.bind (sEach sWill []) = z := fun z => by cases z <;> rfl
 have h1 : sWill u t = some l := by
  have := h
  unfold sEach at this
  rw [k] at this
  exact this
 unfold sWill at h1
 obtain ⟨t1,h2,hb,rfl⟩ := add_inv h1
 obtain ⟨t2,h3,ht,rfl⟩ := add_inv h2
 obtain ⟨_,e,hp,rfl⟩ := add_inv (st := some t) h3
 cases e
 have hpr := rt_props hp (rng_r (rng_l (rng_l hr)))
 refine ⟨pbs u.props ++ (tx u.topic ++ tx u.payload),by simp only [List.append_assoc],?_⟩
 unfold will?
 rw [if_pos hx]
 exact RT.bind hpr (RT.bind (rt_text ht) ((rt_bin hb).last _ rfl))
theorem each_one {α : Type} {f : α -> List Int -> Option (List Int)} {a : α} {t l : List Int} (h : sEach f [a] t = some l) : f a t = some l := by
 have k : ∀ z : Option (List Int),z.bind (sEach f []) = z := fun z => by cases z <;> rfl
 have := h
 unfold sEach at this
 rw [k] at this
 exact this
theorem user_back {x : Int} {s : ByteArray} {t l : List Int} (hx : btest x 128 = true) (h : sEach sTx [s] t = some l) : ∃ ys,l = t ++ ys /\ RT (user? x) ys (some s) := by
 obtain ⟨_,e,hc,rfl⟩ := add_inv (st := some t) (each_one h)
 cases e
 refine ⟨_,rfl,?_⟩
 unfold user?
 rw [if_pos hx]
 exact (rt_text hc).last _ rfl
theorem pass_back {x : Int} {s : ByteArray} {t l : List Int} (hx : btest x 64 = true) (h : sEach sPass [s] t = some l) : ∃ ys,l = t ++ ys /\ RT (pass? x) ys (some s) := by
 obtain ⟨_,e,hc,rfl⟩ := add_inv (st := some t) (each_one h)
 cases e
 refine ⟨_,rfl,?_⟩
 unfold pass?
 rw [if_pos hx]
 exact (rt_bin hc).last _ rfl
theorem short_list {α : Type} {l : List α} (h : l.length <= 1) : l = [] \/ ∃ a,l = [a] := by
 match l,h with
 | [],_ => exact .inl rfl
 | [a],_ => exact .inr ⟨a,rfl⟩
theorem ouser {x : Int} {us : List ByteArray} {t l : List Int} (hl : us.length <= 1) (hx : btest x 128 = decide (0 < us.length)) (h : sEach sTx us t = some l) : ∃ ys o,l = t ++ ys /\ RT (user? x) ys o /\ o.toList = us := by
 rcases short_list hl with rfl | ⟨a,rfl⟩
 ·cases h
  refine ⟨[],none,by rw [List.append_nil],?_,rfl⟩
  unfold user?
  rw [if_neg (by rw [hx]; decide)]
  exact fun r => rfl
 ·obtain ⟨ys,e,k⟩ := user_back (x := x) (by rw [hx]; rfl) h
  exact ⟨ys,_,e,k,rfl⟩
theorem opass {x : Int} {us : List ByteArray} {t l : List Int} (hl : us.length <= 1) (hx : btest x 64 = decide (0 < us.length)) (h : sEach sPass us t = some l) : ∃ ys o,l = t ++ ys /\ RT (pass? x) ys o /\ o.toList = us := by
 rcases short_list hl with rfl | ⟨a,rfl⟩
 ·cases h
  refine ⟨[],none,by rw [List.append_nil],?_,rfl⟩
  unfold pass?
  rw [if_neg (by rw [hx]; decide)]
  exact fun r => rfl
 ·obtain ⟨ys,e,k⟩ := pass_back (x := x) (by rw [hx]; rfl) h
  exact ⟨ys,_,e,k,rfl⟩
theorem owill {x : Int} {ws : List Wl} {t l : List Int} (hl : ws.length <= 1) (hx : btest x 4 = decide (0 < ws.length)) (hq : ∀ u ∈ ws,x / 8 % 4 = u.qos /\ btest x 32 = u.retain) (h : sEach sWill ws t = some l) (hr : Rng l) : ∃ ys o,l = t ++ ys /\ RT (will? x) ys o /\ wlOf x o = ws := by
 rcases short_list hl with rfl | ⟨u,rfl⟩
 ·cases h
  refine ⟨[],none,by rw [List.append_nil],?_,rfl⟩
  unfold will?
  rw [if_neg (by rw [hx]; decide)]
  exact fun r => rfl
 ·obtain ⟨ys,e,k⟩ := will_back (x := x) (by rw [hx]; rfl) h hr
  refine ⟨ys,_,e,k,?_⟩
  obtain ⟨h1,h2⟩ := hq u (List.mem_singleton.2 rfl)
  unfold wlOf
  dsimp only
  rw [h1,h2]
theorem cfA_back {P : Pa} (h : cokA P = true) : P.wills.length <= 1 /\ P.user.length <= 1 /\ P.pass.length <= 1 /\ (0 <= cflA P /\ cflA P < 256) /\ cfok (cflA P) = true /\ btest (cflA P) 128 = decide (0 < P.user.length) /\ btest (cflA P) 64 = decide (0 < P.pass.length) /\ btest (cflA P) 2 = P.clean /\ btest (cflA P) 4 = decide (0 < P.wills.length) /\ ∀ u ∈ P.wills,cflA P / 8 % 4 = u.qos /\ btest (cflA P) 32 = u.retain := by
 unfold cokA cok0 at h
 simp only [Bool.and_eq_true,decide_eq_true_eq] at h
 obtain ⟨⟨⟨hw,hu⟩,hp⟩,hq⟩ := h
 refine ⟨hw,hu,hp,?_⟩
 unfold cflA
 rcases short_list hw with e | ⟨u,e⟩
 ·rw [e]
  obtain ⟨h1,h2,h3,h4,h5,h6⟩ := cfl0_back P.user.length P.pass.length P.clean hu hp
  exact ⟨h1,h2,h3,h4,h5,h6,fun u hu => by cases hu⟩
 ·rw [e] at hq |-
  have hq1 : mq u.qos = true := by simpa using hq
  obtain ⟨h1,h2,h3,h4,h5,h6,h7,h8⟩ := cfl1_back P.user.length P.pass.length P.clean hu hp u hq1
  refine ⟨h1,h2,h3,h4,h5,h6,fun v hv => ?_⟩
  obtain rfl := List.mem_singleton.1 hv
  exact ⟨h7,h8⟩
theorem is_mqtt : isMQTT mqtt = true := by decide +kernel
theorem back_1 {P : Pa} {l : List Int} (hk : P.kind = 1) (h : eb P = some l) (hr : Rng l) : ET (body? (pa0 1 false 0 false)) l P := by
 unfold eb at h
 rw [if_pos hk] at h
 obtain ⟨h1,he⟩ := must_inv h
 unfold sConn at h1
 cases h2 : sCon0 P.kind (cflA P) P.keep (cokA P) P.props P.client [] with
 | none => rw [h2] at h1; cases h1
 | some t0 =>
  rw [h2] at h1
  cases h3 : sEach sWill P.wills t0 with
  | none =>
   have : (((some t0).bind (sEach sWill P.wills)).bind (sEach sTx P.user)).bind (sEach sPass P.pass) = none := by
    show ((sEach sWill P.wills t0).bind (sEach sTx P.user)).bind (sEach sPass P.pass) = none
    rw [h3]; rfl
   rw [this] at h1; cases h1
  | some t1 =>
   have h4 : ((sEach sTx P.user t1)).bind (sEach sPass P.pass) = some l := by
    have : (((some t0).bind (sEach sWill P.wills)).bind (sEach sTx P.user)).bind (sEach sPass P.pass) = (sEach sTx P.user t1).bind (sEach sPass P.pass) := by
     show ((sEach sWill P.wills t0).bind (sEach sTx P.user)).bind (sEach sPass P.pass) = _
     rw [h3]; rfl
    rw [this] at h1; exact h1
   cases h5 : sEach sTx P.user t1 with
   | none => rw [h5] at h4; cases h4
   | some t2 =>
    rw [h5] at h4
    have h6 : sEach sPass P.pass t2 = some l := h4
    unfold sCon0 at h2
    obtain ⟨u1,g1,hct,rfl⟩ := add_inv h2
    obtain ⟨u2,g2,hp,rfl⟩ := add_inv g1
    obtain ⟨u3,g3,hkp,rfl⟩ := add_inv g2
    obtain ⟨u4,g4,hfl,rfl⟩ := add_inv g3
    obtain ⟨u5,g5,-,rfl⟩ := add_inv g4
    obtain ⟨u6,g6,hmq,rfl⟩ := add_inv g5
    have hok : cokA P = true /\ u6 = [] := by
     unfold sMust at g6
     cases hq : cokA P with
     | false => rw [hq] at g6; cases g6
     | true => rw [hq] at g6; cases g6; exact ⟨rfl,rfl⟩
    obtain ⟨hok,rfl⟩ := hok
    obtain ⟨hw1,hu1,hp1,hx,hcf,b128,b64,b2',b4,hwq⟩ := cfA_back hok
    have hfl1 : cflA P % 256 = cflA P := by omega
    rw [hk] at hp
    obtain ⟨yp,op,rfl,rp,ep⟩ := opass (x := cflA P) hp1 b64 h6
    obtain ⟨yu,ou,rfl,ru,eu⟩ := ouser (x := cflA P) hu1 b128 h5
    obtain ⟨yw,ow,rfl,rw',ew⟩ := owill (x := cflA P) hw1 b4 hwq h3 (rng_l (rng_l hr))
    have hrb := rng_l (rng_l (rng_l hr))
    have hpr := rt_props hp (rng_r (rng_l hrb))
    have hcon : RT connect? ((((([] ++ tx mqtt ++ [5 % 256] ++ [cflA P % 256] ++ b2 P.keep ++ pbs P.props ++ tx P.client) ++ yw) ++ yu) ++ yp)) ⟨cflA P,P.keep,P.props,P.client,ow,ou,op⟩ := by
     rw [hfl1]
     have e0 : (([] ++ tx mqtt ++ [5 % 256] ++ [cflA P] ++ b2 P.keep ++ pbs P.props ++ tx P.client) ++ yw) ++ yu ++ yp = tx mqtt ++ ([5] ++ ([cflA P] ++ (b2 P.keep ++ (pbs P.props ++ (tx P.client ++ (yw ++ (yu ++ yp))))))) := by
      simp only [List.append_assoc,List.nil_append]
      rfl
     rw [e0]
     unfold connect?
     refine RT.bind (rt_text hmq) (RT.bind0 (rt_must is_mqtt) (RT.bind (rt_one 5) (RT.bind0 (rt_must rfl) (RT.bind (ys := [cflA P]) ?_ (RT.bind (rt_two hkp) (RT.bind hpr (RT.bind (rt_text hct) (RT.bind rw' (RT.bind ru (rp.last _ rfl))))))))))
     unfold flags?
     exact RT.bind (ys := [cflA P]) (zs := []) (rt_one _) (RT.bind0 (rt_must hcf) (fun r => rfl))
    have e : body? (pa0 1 false 0 false) = bindR connect? fun n => pureR (ofCn (pa0 1 false 0 false) n) := rfl
    rw [e]
    refine hcon.et.last _ ?_
    unfold ofCn
    dsimp only
    rw [b2',ew,eu,ep]
    obtain ⟨⟨e1,e2,e3,e4⟩,⟨e5,e6,e7,e8⟩,⟨e9,e10,e11⟩,e12,e13,e14,e15,e16,e17,e18⟩ := emp_inv he
    obtain ⟨kind,dup,qos,retain,topic,id,payload,props,client,clean,keep,wills,user,pass,code,session,subs,filters,codes⟩ := P
    obtain rfl : dup = false := e1
    obtain rfl : qos = 0 := e5
    obtain rfl : retain = false := e2
    obtain rfl : topic = ⟨#[]⟩ := no_text e9
    obtain rfl : id = 0 := e6
    obtain rfl : payload = ⟨#[]⟩ := no_text e10
    obtain rfl : code = 0 := e8
    obtain rfl : session = false := e4
    obtain rfl : subs = [] := no_list e16
    obtain rfl : filters = [] := no_list e17
    obtain rfl : codes = [] := no_list e18
    obtain rfl : kind = 1 := hk
    rfl
theorem first_pub (d r : Bool) (q : Int) (h : pok d q = true) : fb 3 (pfl d q r) / 16 = 3 /\ btest (fb 3 (pfl d q r)) 8 = d /\ fb 3 (pfl d q r) / 2 % 4 = q /\ btest (fb 3 (pfl d q r)) 1 = r /\ bok (fb 3 (pfl d q r)) = true /\ (0 <= fb 3 (pfl d q r) /\ fb 3 (pfl d q r) <= 255) := by
 have hq : q = 0 \/ q = 1 \/ q = 2 := by
  unfold pok mq at h
  simp only [Bool.and_eq_true,decide_eq_true_eq] at h
  omega
 rcases hq with rfl | rfl | rfl <;> cases d <;> cases r <;> revert h <;> decide +kernel
theorem first_oth (k : Int) (h1 : 1 <= k) (h2 : k <= 15) (h3 : k ≠ 3) : ∀ f,f = (if k = 6 \/ k = 8 \/ k = 10 then (2 : Int) else 0) -> fb k f / 16 = k /\ bok (fb k f) = true /\ (0 <= fb k f /\ fb k f <= 255) := by
 rintro f rfl
 have hk : k = 1 \/ k = 2 \/ k = 4 \/ k = 5 \/ k = 6 \/ k = 7 \/ k = 8 \/ k = 9 \/ k = 10 \/ k = 11 \/ k = 12 \/ k = 13 \/ k = 14 \/ k = 15 := by omega
 rcases hk with rfl | rfl | rfl | rfl | rfl | rfl | rfl | rfl | rfl | rfl | rfl | rfl | rfl | rfl <;> decide +kernel
theorem back_any {P : Pa} {l : List Int} (h : eb P = some l) (hf : (fkA P).2 = true) (hr : Rng l) : packet? (bpa (fb P.kind (fkA P).1)) l = some (P,[]) /\ bok (fb P.kind (fkA P).1) = true /\ (0 <= fb P.kind (fkA P).1 /\ fb P.kind (fkA P).1 <= 255) := by
 by_cases h3 : P.kind = 3
 ·have e : fkA P = (pfl P.dup P.qos P.retain,pok P.dup P.qos) := by unfold fkA; rw [if_pos h3]
  rw [e] at hf |-
  dsimp only at hf |-
  rw [h3]
  obtain ⟨b1,b2,b3,b4,b5,b6⟩ := first_pub P.dup P.retain P.qos hf
  refine ⟨?_,b5,b6⟩
  unfold bpa
  rw [if_pos b1,b2,b3,b4]
  exact pk_et (back_3 h3 h hr)
 ·have hkr : 1 <= P.kind /\ P.kind <= 15 := by
   unfold fkA at hf
   rw [if_neg h3] at hf
   by_cases h6 : P.kind = 6 \/ P.kind = 8 \/ P.kind = 10
   ·omega
   ·rw [if_neg h6] at hf
    simp only [Bool.and_eq_true,decide_eq_true_eq] at hf
    exact hf
  have e : (fkA P).1 = (if P.kind = 6 \/ P.kind = 8 \/ P.kind = 10 then (2 : Int) else 0) := by
   unfold fkA
   rw [if_neg h3]
   by_cases h6 : P.kind = 6 \/ P.kind = 8 \/ P.kind = 10
   ·rw [if_pos h6,if_pos h6]
   ·rw [if_neg h6,if_neg h6]
  obtain ⟨b1,b2,b3⟩ := first_oth P.kind hkr.1 hkr.2 h3 _ e
  refine ⟨?_,b2,b3⟩
  have eb' : bpa (fb P.kind (fkA P).1) = pa0 P.kind false 0 false := by
   unfold bpa
   rw [if_neg (by rw [b1]; exact h3),b1]
  rw [eb']
  by_cases k1 : P.kind = 1
  ·rw [k1]; exact pk_et (back_1 k1 h hr)
  by_cases k2 : P.kind = 2
  ·rw [k2]; exact pk_et (back_2 k2 h hr)
  by_cases k4 : P.kind = 4 \/ P.kind = 5 \/ P.kind = 6 \/ P.kind = 7
  ·exact pk_et (back_4 P.kind k4 rfl h hr)
  by_cases k8 : P.kind = 8
  ·exact pk_et (back_8 P.kind k8 rfl h hr)
  by_cases k10 : P.kind = 10
  ·exact pk_et (back_10 P.kind k10 rfl h hr)
  by_cases k9 : P.kind = 9 \/ P.kind = 11
  ·exact pk_et (back_9 P.kind k9 rfl h hr)
  by_cases k14 : P.kind = 14 \/ P.kind = 15
  ·exact pk_et (back_14 P.kind k14 rfl h hr)
  ·exact pk_et (back_12 P.kind (by omega) rfl h)
theorem meas_back (b : Int) (l r : List Int) (hl : 1 + (V.put (l.length : Int)).length + l.length <= 65536) : meas (([b] ++ V.put (l.length : Int)) ++ l ++ r) = (1 + (V.put (l.length : Int)).length,1 + (V.put (l.length : Int)).length + l.length,0) := by
 have e : (([b] ++ V.put (l.length : Int)) ++ l ++ r).drop 1 = V.put (l.length : Int) ++ (l ++ r) := by
  rw [List.append_assoc,List.append_assoc]
  rfl
 have hv := vget_put' (l.length : Int) (by omega) (by omega) (l ++ r)
 have e1 : gid (V.put (l.length : Int) ++ (l ++ r)) = (l.length : Int) := by unfold gid; rw [hv]
 have e2 : ghd (V.put (l.length : Int) ++ (l ++ r)) = (V.put (l.length : Int)).length := by unfold ghd; rw [hv]; rfl
 unfold meas
 rw [e,hv,e1,e2]
 have e3 : ((l.length : Nat) : Int).toNat = l.length := rfl
 rw [e3]
 rw [if_neg (by simp),if_neg (by omega),if_neg (by
  rw [List.length_append,List.length_append,List.length_append]
  simp only [List.length_cons,List.length_nil]
  omega)]
theorem dec_back {P : Pa} {l r : List Int} (h : eb P = some l) (hf : (fkA P).2 = true) (hr : Rng l) (hl : (ebytes P.kind (fkA P).1 l).length <= 65536) :
  dnum (ebytes P.kind (fkA P).1 l ++ r) = 0 /\ (meas (ebytes P.kind (fkA P).1 l ++ r)).2.1 = (ebytes P.kind (fkA P).1 l).length /\ dbody (ebytes P.kind (fkA P).1 l ++ r) = some (P,[]) := by
 obtain ⟨h1,h2,h3⟩ := back_any h hf hr
 have hlen : (ebytes P.kind (fkA P).1 l).length = 1 + (V.put (l.length : Int)).length + l.length := by
  unfold ebytes
  rw [List.length_append,List.length_append]
  rfl
 have hm : meas (ebytes P.kind (fkA P).1 l ++ r) = (1 + (V.put (l.length : Int)).length,1 + (V.put (l.length : Int)).length + l.length,0) := meas_back _ l r (by omega)
 have h0 : (ebytes P.kind (fkA P).1 l ++ r).getD 0 0 = fb P.kind (fkA P).1 := rfl
 have hd : dbody (ebytes P.kind (fkA P).1 l ++ r) = some (P,[]) := by
  unfold dbody
  rw [hm,h0]
  have e : ((ebytes P.kind (fkA P).1 l ++ r).drop (1 + (V.put (l.length : Int)).length)).take (1 + (V.put (l.length : Int)).length + l.length - (1 + (V.put (l.length : Int)).length)) = l := by
   unfold ebytes
   rw [List.append_assoc,List.drop_left' (by rw [List.length_append]; rfl),Nat.add_sub_cancel_left,List.take_left' rfl]
  dsimp only
  rw [e]
  exact h1
 refine ⟨?_,by rw [hm,hlen],hd⟩
 unfold dnum
 rw [if_neg (by intro e; cases e),h0,if_neg (by rw [h2]; decide),hm,if_neg (by simp),hd]
 rfl
theorem meas_cons (b : Int) (t : List Int) : meas (b :: t) = if (V.vget t).2.2 ≠ 0 then (0,0,(V.vget t).2.2) else if 65536 < 1 + ghd t + (gid t).toNat then (0,0,2) else if (b :: t).length < 1 + ghd t + (gid t).toNat then (0,0,3) else (1 + ghd t,1 + ghd t + (gid t).toNat,0) := rfl
theorem short_back {P : Pa} {l : List Int} (h : eb P = some l) (hf : (fkA P).2 = true) (hr : Rng l) (hl : (ebytes P.kind (fkA P).1 l).length <= 65536) (k : Nat) (hk : k < (ebytes P.kind (fkA P).1 l).length) : dnum ((ebytes P.kind (fkA P).1 l).take k) = 3 := by
 obtain ⟨h1,h2,h3⟩ := back_any h hf hr
 have hlen : (ebytes P.kind (fkA P).1 l).length = 1 + (V.put (l.length : Int)).length + l.length := by
  unfold ebytes
  rw [List.length_append,List.length_append]
  rfl
 rcases k with _ | k
 ·rfl
 ·have e : (ebytes P.kind (fkA P).1 l).take (k + 1) = fb P.kind (fkA P).1 :: (V.put (l.length : Int) ++ l).take k := by
   unfold ebytes
   rfl
  rw [e]
  unfold dnum
  have h0 : (fb P.kind (fkA P).1 :: (V.put (l.length : Int) ++ l).take k).getD 0 0 = fb P.kind (fkA P).1 := rfl
  rw [if_neg (by intro e; cases e),h0,if_neg (by rw [h2]; decide)]
  have hm : (meas (fb P.kind (fkA P).1 :: (V.put (l.length : Int) ++ l).take k)).2.2 = 3 := by
   by_cases hj : k < (V.put (l.length : Int)).length
   ·have et : (V.put (l.length : Int) ++ l).take k = (V.put (l.length : Int)).take k := List.take_append_of_le_length (by omega)
    rw [et,meas_cons,V.vget_short _ _ hj,if_pos (by simp)]
   ·have et : (V.put (l.length : Int) ++ l).take k = V.put (l.length : Int) ++ l.take (k - (V.put (l.length : Int)).length) := by
     rw [List.take_append]
     rw [List.take_of_length_le (by omega)]
    have hv := vget_put' (l.length : Int) (by omega) (by omega) (l.take (k - (V.put (l.length : Int)).length))
    have e1 : gid (V.put (l.length : Int) ++ l.take (k - (V.put (l.length : Int)).length)) = (l.length : Int) := by unfold gid; rw [hv]
    have e2 : ghd (V.put (l.length : Int) ++ l.take (k - (V.put (l.length : Int)).length)) = (V.put (l.length : Int)).length := by unfold ghd; rw [hv]; rfl
    have e3 : ((l.length : Nat) : Int).toNat = l.length := rfl
    rw [et,meas_cons,e1,e2,e3,hv,if_neg (by simp),if_neg (by omega),if_pos (by
     rw [List.length_cons,List.length_append,List.length_take]
     omega)]
  rw [hm]
  rfl
end Go.Proofs.YtemedclhglkfjaaGreatDoor.K.B
namespace Go.Proofs.YtemedclhglkfjaaGreatDoor.K.B
open Go.RowKit
open Go.Proofs.YtemedclhglkfjaaGreatDoor.K
set_option maxRecDepth 100000
theorem bi_inv {α β : Type} {f : List Int -> Option (α × List Int)} {g : α -> List Int -> Option (β × List Int)} {l l' : List Int} {y : β} (h : bindR f g l = some (y,l')) : ∃ x l1,f l = some (x,l1) /\ g x l1 = some (y,l') := by
 unfold bindR at h
 cases hf : f l with
 | none => rw [hf] at h; cases h
 | some r => rw [hf] at h; exact ⟨r.1,r.2,rfl,h⟩
theorem pu_inv {α : Type} {x y : α} {l l' : List Int} (h : pureR x l = some (y,l')) : y = x /\ l' = l := by
 unfold pureR at h
 cases h
 exact ⟨rfl,rfl⟩
theorem mu_inv {b : Bool} {l l' : List Int} {u : Unit} (h : mustR b l = some (u,l')) : b = true /\ l' = l := by
 unfold mustR at h
 cases b
 ·cases h
 ·cases h; exact ⟨rfl,rfl⟩
def Lk (l r : List Int) (n : Nat) : Prop := n + r.length <= l.length /\ Rng r
theorem gt_full {l : List Int} (h : (gt l).2.2 = 0) : full l = true /\ utf (sb (gbs l)) = true /\ gt l = (gbs l,((2 + nb l : Nat) : Int),0) := by
 unfold gt at h |-
 by_cases hf : full l = true
 ·rw [if_pos hf] at h |-
  by_cases hu : utf (sb (gbs l)) = true
  ·rw [if_pos hu]; exact ⟨hf,hu,rfl⟩
  ·rw [if_neg hu] at h; exact absurd h (by simp)
 ·rw [if_neg hf] at h; exact absurd h (by simp)
theorem gbn_full {l : List Int} (h : (gbn l).2.2 = 0) : full l = true /\ gbn l = (gbs l,((2 + nb l : Nat) : Int),0) := by
 unfold gbn at h |-
 by_cases hf : full l = true
 ·rw [if_pos hf]; exact ⟨hf,rfl⟩
 ·rw [if_neg hf] at h; exact absurd h (by simp)
theorem full_le {l : List Int} (hf : full l = true) : 2 + nb l <= l.length := by
 unfold full at hf
 rw [Bool.and_eq_true,decide_eq_true_eq,decide_eq_true_eq] at hf
 exact hf.2
theorem gbs_tl {l : List Int} (hf : full l = true) : (tx (gbs l)).length = 2 + nb l := by
 have h := full_le hf
 rw [tx_length]
 unfold gbs
 rw [bs_size,List.length_take,List.length_drop]
 omega
theorem nb_tn (n : Nat) : ((2 + n : Nat) : Int).toNat = 2 + n := rfl
theorem okT_of {s : ByteArray} (hu : utf (sb s) = true) (hz : s.size <= 65535) : okT s = true := by
 unfold okT chk
 rw [if_pos hu,if_pos (by rw [sb_length]; exact hz)]
 rfl
theorem text_in {l r : List Int} {s : ByteArray} (hr : Rng l) (h : text? l = some (s,r)) : okT s = true /\ s.size <= 65535 /\ Lk l r (tx s).length := by
 unfold text? at h
 by_cases h0 : (gt l).2.2 = 0
 ·rw [if_pos h0] at h
  obtain ⟨hf,hu,hg⟩ := gt_full h0
  rw [hg] at h
  dsimp only at h
  rw [nb_tn] at h
  cases h
  have hl := full_le hf
  have hz := gbs_size l hr
  refine ⟨okT_of hu hz,hz,?_,hr.drop _⟩
  rw [gbs_tl hf,List.length_drop]
  omega
 ·rw [if_neg h0] at h; cases h
theorem bin_in {l r : List Int} {s : ByteArray} (hr : Rng l) (h : bin? l = some (s,r)) : okB s = true /\ s.size <= 65535 /\ Lk l r (tx s).length := by
 unfold bin? at h
 by_cases h0 : (gbn l).2.2 = 0
 ·rw [if_pos h0] at h
  obtain ⟨hf,hg⟩ := gbn_full h0
  rw [hg] at h
  dsimp only at h
  rw [nb_tn] at h
  cases h
  have hl := full_le hf
  have hz := gbs_size l hr
  refine ⟨decide_eq_true hz,hz,?_,hr.drop _⟩
  rw [gbs_tl hf,List.length_drop]
  omega
 ·rw [if_neg h0] at h; cases h
theorem one_in {l r : List Int} {x : Int} (hr : Rng l) (h : one? l = some (x,r)) : (0 <= x /\ x <= 255) /\ Lk l r 1 := by
 cases l with
 | nil => cases h
 | cons a t =>
  cases h
  have h0 := hr 0
  exact ⟨h0,by rw [List.length_cons]; omega,hr.drop 1⟩
theorem two_in {l r : List Int} {x : Int} (hr : Rng l) (h : two? l = some (x,r)) : in16 x = true /\ Lk l r 2 := by
 match l,h with
 | [],h => cases h
 | [a],h => cases h
 | a :: b :: t,h =>
  cases h
  have h0 : 0 <= a /\ a <= 255 := hr 0
  have h1 : 0 <= b /\ b <= 255 := hr 1
  refine ⟨?_,by rw [List.length_cons,List.length_cons]; omega,hr.drop 2⟩
  unfold in16
  simp only [Bool.and_eq_true,decide_eq_true_eq]
  omega
theorem id_in {l r : List Int} {x : Int} (hr : Rng l) (h : id? l = some (x,r)) : (in16 x && x != 0) = true /\ Lk l r 2 := by
 unfold id? at h
 cases h2 : two? l with
 | none => rw [h2] at h; cases h
 | some q =>
  obtain ⟨y,t⟩ := q
  rw [h2] at h
  dsimp only at h
  by_cases h0 : y = 0
  ·rw [if_pos h0] at h; cases h
  ·rw [if_neg h0] at h
   cases h
   obtain ⟨h3,h4⟩ := two_in hr h2
   exact ⟨by rw [h3]; simpa using h0,h4⟩
theorem pvb_gval (id : Int) (m : List Int) (hr : Rng m) (h : (gval (kd id) m).1 = true) : (pvb (id,(gval (kd id) m).2.1,(gval (kd id) m).2.2.1,(gval (kd id) m).2.2.2.1)).length = (gval (kd id) m).2.2.2.2 := by
 unfold pvb
 dsimp only
 generalize kd id = k at h |-
 unfold gval at h |-
 by_cases k1 : k = 1 \/ k = 2 \/ k = 4
 ·rw [if_pos k1]
  rcases k1 with rfl | rfl | rfl <;> rfl
 rw [if_neg k1] at h |-
 rw [if_neg (show ¬ k = 1 from by omega),if_neg (show ¬ k = 2 from by omega),if_neg (show ¬ k = 4 from by omega)]
 by_cases k5 : k = 5
 ·rw [if_pos k5] at h |-
  rw [if_pos k5]
  simp only [decide_eq_true_eq] at h |-
  obtain ⟨_,_,h2,_,_,h3⟩ := vget_is m hr h
  have := congrArg List.length h3
  rw [List.length_take,Nat.min_eq_left h2] at this
  exact this
 rw [if_neg k5] at h |-
 rw [if_neg k5]
 by_cases k6 : k = 6
 ·rw [if_pos k6] at h |-
  rw [if_neg (show ¬ k = 8 from by omega)]
  simp only [decide_eq_true_eq] at h |-
  obtain ⟨hf,_,hg⟩ := gt_full h
  rw [hg]
  exact gbs_tl hf
 rw [if_neg k6] at h |-
 by_cases k7 : k = 7
 ·rw [if_pos k7] at h |-
  rw [if_neg (show ¬ k = 8 from by omega)]
  simp only [decide_eq_true_eq] at h |-
  obtain ⟨hf,hg⟩ := gbn_full h
  rw [hg]
  exact gbs_tl hf
 rw [if_neg k7] at h |-
 by_cases k8 : k = 8
 ·rw [if_pos k8] at h |-
  rw [if_pos k8]
  simp only [Bool.and_eq_true,decide_eq_true_eq] at h |-
  obtain ⟨hf,_,hg⟩ := gt_full h.1
  obtain ⟨hf2,_,hg2⟩ := gt_full h.2
  have e1 := gbs_tl hf
  have e2 := gbs_tl hf2
  rw [hg2,List.length_append]
  show _ + (tx (gbs _)).length = _ + (2 + _)
  rw [e2,hg]
  show (tx (gbs m)).length + _ = 2 + nb m + _
  rw [e1]
 rw [if_neg k8] at h
 exact absurd h (by simp)
theorem put_len_of {l : List Int} (hr : Rng l) (h : (V.vget l).2.2 = 0) : (V.put (gid l)).length = ghd l := by
 obtain ⟨_,_,h2,_,_,h3⟩ := vget_is l hr h
 have := congrArg List.length h3
 rw [List.length_take,Nat.min_eq_left h2] at this
 exact this
theorem pb_gpr {l : List Int} (hr : Rng l) (h : gok l = true) : (pb (gpr l)).length = gsz l := by
 unfold gok at h
 rw [Bool.and_eq_true,decide_eq_true_eq] at h
 have e := pvb_gval (gid l) (l.drop (ghd l)) (hr.drop _) h.2
 unfold pb gpr gsz grs
 rw [List.length_append,e]
 show (V.put (gid l)).length + _ = _
 rw [put_len_of hr h.1]
theorem parse_len : ∀ (n : Nat) (l : List Int) (q : List Pr),l.length <= n -> Rng l -> parse l = some q -> (body q).length = l.length := by
 intro n
 induction n with
 | zero =>
  intro l q hl hr h
  obtain rfl := List.length_eq_zero_iff.1 (Nat.le_zero.1 hl)
  rw [parse_nil] at h
  cases h
  rfl
 | succ n ih =>
  intro l q hl hr h
  by_cases h0 : l = []
  ·subst h0
   rw [parse_nil] at h
   cases h
   rfl
  ·cases hg : gok l with
   | false => rw [parse_no l h0 hg] at h; cases h
   | true =>
    rw [parse_yes l h0 hr hg] at h
    obtain ⟨g1,g2,_⟩ := gok_le l hr hg
    cases hp : parse (l.drop (gsz l)) with
    | none => rw [hp] at h; cases h
    | some q' =>
     rw [hp] at h
     cases h
     have := ih (l.drop (gsz l)) q' (by rw [List.length_drop]; omega) (hr.drop _) hp
     rw [List.length_drop] at this
     show (List.flatMap pb (gpr l :: q')).length = _
     rw [List.flatMap_cons,List.length_append,pb_gpr hr hg]
     unfold body at this
     omega
theorem rng_take {l : List Int} (h : Rng l) (n : Nat) : Rng (l.take n) := by
 have : l = l.take n ++ l.drop n := (List.take_append_drop n l).symm
 rw [this] at h
 exact rng_l h
theorem may_small {p : Pr} (h : may p = true) : p.2.2.1.size <= 65535 /\ p.2.2.2.size <= 65535 := by
 unfold may at h
 rw [Bool.and_eq_true] at h
 obtain ⟨hf,ht⟩ := h
 unfold fit at hf
 rw [Bool.and_eq_true] at hf
 have hf := hf.2
 unfold txo at ht
 have em : ∀ s : ByteArray,Go.Proofs.YtemedclhglkfjaaGreatDoor.emp s = true -> s.size <= 65535 := fun s h => by rw [emp_eq h]; decide
 have ck : ∀ s : ByteArray,chk (sb s) = 0 -> s.size <= 65535 := fun s h => by have := chk_0 h; rw [sb_length] at this; exact this
 by_cases k8 : kd p.1 = 8
 ·rw [if_neg (by omega),if_neg (by omega),if_pos k8,Bool.and_eq_true,decide_eq_true_eq,decide_eq_true_eq] at ht
  exact ⟨ck _ ht.1,ck _ ht.2⟩
 rw [if_neg k8] at hf
 by_cases k6 : kd p.1 = 6
 ·rw [if_pos k6,decide_eq_true_eq] at ht
  rw [if_pos (.inl k6)] at hf
  exact ⟨ck _ ht,em _ hf⟩
 rw [if_neg k6] at ht
 by_cases k7 : kd p.1 = 7
 ·rw [if_pos k7,decide_eq_true_eq] at ht
  rw [if_pos (.inr k7)] at hf
  exact ⟨ht,em _ hf⟩
 rw [if_neg (by omega),Bool.and_eq_true] at hf
 exact ⟨em _ hf.1,em _ hf.2⟩
def PrOk (x : List Pr) : Prop := x.length <= 32 /\ ∀ k,k < x.length -> (at0 x k).2.2.1.size <= 65535 /\ (at0 x k).2.2.2.size <= 65535
theorem prok_of {place : Int} {x : List Pr} (h : okP place x = true) : PrOk x := by
 obtain ⟨h1,h2⟩ := okP_inv h
 exact ⟨h2,fun k hk => may_small (okAt_may (h1 k hk)).1⟩
theorem props_in {place : Int} {l r : List Int} {x : List Pr} (hr : Rng l) (h : props? place l = some (x,r)) : okP place x = true /\ PrOk x /\ Lk l r (pbs x).length := by
 unfold props? at h
 by_cases h0 : pgt place l = 0
 ·rw [if_pos h0] at h
  unfold plist psz at h
  rw [if_pos h0,if_pos h0] at h
  unfold pgt at h0
  by_cases hv : (V.vget l).2.2 = 0
  ·rw [if_neg (by simpa using hv)] at h0
   by_cases hl : l.length < ghd l + (gid l).toNat
   ·rw [if_pos hl] at h0; exact absurd h0 (by decide)
   ·rw [if_neg hl] at h0
    obtain ⟨_,_,_,g0,g1,_⟩ := vget_is l hr hv
    cases hp : parse (pbd l) with
    | none => rw [rdn_none place _ hp] at h0; exact absurd h0 (by decide)
    | some q =>
     rw [rdn_some place _ q hp] at h0
     rw [hp] at h
     cases h
     have e := parse_len _ (pbd l) q (Nat.le_refl _) (rng_take (hr.drop _) _) hp
     have e1 : (pbd l).length = (gid l).toNat := by
      unfold pbd
      rw [List.length_take,List.length_drop]
      omega
     have hk : okP place q = true := decide_eq_true h0
     refine ⟨hk,prok_of hk,?_,hr.drop _⟩
     show (pbs q).length + _ <= _
     unfold pbs
     rw [List.length_append,e,e1,show (((gid l).toNat : Nat) : Int) = gid l from by omega,put_len_of hr hv,List.length_drop]
     omega
  ·rw [if_pos hv] at h0; exact absurd h0 hv
 ·rw [if_neg h0] at h; cases h
theorem add_yes {c : Bool} {ys t : List Int} (h : c = true) : sAdd c ys t = some (t ++ ys) := by unfold sAdd; rw [if_pos h]
theorem must_yes {c : Bool} {t : List Int} (h : c = true) : sMust c t = some t := by unfold sMust; rw [if_pos h]
theorem reason_in {kind : Int} {l r : List Int} {c : Int} {x : List Pr} (hr : Rng l) (h : reason? kind l = some ((c,x),r)) : (0 <= c /\ c <= 255) /\ PrOk x /\ (∀ t,∃ ys,sReason c kind x t = some (t ++ ys) /\ Lk l r ys.length) := by
 cases l with
 | nil =>
  cases h
  refine ⟨by omega,⟨by simp,fun k hk => absurd hk (by simp)⟩,fun t => ⟨[],?_,by simp,hr⟩⟩
  rw [List.append_nil]
  rfl
 | cons a t =>
  have ha : 0 <= a /\ a <= 255 := hr 0
  have h8 : in8 a = true := by unfold in8; simp only [Bool.and_eq_true,decide_eq_true_eq]; omega
  have hrt : Rng t := hr.drop 1
  unfold reason? at h
  dsimp only at h
  by_cases h0 : t = []
  ·rw [if_pos h0] at h
   cases h
   refine ⟨ha,⟨by simp,fun k hk => absurd hk (by simp)⟩,fun u => ?_⟩
   unfold sReason
   rw [if_pos (show ([] : List Pr).length = 0 from rfl)]
   by_cases hc : c = 0
   ·rw [if_pos hc]
    exact ⟨[],by rw [List.append_nil],by simp,fun j => by simp⟩
   ·rw [if_neg hc,add_yes h8]
    exact ⟨_,rfl,by simp,fun j => by simp⟩
  ·rw [if_neg h0] at h
   cases hp : props? kind t with
   | none => rw [hp] at h; cases h
   | some q =>
    obtain ⟨q1,q2⟩ := q
    rw [hp] at h
    simp only [Option.map_some,Option.some.injEq,Prod.mk.injEq] at h
    obtain ⟨⟨rfl,rfl⟩,rfl⟩ := h
    obtain ⟨h1,h2,h3,h4⟩ := props_in hrt hp
    refine ⟨ha,h2,fun u => ?_⟩
    unfold sReason
    by_cases hx : q1.length = 0
    ·rw [if_pos hx]
     by_cases hc : a = 0
     ·rw [if_pos hc]
      exact ⟨[],by rw [List.append_nil],by rw [List.length_cons,List.length_nil]; omega,h4⟩
     ·rw [if_neg hc,add_yes h8]
      exact ⟨_,rfl,by rw [List.length_cons,List.length_cons,List.length_nil]; omega,h4⟩
    ·rw [if_neg hx,add_yes h8]
     show ∃ ys,sAdd (okP kind q1) (pbs q1) _ = _ /\ _
     rw [add_yes h1]
     exact ⟨[a % 256] ++ pbs q1,by rw [List.append_assoc],by rw [List.length_append,List.length_cons,List.length_cons,List.length_nil]; omega,h4⟩
theorem many_in {α : Type} {f : List Int -> Option (α × List Int)} {g : α -> List Int -> Option (List Int)} {T : α -> Prop} (hg : ∀ l x r,Rng l -> f l = some (x,r) -> T x /\ ∀ t,∃ ys,g x t = some (t ++ ys) /\ Lk l r ys.length) :
  ∀ (n : Nat) (l : List Int) (d : List α) (r : List Int),Rng l -> many f n l = some (d,r) -> (∀ x ∈ d,T x) /\ ∀ t,∃ ys,sEach g d t = some (t ++ ys) /\ Lk l r ys.length := by
 intro n
 induction n with
 | zero =>
  intro l d r hr h
  unfold many at h
  by_cases h0 : l = []
  ·rw [if_pos h0] at h
   cases h
   subst h0
   exact ⟨fun x hx => (by cases hx),fun t => ⟨[],by rw [List.append_nil]; rfl,by simp,hr⟩⟩
  ·rw [if_neg h0] at h; cases h
 | succ n ih =>
  intro l d r hr h
  unfold many at h
  by_cases h0 : l = []
  ·rw [if_pos h0] at h
   cases h
   subst h0
   exact ⟨fun x hx => (by cases hx),fun t => ⟨[],by rw [List.append_nil]; rfl,by simp,hr⟩⟩
  ·rw [if_neg h0] at h
   cases hf : f l with
   | none => rw [hf] at h; cases h
   | some q =>
    obtain ⟨x,l1⟩ := q
    rw [hf] at h
    simp only [Option.bind_some] at h
    cases hm : many f n l1 with
    | none => rw [hm] at h; cases h
    | some s =>
     obtain ⟨d1,r1⟩ := s
     rw [hm] at h
     simp only [Option.map_some,Option.some.injEq,Prod.mk.injEq] at h
     obtain ⟨rfl,rfl⟩ := h
     obtain ⟨hT,hx⟩ := hg l x l1 hr hf
     obtain ⟨_,_,⟨_,hl0⟩⟩ := hx []
     obtain ⟨hT2,hx2⟩ := ih l1 d1 r1 hl0 hm
     refine ⟨fun y hy => ?_,fun t => ?_⟩
     ·rcases List.mem_cons.1 hy with rfl | hy
      ·exact hT
      ·exact hT2 y hy
     ·obtain ⟨ys,e1,k1,k2⟩ := hx t
      obtain ⟨zs,e2,k3,k4⟩ := hx2 (t ++ ys)
      refine ⟨ys ++ zs,?_,by rw [List.length_append]; omega,k4⟩
      unfold sEach
      rw [e1,<- List.append_assoc]
      exact e2
theorem list_in {α : Type} {f : List Int -> Option (α × List Int)} {g : α -> List Int -> Option (List Int)} {T : α -> Prop} (hg : ∀ l x r,Rng l -> f l = some (x,r) -> T x /\ ∀ t,∃ ys,g x t = some (t ++ ys) /\ Lk l r ys.length) {l r : List Int} {d : List α} (hr : Rng l) (h : list? f l = some (d,r)) :
  mc d.length = true /\ (∀ x ∈ d,T x) /\ ∀ t,∃ ys,sEach g d t = some (t ++ ys) /\ Lk l r ys.length := by
 unfold list? at h
 obtain ⟨x,l1,h1,hA⟩ := bi_inv h
 obtain ⟨_,l2,h2,hB⟩ := bi_inv hA
 obtain ⟨h3,e3⟩ := mu_inv h2
 obtain ⟨e4,e5⟩ := pu_inv hB
 subst e4 e5 e3
 exact ⟨h3,many_in hg _ l _ _ hr h1⟩
theorem tx_in (l : List Int) (x : ByteArray) (r : List Int) (hr : Rng l) (h : text? l = some (x,r)) : x.size <= 65535 /\ ∀ t,∃ ys,sTx x t = some (t ++ ys) /\ Lk l r ys.length := by
 obtain ⟨h1,h2,h3⟩ := text_in hr h
 exact ⟨h2,fun t => ⟨_,add_yes h1,h3⟩⟩
theorem code_in (l : List Int) (x : Int) (r : List Int) (hr : Rng l) (h : one? l = some (x,r)) : (0 <= x /\ x <= 255) /\ ∀ t,∃ ys,sCode x t = some (t ++ ys) /\ Lk l r ys.length := by
 obtain ⟨h1,h2⟩ := one_in hr h
 have h8 : in8 x = true := by unfold in8; simp only [Bool.and_eq_true,decide_eq_true_eq]; omega
 exact ⟨h1,fun t => ⟨_,add_yes h8,h2⟩⟩
theorem opb_in (o : Int) (h0 : 0 <= o /\ o <= 255) : in8 (opv (o % 4) (btest o 4) (btest o 8) (o / 16)) = true := byte_cases (P := fun o => in8 (opv (o % 4) (btest o 4) (btest o 8) (o / 16)) = true) (by decide +kernel) o h0.1 h0.2
theorem sub_in (l : List Int) (x : Sb) (r : List Int) (hr : Rng l) (h : sub? l = some (x,r)) : x.filter.size <= 65535 /\ ∀ t,∃ ys,sSub x t = some (t ++ ys) /\ Lk l r ys.length := by
 unfold sub? at h
 obtain ⟨f,l1,h1,hA⟩ := bi_inv h
 obtain ⟨o,l2,h2,hB⟩ := bi_inv hA
 obtain ⟨_,l3,h3',hC⟩ := bi_inv hB
 obtain ⟨h3,e3⟩ := mu_inv h3'
 obtain ⟨e4,e5⟩ := pu_inv hC
 subst e4 e5 e3
 obtain ⟨a1,a2,a3,a4⟩ := text_in hr h1
 obtain ⟨b1,b2,b3⟩ := one_in a4 h2
 refine ⟨a2,fun t => ?_⟩
 have h8 : in8 (opb (sbOf f o)) = true := opb_in o b1
 refine ⟨tx f ++ [opb (sbOf f o) % 256],?_,by rw [List.length_append,List.length_cons,List.length_nil]; omega,b3⟩
 unfold sSub
 rw [must_yes (show opk (sbOf f o).qos (sbOf f o).handling = true from h3)]
 show ((sAdd (okT f) (tx f) t).bind _) = _
 rw [add_yes a1]
 show sAdd _ _ _ = _
 rw [add_yes h8,List.append_assoc]
end Go.Proofs.YtemedclhglkfjaaGreatDoor.K.B
namespace Go.Proofs.YtemedclhglkfjaaGreatDoor.K.B
open Go.RowKit
open Go.Proofs.YtemedclhglkfjaaGreatDoor.K
set_option maxRecDepth 100000
structure Md (P : Pa) : Prop where
 qos : 0 <= P.qos /\ P.qos <= 3
 id : 0 <= P.id /\ P.id <= 65535
 keep : 0 <= P.keep /\ P.keep <= 65535
 code : 0 <= P.code /\ P.code <= 255
 topic : P.topic.size <= 65535
 payload : P.payload.size <= 65536
 client : P.client.size <= 65535
 props : PrOk P.props
 wills : P.wills.length <= 1
 wills2 : ∀ u ∈ P.wills,u.topic.size <= 65535 /\ PrOk u.props
 user : P.user.length <= 1
 user2 : ∀ s ∈ P.user,s.size <= 65535
 pass : P.pass.length <= 1
 subs : P.subs.length <= 16
 subs2 : ∀ s ∈ P.subs,s.filter.size <= 65535
 filters : P.filters.length <= 16
 filters2 : ∀ s ∈ P.filters,s.size <= 65535
 codes : P.codes.length <= 16
 codes2 : ∀ n ∈ P.codes,0 <= n /\ n <= 255
theorem prok_nil : PrOk [] := ⟨by simp,fun k hk => absurd hk (by simp)⟩
theorem mem_at {α : Type} {l : List α} {k : Nat} {d : α} (hk : k < l.length) : l.getD k d ∈ l := by
 rw [List.getD_eq_getElem?_getD,List.getElem?_eq_getElem hk]
 exact List.getElem_mem hk
theorem PrOk.small {l : List Pr} (h : PrOk l) : Go.Proofs.YtemedclhglkfjaaGreatDoor.Small l := fun k hk => by have := h.2 k hk; omega
theorem Md.big {P : Pa} (h : Md P) : Big P := by
 have h1 := h.qos
 have h2 := h.id
 have h3 := h.keep
 have h4 := h.code
 have t1 := h.topic
 have t2 := h.payload
 have t3 := h.client
 have l1 := h.props.1
 have l2 := h.wills
 have l3 := h.user
 have l4 := h.pass
 have l5 := h.subs
 have l6 := h.filters
 have l7 := h.codes
 refine ⟨⟨by omega,by omega,by omega,by omega⟩,⟨by omega,by omega,by omega⟩,⟨by omega,by omega,by omega,by omega,by omega,by omega,by omega⟩,h.props.small,fun k hk => ?_,fun k hk => ?_,fun k hk => ?_,fun k hk => ?_,fun k hk => ?_⟩
 ·obtain ⟨a,b⟩ := h.wills2 _ (mem_at (d := wl0) hk)
  have := b.1
  exact ⟨by omega,by omega,b.small⟩
 ·have := h.user2 _ (mem_at (d := ⟨#[]⟩) hk); omega
 ·have := h.subs2 _ (mem_at (d := sb0) hk); omega
 ·have := h.filters2 _ (mem_at (d := ⟨#[]⟩) hk); omega
 ·have := h.codes2 _ (mem_at (d := 0) hk); omega
def Again (P : Pa) (k : Int) (d : Bool) (q : Int) (l r : List Int) : Prop := (P.kind = k /\ P.dup = d /\ P.qos = q) /\ Md P /\ ∃ ys,eb P = some ys /\ ys.length + r.length <= l.length
theorem b_add {st : Option (List Int)} {c : Bool} {ys t : List Int} (h : st = some t) (hc : c = true) : st.bind (sAdd c ys) = some (t ++ ys) := by rw [h]; exact add_yes hc
theorem b_must {st : Option (List Int)} {c : Bool} {t : List Int} (h : st = some t) (hc : c = true) : st.bind (sMust c) = some t := by rw [h]; exact must_yes hc
theorem b_step {st : Option (List Int)} {f : List Int -> Option (List Int)} {ys t : List Int} (h : st = some t) (hc : f t = some (t ++ ys)) : st.bind f = some (t ++ ys) := by rw [h]; exact hc
theorem in8_of {x : Int} (h : 0 <= x /\ x <= 255) : in8 x = true := by unfold in8; simp only [Bool.and_eq_true,decide_eq_true_eq]; omega
theorem in16_of {x : Int} (h : in16 x = true) : 0 <= x /\ x <= 65535 := by unfold in16 at h; simp only [Bool.and_eq_true,decide_eq_true_eq] at h; omega
theorem id_of {x : Int} (h : (in16 x && x != 0) = true) : 0 <= x /\ x <= 65535 := by rw [Bool.and_eq_true] at h; exact in16_of h.1
theorem mc_of {n : Nat} (h : mc n = true) : n <= 16 := by unfold mc at h; simp only [Bool.and_eq_true,decide_eq_true_eq] at h; omega
theorem b2_len (k : Int) : (b2 k).length = 2 := rfl
theorem eb_4 {P : Pa} (hk : P.kind = 4 \/ P.kind = 5 \/ P.kind = 6 \/ P.kind = 7) : eb P = ((sIdA P).bind (sReason P.code P.kind P.props)).bind (sMust (empA P.no_id.no_code.no_props)) := by
 unfold eb
 rw [if_neg (by omega),if_neg (by omega),if_neg (by omega),if_pos hk]
theorem eb_8 {P : Pa} (hk : P.kind = 8) : eb P = (((sIpA P).bind (sMust (mc P.subs.length))).bind (sEach sSub P.subs)).bind (sMust (empA P.no_id.no_props.no_subs)) := by
 unfold eb
 rw [if_neg (by omega),if_neg (by omega),if_neg (by omega),if_neg (by omega),if_pos hk]
theorem eb_10 {P : Pa} (hk : P.kind = 10) : eb P = (((sIpA P).bind (sMust (mc P.filters.length))).bind (sEach sTx P.filters)).bind (sMust (empA P.no_id.no_props.no_filters)) := by
 unfold eb
 rw [if_neg (by omega),if_neg (by omega),if_neg (by omega),if_neg (by omega),if_neg (by omega),if_pos hk]
theorem eb_9 {P : Pa} (hk : P.kind = 9 \/ P.kind = 11) : eb P = (((sIpA P).bind (sMust (mc P.codes.length))).bind (sEach sCode P.codes)).bind (sMust (empA P.no_id.no_props.no_codes)) := by
 unfold eb
 rw [if_neg (by omega),if_neg (by omega),if_neg (by omega),if_neg (by omega),if_neg (by omega),if_neg (by omega),if_pos hk]
theorem eb_14 {P : Pa} (hk : P.kind = 14 \/ P.kind = 15) : eb P = ((some []).bind (sReason P.code P.kind P.props)).bind (sMust (empA P.no_code.no_props)) := by
 unfold eb
 rw [if_neg (by omega),if_neg (by omega),if_neg (by omega),if_neg (by omega),if_neg (by omega),if_neg (by omega),if_neg (by omega),if_pos hk]
theorem eb_12 {P : Pa} (hk : P.kind = 12 \/ P.kind = 13) : eb P = (some []).bind (sMust (empA P)) := by
 unfold eb
 rw [if_neg (by omega),if_neg (by omega),if_neg (by omega),if_neg (by omega),if_neg (by omega),if_neg (by omega),if_neg (by omega),if_neg (by omega)]
theorem eb_1 {P : Pa} (hk : P.kind = 1) : eb P = (sConn P.kind (cflA P) P.keep (cokA P) P.props P.client P.wills P.user P.pass []).bind (sMust (empA P.no_clean.no_keep.no_props.no_client.no_wills.no_user.no_pass)) := by
 unfold eb
 rw [if_pos hk]
theorem eb_3 {P : Pa} (hk : P.kind = 3) : eb P = (sPub P.topic P.qos P.id P.kind P.props P.payload []).bind (sMust (if 0 < P.qos then empA P.no_dup.no_retain.no_topic.no_qos.no_id.no_props.no_payload else empA P.no_dup.no_retain.no_topic.no_qos.no_props.no_payload)) := by
 unfold eb
 rw [if_neg (by omega),if_neg (by omega),if_pos hk]
theorem bd_8 {P : Pa} (hk : P.kind = 8) : body? P = bindR id? fun i => bindR (props? P.kind) fun x => bindR (list? sub?) fun d => pureR { P with id := i,props := x,subs := d } := by
 unfold body?
 rw [if_neg (by omega),if_neg (by omega),if_neg (by omega),if_pos hk]
theorem bd_10 {P : Pa} (hk : P.kind = 10) : body? P = bindR id? fun i => bindR (props? P.kind) fun x => bindR (list? text?) fun d => pureR { P with id := i,props := x,filters := d } := by
 unfold body?
 rw [if_neg (by omega),if_neg (by omega),if_neg (by omega),if_neg (by omega),if_pos hk]
theorem bd_9 {P : Pa} (hk : P.kind = 9 \/ P.kind = 11) : body? P = bindR id? fun i => bindR (props? P.kind) fun x => bindR (list? one?) fun d => pureR { P with id := i,props := x,codes := d } := by
 unfold body?
 rw [if_neg (by omega),if_neg (by omega),if_neg (by omega),if_neg (by omega),if_neg (by omega),if_pos hk]
theorem bd_4 {P : Pa} (hk : P.kind = 4 \/ P.kind = 5 \/ P.kind = 6 \/ P.kind = 7) : body? P = bindR id? fun i => bindR (reason? P.kind) fun r => pureR { P with id := i,code := r.1,props := r.2 } := by
 unfold body?
 rw [if_neg (by omega),if_neg (by omega),if_neg (by omega),if_neg (by omega),if_neg (by omega),if_neg (by omega),if_pos hk]
theorem bd_14 {P : Pa} (hk : P.kind = 14 \/ P.kind = 15) : body? P = bindR (reason? P.kind) fun r => pureR { P with code := r.1,props := r.2 } := by
 unfold body?
 rw [if_neg (by omega),if_neg (by omega),if_neg (by omega),if_neg (by omega),if_neg (by omega),if_neg (by omega),if_neg (by omega),if_pos hk]
theorem bd_12 {P : Pa} (hk : P.kind = 12 \/ P.kind = 13) : body? P = pureR P := by
 unfold body?
 rw [if_neg (by omega),if_neg (by omega),if_neg (by omega),if_neg (by omega),if_neg (by omega),if_neg (by omega),if_neg (by omega),if_neg (by omega)]
theorem in_2 {l r : List Int} {P : Pa} (hr : Rng l) (h : body? (pa0 2 false 0 false) l = some (P,r)) : Again P 2 false 0 l r := by
 have h' : (bindR one? fun f => bindR (mustR (decide (f <= 1))) fun _ => bindR one? fun c => bindR (props? 2) fun x => pureR { pa0 2 false 0 false with session := f == 1,code := c,props := x }) l = some (P,r) := h
 obtain ⟨f,l1,h1,hA⟩ := bi_inv h'
 obtain ⟨_,l2,h2,hB⟩ := bi_inv hA
 obtain ⟨_,e2⟩ := mu_inv h2
 obtain ⟨c,l3,h3,hC⟩ := bi_inv hB
 obtain ⟨x,l4,h4,hD⟩ := bi_inv hC
 obtain ⟨e5,e6⟩ := pu_inv hD
 subst e5 e6 e2
 obtain ⟨_,a1,a2⟩ := one_in hr h1
 obtain ⟨b0,b1,b2'⟩ := one_in a2 h3
 obtain ⟨c0,c1,c2,c3⟩ := props_in b2' h4
 refine ⟨⟨rfl,rfl,rfl⟩,⟨(by simp [pa0]),(by simp [pa0]),(by simp [pa0]),b0,(show (0 : Nat) <= 65535 from by omega),(show (0 : Nat) <= 65536 from by omega),(show (0 : Nat) <= 65535 from by omega),c1,(by simp [pa0]),(by simp [pa0]),(by simp [pa0]),(by simp [pa0]),(by simp [pa0]),(by simp [pa0]),(by simp [pa0]),(by simp [pa0]),(by simp [pa0]),(by simp [pa0]),(by simp [pa0])⟩,?_⟩
 refine ⟨_,b_must (b_add (b_add (b_add (t := []) rfl ?_) (in8_of b0)) c0) (decide_eq_true ⟨⟨rfl,rfl,rfl,rfl⟩,⟨rfl,rfl,rfl,rfl⟩,⟨rfl,rfl,rfl⟩,rfl,rfl,rfl,rfl,rfl,rfl,rfl⟩),?_⟩
 ·show in8 (fv (f == 1) 1) = true
  cases (f == 1) <;> decide +kernel
 ·show (([] ++ [_]) ++ [_] ++ pbs x).length + _ <= _
  rw [List.length_append,List.length_append,List.length_append,List.length_cons,List.length_cons,List.length_nil]
  omega
theorem in_4 (k : Int) (hk : k = 4 \/ k = 5 \/ k = 6 \/ k = 7) {l r : List Int} {P : Pa} (hr : Rng l) (h : body? (pa0 k false 0 false) l = some (P,r)) : Again P k false 0 l r := by
 have h' : (bindR id? fun i => bindR (reason? k) fun r => pureR { pa0 k false 0 false with id := i,code := r.1,props := r.2 }) l = some (P,r) := by
  have := h
  rw [bd_4 (P := pa0 k false 0 false) hk] at this
  exact this
 obtain ⟨i,l1,h1,hA⟩ := bi_inv h'
 obtain ⟨⟨c,x⟩,l2,h2,hB⟩ := bi_inv hA
 obtain ⟨e5,e6⟩ := pu_inv hB
 subst e5 e6
 obtain ⟨a0,a1,a2⟩ := id_in hr h1
 obtain ⟨b0,b1,b3⟩ := reason_in a2 h2
 obtain ⟨ys,c1,c2,c3⟩ := b3 (b2 i)
 refine ⟨⟨rfl,rfl,rfl⟩,⟨(by simp [pa0]),(id_of a0),(by simp [pa0]),b0,(show (0 : Nat) <= 65535 from by omega),(show (0 : Nat) <= 65536 from by omega),(show (0 : Nat) <= 65535 from by omega),b1,(by simp [pa0]),(by simp [pa0]),(by simp [pa0]),(by simp [pa0]),(by simp [pa0]),(by simp [pa0]),(by simp [pa0]),(by simp [pa0]),(by simp [pa0]),(by simp [pa0]),(by simp [pa0])⟩,b2 i ++ ys,?_,?_⟩
 ·exact (eb_4 hk).trans (b_must (b_step (b_add (t := []) rfl a0) c1) (decide_eq_true ⟨⟨rfl,rfl,rfl,rfl⟩,⟨rfl,rfl,rfl,rfl⟩,⟨rfl,rfl,rfl⟩,rfl,rfl,rfl,rfl,rfl,rfl,rfl⟩))
 ·rw [List.length_append,b2_len]
  omega
theorem in_14 (k : Int) (hk : k = 14 \/ k = 15) {l r : List Int} {P : Pa} (hr : Rng l) (h : body? (pa0 k false 0 false) l = some (P,r)) : Again P k false 0 l r := by
 have h' : (bindR (reason? k) fun r => pureR { pa0 k false 0 false with code := r.1,props := r.2 }) l = some (P,r) := by
  have := h
  rw [bd_14 (P := pa0 k false 0 false) hk] at this
  exact this
 obtain ⟨⟨c,x⟩,l2,h2,hB⟩ := bi_inv h'
 obtain ⟨e5,e6⟩ := pu_inv hB
 subst e5 e6
 obtain ⟨b0,b1,b3⟩ := reason_in hr h2
 obtain ⟨ys,c1,c2,c3⟩ := b3 []
 refine ⟨⟨rfl,rfl,rfl⟩,⟨(by simp [pa0]),(by simp [pa0]),(by simp [pa0]),b0,(show (0 : Nat) <= 65535 from by omega),(show (0 : Nat) <= 65536 from by omega),(show (0 : Nat) <= 65535 from by omega),b1,(by simp [pa0]),(by simp [pa0]),(by simp [pa0]),(by simp [pa0]),(by simp [pa0]),(by simp [pa0]),(by simp [pa0]),(by simp [pa0]),(by simp [pa0]),(by simp [pa0]),(by simp [pa0])⟩,[] ++ ys,?_,?_⟩
 ·exact (eb_14 hk).trans (b_must (b_step (t := []) rfl c1) (decide_eq_true ⟨⟨rfl,rfl,rfl,rfl⟩,⟨rfl,rfl,rfl,rfl⟩,⟨rfl,rfl,rfl⟩,rfl,rfl,rfl,rfl,rfl,rfl,rfl⟩))
 ·rw [List.nil_append]
  exact c2
theorem in_12 (k : Int) (hk : k = 12 \/ k = 13) {l r : List Int} {P : Pa} (h : body? (pa0 k false 0 false) l = some (P,r)) : Again P k false 0 l r := by
 have h' : pureR (pa0 k false 0 false) l = some (P,r) := by
  have := h
  rw [bd_12 (P := pa0 k false 0 false) hk] at this
  exact this
 obtain ⟨e5,e6⟩ := pu_inv h'
 subst e5 e6
 refine ⟨⟨rfl,rfl,rfl⟩,⟨(by simp [pa0]),(by simp [pa0]),(by simp [pa0]),(by simp [pa0]),(show (0 : Nat) <= 65535 from by omega),(show (0 : Nat) <= 65536 from by omega),(show (0 : Nat) <= 65535 from by omega),prok_nil,(by simp [pa0]),(by simp [pa0]),(by simp [pa0]),(by simp [pa0]),(by simp [pa0]),(by simp [pa0]),(by simp [pa0]),(by simp [pa0]),(by simp [pa0]),(by simp [pa0]),(by simp [pa0])⟩,[],?_,by simp⟩
 exact (eb_12 hk).trans (b_must rfl (decide_eq_true ⟨⟨rfl,rfl,rfl,rfl⟩,⟨rfl,rfl,rfl,rfl⟩,⟨rfl,rfl,rfl⟩,rfl,rfl,rfl,rfl,rfl,rfl,rfl⟩))
theorem in_8 (k : Int) (hk : k = 8) {l r : List Int} {P : Pa} (hr : Rng l) (h : body? (pa0 k false 0 false) l = some (P,r)) : Again P k false 0 l r := by
 have h' : (bindR id? fun i => bindR (props? k) fun x => bindR (list? sub?) fun d => pureR { pa0 k false 0 false with id := i,props := x,subs := d }) l = some (P,r) := by
  have := h
  rw [bd_8 (P := pa0 k false 0 false) hk] at this
  exact this
 obtain ⟨i,l1,h1,hA⟩ := bi_inv h'
 obtain ⟨x,l2,h2,hB⟩ := bi_inv hA
 obtain ⟨d,l3,h3,hC⟩ := bi_inv hB
 obtain ⟨e5,e6⟩ := pu_inv hC
 subst e5 e6
 obtain ⟨a0,a1,a2⟩ := id_in hr h1
 obtain ⟨b0,b1,b3,b4⟩ := props_in a2 h2
 obtain ⟨c0,c1,c2⟩ := list_in sub_in b4 h3
 obtain ⟨ys,d1,d2,d3⟩ := c2 (b2 i ++ pbs x)
 refine ⟨⟨rfl,rfl,rfl⟩,⟨(by simp [pa0]),(id_of a0),(by simp [pa0]),(by simp [pa0]),(show (0 : Nat) <= 65535 from by omega),(show (0 : Nat) <= 65536 from by omega),(show (0 : Nat) <= 65535 from by omega),b1,(by simp [pa0]),(by simp [pa0]),(by simp [pa0]),(by simp [pa0]),(by simp [pa0]),(mc_of c0),c1,(by simp [pa0]),(by simp [pa0]),(by simp [pa0]),(by simp [pa0])⟩,b2 i ++ pbs x ++ ys,?_,?_⟩
 ·exact (eb_8 hk).trans (b_must (b_step (b_must (b_add (b_add (t := []) rfl a0) b0) c0) d1) (decide_eq_true ⟨⟨rfl,rfl,rfl,rfl⟩,⟨rfl,rfl,rfl,rfl⟩,⟨rfl,rfl,rfl⟩,rfl,rfl,rfl,rfl,rfl,rfl,rfl⟩))
 ·rw [List.length_append,List.length_append,b2_len]
  omega
theorem in_10 (k : Int) (hk : k = 10) {l r : List Int} {P : Pa} (hr : Rng l) (h : body? (pa0 k false 0 false) l = some (P,r)) : Again P k false 0 l r := by
 have h' : (bindR id? fun i => bindR (props? k) fun x => bindR (list? text?) fun d => pureR { pa0 k false 0 false with id := i,props := x,filters := d }) l = some (P,r) := by
  have := h
  rw [bd_10 (P := pa0 k false 0 false) hk] at this
  exact this
 obtain ⟨i,l1,h1,hA⟩ := bi_inv h'
 obtain ⟨x,l2,h2,hB⟩ := bi_inv hA
 obtain ⟨d,l3,h3,hC⟩ := bi_inv hB
 obtain ⟨e5,e6⟩ := pu_inv hC
 subst e5 e6
 obtain ⟨a0,a1,a2⟩ := id_in hr h1
 obtain ⟨b0,b1,b3,b4⟩ := props_in a2 h2
 obtain ⟨c0,c1,c2⟩ := list_in tx_in b4 h3
 obtain ⟨ys,d1,d2,d3⟩ := c2 (b2 i ++ pbs x)
 refine ⟨⟨rfl,rfl,rfl⟩,⟨(by simp [pa0]),(id_of a0),(by simp [pa0]),(by simp [pa0]),(show (0 : Nat) <= 65535 from by omega),(show (0 : Nat) <= 65536 from by omega),(show (0 : Nat) <= 65535 from by omega),b1,(by simp [pa0]),(by simp [pa0]),(by simp [pa0]),(by simp [pa0]),(by simp [pa0]),(by simp [pa0]),(by simp [pa0]),(mc_of c0),c1,(by simp [pa0]),(by simp [pa0])⟩,b2 i ++ pbs x ++ ys,?_,?_⟩
 ·exact (eb_10 hk).trans (b_must (b_step (b_must (b_add (b_add (t := []) rfl a0) b0) c0) d1) (decide_eq_true ⟨⟨rfl,rfl,rfl,rfl⟩,⟨rfl,rfl,rfl,rfl⟩,⟨rfl,rfl,rfl⟩,rfl,rfl,rfl,rfl,rfl,rfl,rfl⟩))
 ·rw [List.length_append,List.length_append,b2_len]
  omega
theorem in_9 (k : Int) (hk : k = 9 \/ k = 11) {l r : List Int} {P : Pa} (hr : Rng l) (h : body? (pa0 k false 0 false) l = some (P,r)) : Again P k false 0 l r := by
 have h' : (bindR id? fun i => bindR (props? k) fun x => bindR (list? one?) fun d => pureR { pa0 k false 0 false with id := i,props := x,codes := d }) l = some (P,r) := by
  have := h
  rw [bd_9 (P := pa0 k false 0 false) hk] at this
  exact this
 obtain ⟨i,l1,h1,hA⟩ := bi_inv h'
 obtain ⟨x,l2,h2,hB⟩ := bi_inv hA
 obtain ⟨d,l3,h3,hC⟩ := bi_inv hB
 obtain ⟨e5,e6⟩ := pu_inv hC
 subst e5 e6
 obtain ⟨a0,a1,a2⟩ := id_in hr h1
 obtain ⟨b0,b1,b3,b4⟩ := props_in a2 h2
 obtain ⟨c0,c1,c2⟩ := list_in code_in b4 h3
 obtain ⟨ys,d1,d2,d3⟩ := c2 (b2 i ++ pbs x)
 refine ⟨⟨rfl,rfl,rfl⟩,⟨(by simp [pa0]),(id_of a0),(by simp [pa0]),(by simp [pa0]),(show (0 : Nat) <= 65535 from by omega),(show (0 : Nat) <= 65536 from by omega),(show (0 : Nat) <= 65535 from by omega),b1,(by simp [pa0]),(by simp [pa0]),(by simp [pa0]),(by simp [pa0]),(by simp [pa0]),(by simp [pa0]),(by simp [pa0]),(by simp [pa0]),(by simp [pa0]),(mc_of c0),c1⟩,b2 i ++ pbs x ++ ys,?_,?_⟩
 ·exact (eb_9 hk).trans (b_must (b_step (b_must (b_add (b_add (t := []) rfl a0) b0) c0) d1) (decide_eq_true ⟨⟨rfl,rfl,rfl,rfl⟩,⟨rfl,rfl,rfl,rfl⟩,⟨rfl,rfl,rfl⟩,rfl,rfl,rfl,rfl,rfl,rfl,rfl⟩))
 ·rw [List.length_append,List.length_append,b2_len]
  omega
theorem in_3 (d : Bool) (q : Int) (rt : Bool) (hq : 0 <= q /\ q <= 3) {l r : List Int} {P : Pa} (hr : Rng l) (hl : l.length <= 65536) (h : body? (pa0 3 d q rt) l = some (P,r)) : Again P 3 d q l r := by
 have h' : (bindR (bindR text? fun t => bindR (if 0 < q then id? else pureR 0) fun i => bindR (props? 3) fun x => bindR allR fun y => pureR (t,i,x,y)) fun r => pureR { pa0 3 d q rt with topic := r.1,id := r.2.1,props := r.2.2.1,payload := r.2.2.2 }) l = some (P,r) := h
 obtain ⟨_,l0,h0,hA⟩ := bi_inv h'
 obtain ⟨t,l1,h1,hB⟩ := bi_inv h0
 obtain ⟨i,l2,h2,hC⟩ := bi_inv hB
 obtain ⟨x,l3,h3,hD⟩ := bi_inv hC
 obtain ⟨y,l4,h4,hE⟩ := bi_inv hD
 obtain ⟨e1,e2⟩ := pu_inv hE
 obtain ⟨e3,e4⟩ := pu_inv hA
 subst e1 e3 e2 e4
 unfold allR at h4
 cases h4
 obtain ⟨a0,a1,a2,a3⟩ := text_in hr h1
 have key : ∃ n,n <= 2 /\ Lk l1 l2 n /\ (0 <= i /\ i <= 65535) /\ (0 < q -> (in16 i && i != 0) = true /\ n = 2) /\ (¬ 0 < q -> i = 0 /\ n = 0) := by
  by_cases h0q : 0 < q
  ·rw [if_pos h0q] at h2
   obtain ⟨b0,b1⟩ := id_in a3 h2
   exact ⟨2,Nat.le_refl _,b1,id_of b0,fun _ => ⟨b0,rfl⟩,fun hn => absurd h0q hn⟩
  ·rw [if_neg h0q] at h2
   obtain ⟨e,e'⟩ := pu_inv h2
   subst e e'
   exact ⟨0,by omega,⟨by omega,a3⟩,by omega,fun hn => absurd hn h0q,fun _ => ⟨rfl,rfl⟩⟩
 obtain ⟨n,hn2,⟨b1,b2'⟩,hi,k1,k2⟩ := key
 obtain ⟨c0,c1,c2,c3⟩ := props_in b2' h3
 have hz : (bs l3).size = l3.length := bs_size l3
 refine ⟨⟨rfl,rfl,rfl⟩,⟨hq,hi,(by simp [pa0]),(by simp [pa0]),a1,(show (bs l3).size <= 65536 from by rw [hz]; omega),(show (0 : Nat) <= 65535 from by omega),c1,(by simp [pa0]),(by simp [pa0]),(by simp [pa0]),(by simp [pa0]),(by simp [pa0]),(by simp [pa0]),(by simp [pa0]),(by simp [pa0]),(by simp [pa0]),(by simp [pa0]),(by simp [pa0])⟩,?_⟩
 have fin : ∀ (zs : List Int),zs.length = n -> ((([] ++ tx t) ++ zs) ++ pbs x ++ sb (bs l3)).length + ([] : List Int).length <= l.length := fun zs hzs => by
  rw [List.length_append,List.length_append,List.length_append,List.length_append,sb_length,hz,hzs,List.length_nil]
  omega
 by_cases h0q : 0 < q
 ·obtain ⟨k3,k4⟩ := k1 h0q
  refine ⟨(([] ++ tx t) ++ b2 i) ++ pbs x ++ sb (bs l3),?_,fin _ (by rw [b2_len,k4])⟩
  refine (eb_3 rfl).trans ?_
  refine b_must (st := sPub t q i 3 x (bs l3) []) ?_ ?_
  ·unfold sPub
   rw [if_pos h0q]
   exact b_add (b_add (b_add (st := sAdd (okT t) (tx t) []) (add_yes a0) k3) c0) rfl
  ·exact (if_pos h0q).trans (decide_eq_true ⟨⟨rfl,rfl,rfl,rfl⟩,⟨rfl,rfl,rfl,rfl⟩,⟨rfl,rfl,rfl⟩,rfl,rfl,rfl,rfl,rfl,rfl,rfl⟩)
 ·obtain ⟨rfl,k4⟩ := k2 h0q
  refine ⟨(([] ++ tx t) ++ []) ++ pbs x ++ sb (bs l3),?_,fin [] (by rw [k4]; rfl)⟩
  refine (eb_3 rfl).trans ?_
  refine b_must (st := sPub t q 0 3 x (bs l3) []) ?_ ?_
  ·unfold sPub
   rw [if_neg h0q,bind_some',List.append_nil]
   exact b_add (b_add (add_yes a0) c0) rfl
  ·exact (if_neg h0q).trans (decide_eq_true ⟨⟨rfl,rfl,rfl,rfl⟩,⟨rfl,rfl,rfl,rfl⟩,⟨rfl,rfl,rfl⟩,rfl,rfl,rfl,rfl,rfl,rfl,rfl⟩)
theorem will_in {x : Int} {l r : List Int} {o : Option (List Pr × ByteArray × ByteArray)} (hr : Rng l) (h : will? x l = some (o,r)) : (wlOf x o).length <= 1 /\ (∀ u ∈ wlOf x o,(u.topic.size <= 65535 /\ PrOk u.props) /\ btest x 4 = true /\ u.qos = x / 8 % 4) /\ Rng r /\ ∀ t,∃ ys,sEach sWill (wlOf x o) t = some (t ++ ys) /\ Lk l r ys.length := by
 unfold will? at h
 by_cases h0 : btest x 4 = true
 ·rw [if_pos h0] at h
  obtain ⟨q,l1,h1,hA⟩ := bi_inv h
  obtain ⟨s,l2,h2,hB⟩ := bi_inv hA
  obtain ⟨y,l3,h3,hC⟩ := bi_inv hB
  obtain ⟨e5,e6⟩ := pu_inv hC
  subst e5 e6
  obtain ⟨a0,a1,a2,a3⟩ := props_in hr h1
  obtain ⟨b0,b1,b2',b3⟩ := text_in a3 h2
  obtain ⟨c0,c1,c2,c3⟩ := bin_in b3 h3
  refine ⟨Nat.le_refl _,fun u hu => ?_,c3,fun t => ⟨pbs q ++ tx s ++ tx y,?_,?_,c3⟩⟩
  ·obtain rfl := List.mem_singleton.1 hu
   exact ⟨⟨b1,a1⟩,h0,rfl⟩
  ·have e : sWill ⟨s,y,x / 8 % 4,btest x 32,q⟩ t = some (t ++ pbs q ++ tx s ++ tx y) := b_add (b_add (add_yes a0) b0) c0
   show (sWill ⟨s,y,x / 8 % 4,btest x 32,q⟩ t).bind (sEach sWill []) = _
   rw [e]
   show some _ = some _
   simp only [List.append_assoc]
  ·rw [List.length_append,List.length_append]
   omega
 ·rw [if_neg h0] at h
  obtain ⟨e5,e6⟩ := pu_inv h
  subst e5 e6
  exact ⟨Nat.zero_le _,fun u hu => (by cases hu),hr,fun t => ⟨[],by rw [List.append_nil]; rfl,by simp,hr⟩⟩
theorem user_in {x : Int} {l r : List Int} {o : Option ByteArray} (hr : Rng l) (h : user? x l = some (o,r)) : o.toList.length <= 1 /\ (∀ u ∈ o.toList,u.size <= 65535) /\ Rng r /\ ∀ t,∃ ys,sEach sTx o.toList t = some (t ++ ys) /\ Lk l r ys.length := by
 unfold user? at h
 by_cases h0 : btest x 128 = true
 ·rw [if_pos h0] at h
  obtain ⟨s,l1,h1,hA⟩ := bi_inv h
  obtain ⟨e5,e6⟩ := pu_inv hA
  subst e5 e6
  obtain ⟨b0,b1,b2',b3⟩ := text_in hr h1
  refine ⟨Nat.le_refl _,fun u hu => ?_,b3,fun t => ⟨tx s,?_,b2',b3⟩⟩
  ·obtain rfl := List.mem_singleton.1 hu
   exact b1
  ·have e : sTx s t = some (t ++ tx s) := add_yes b0
   show (sTx s t).bind (sEach sTx []) = _
   rw [e]
   rfl
 ·rw [if_neg h0] at h
  obtain ⟨e5,e6⟩ := pu_inv h
  subst e5 e6
  exact ⟨Nat.zero_le _,fun u hu => (by cases hu),hr,fun t => ⟨[],by rw [List.append_nil]; rfl,by simp,hr⟩⟩
theorem pass_in {x : Int} {l r : List Int} {o : Option ByteArray} (hr : Rng l) (h : pass? x l = some (o,r)) : o.toList.length <= 1 /\ (∀ u ∈ o.toList,u.size <= 65535) /\ Rng r /\ ∀ t,∃ ys,sEach sPass o.toList t = some (t ++ ys) /\ Lk l r ys.length := by
 unfold pass? at h
 by_cases h0 : btest x 64 = true
 ·rw [if_pos h0] at h
  obtain ⟨s,l1,h1,hA⟩ := bi_inv h
  obtain ⟨e5,e6⟩ := pu_inv hA
  subst e5 e6
  obtain ⟨b0,b1,b2',b3⟩ := bin_in hr h1
  refine ⟨Nat.le_refl _,fun u hu => ?_,b3,fun t => ⟨tx s,?_,b2',b3⟩⟩
  ·obtain rfl := List.mem_singleton.1 hu
   exact b1
  ·have e : sPass s t = some (t ++ tx s) := add_yes b0
   show (sPass s t).bind (sEach sPass []) = _
   rw [e]
   rfl
 ·rw [if_neg h0] at h
  obtain ⟨e5,e6⟩ := pu_inv h
  subst e5 e6
  exact ⟨Nat.zero_le _,fun u hu => (by cases hu),hr,fun t => ⟨[],by rw [List.append_nil]; rfl,by simp,hr⟩⟩
theorem cf_qos (x : Int) (h0 : 0 <= x /\ x <= 255) : (cfok x = true -> btest x 4 = true -> mq (x / 8 % 4) = true) := byte_cases (P := fun x => cfok x = true -> btest x 4 = true -> mq (x / 8 % 4) = true) (by decide +kernel) x h0.1 h0.2
theorem mqtt_is {m : ByteArray} (h : isMQTT m = true) : m = mqtt := toList_inj ((eq_of_beq h).trans (by decide +kernel))
theorem in_1 {l r : List Int} {P : Pa} (hr : Rng l) (h : body? (pa0 1 false 0 false) l = some (P,r)) : Again P 1 false 0 l r := by
 have h' : (bindR connect? fun n => pureR (ofCn (pa0 1 false 0 false) n)) l = some (P,r) := h
 obtain ⟨n,l0,h0,hZ⟩ := bi_inv h'
 obtain ⟨e1,e2⟩ := pu_inv hZ
 subst e1 e2
 unfold connect? at h0
 obtain ⟨m,l1,h1,hA⟩ := bi_inv h0
 obtain ⟨_,l2,h2,hB⟩ := bi_inv hA
 obtain ⟨hm,e2⟩ := mu_inv h2
 obtain ⟨v,l3,h3,hC⟩ := bi_inv hB
 obtain ⟨_,l4,h4,hD⟩ := bi_inv hC
 obtain ⟨_,e4⟩ := mu_inv h4
 obtain ⟨x,l5,h5,hE⟩ := bi_inv hD
 obtain ⟨k,l6,h6,hF⟩ := bi_inv hE
 obtain ⟨pr,l7,h7,hG⟩ := bi_inv hF
 obtain ⟨c,l8,h8,hH⟩ := bi_inv hG
 obtain ⟨wl,l9,h9,hI⟩ := bi_inv hH
 obtain ⟨us,l10,h10,hJ⟩ := bi_inv hI
 obtain ⟨pa,l11,h11,hK⟩ := bi_inv hJ
 obtain ⟨e5,e6⟩ := pu_inv hK
 subst e5 e6 e4 e2
 obtain rfl := mqtt_is hm
 unfold flags? at h5
 obtain ⟨x',l5',h5a,h5b⟩ := bi_inv h5
 obtain ⟨_,l5'',h5c,h5d⟩ := bi_inv h5b
 obtain ⟨hcf,e7⟩ := mu_inv h5c
 obtain ⟨e8,e9⟩ := pu_inv h5d
 subst e8 e9 e7
 obtain ⟨a0,_,a1,a2⟩ := text_in hr h1
 obtain ⟨_,b1,b2'⟩ := one_in a2 h3
 obtain ⟨hx,c1,c2⟩ := one_in b2' h5a
 obtain ⟨d0,d1,d2⟩ := two_in c2 h6
 obtain ⟨f0,f1,f2,f3⟩ := props_in d2 h7
 obtain ⟨g0,g1,g2,g3⟩ := text_in f3 h8
 obtain ⟨w0,w1,wr,w3⟩ := will_in g3 h9
 obtain ⟨u0,u1,ur,u3⟩ := user_in wr h10
 obtain ⟨p0,p1,_,p3⟩ := pass_in ur h11
 have hok : cokA (ofCn (pa0 1 false 0 false) ⟨x,k,pr,c,wl,us,pa⟩) = true := by
  unfold cokA cok0
  simp only [Bool.and_eq_true,decide_eq_true_eq,List.all_eq_true]
  exact ⟨⟨⟨w0,u0⟩,p0⟩,fun u hu => by
   obtain ⟨_,k1,k2⟩ := w1 u hu
   rw [k2]
   exact cf_qos x hx hcf k1⟩
 obtain ⟨_,_,_,hfl,_⟩ := cfA_back hok
 refine ⟨⟨rfl,rfl,rfl⟩,⟨(by simp [ofCn,pa0]),(by simp [ofCn,pa0]),(in16_of d0),(by simp [ofCn,pa0]),(show (0 : Nat) <= 65535 from by omega),(show (0 : Nat) <= 65536 from by omega),g1,f1,w0,(fun u hu => (w1 u hu).1),u0,u1,p0,(by simp [ofCn,pa0]),(by simp [ofCn,pa0]),(by simp [ofCn,pa0]),(by simp [ofCn,pa0]),(by simp [ofCn,pa0]),(by simp [ofCn,pa0])⟩,?_⟩
 obtain ⟨zw,z1,z2,_⟩ := w3 ([] ++ tx mqtt ++ [5 % 256] ++ [cflA (ofCn (pa0 1 false 0 false) ⟨x,k,pr,c,wl,us,pa⟩) % 256] ++ b2 k ++ pbs pr ++ tx c)
 obtain ⟨zu,z3,z4,_⟩ := u3 ([] ++ tx mqtt ++ [5 % 256] ++ [cflA (ofCn (pa0 1 false 0 false) ⟨x,k,pr,c,wl,us,pa⟩) % 256] ++ b2 k ++ pbs pr ++ tx c ++ zw)
 obtain ⟨zp,z5,z6,_⟩ := p3 ([] ++ tx mqtt ++ [5 % 256] ++ [cflA (ofCn (pa0 1 false 0 false) ⟨x,k,pr,c,wl,us,pa⟩) % 256] ++ b2 k ++ pbs pr ++ tx c ++ zw ++ zu)
 refine ⟨[] ++ tx mqtt ++ [5 % 256] ++ [cflA (ofCn (pa0 1 false 0 false) ⟨x,k,pr,c,wl,us,pa⟩) % 256] ++ b2 k ++ pbs pr ++ tx c ++ zw ++ zu ++ zp,?_,?_⟩
 ·refine (eb_1 rfl).trans ?_
  refine b_must (t := [] ++ tx mqtt ++ [5 % 256] ++ [cflA (ofCn (pa0 1 false 0 false) ⟨x,k,pr,c,wl,us,pa⟩) % 256] ++ b2 k ++ pbs pr ++ tx c ++ zw ++ zu ++ zp) ?_ (decide_eq_true ⟨⟨rfl,rfl,rfl,rfl⟩,⟨rfl,rfl,rfl,rfl⟩,⟨rfl,rfl,rfl⟩,rfl,rfl,rfl,rfl,rfl,rfl,rfl⟩)
  refine b_step (b_step (b_step ?_ z1) z3) z5
  exact b_add (b_add (b_add (b_add (b_add (b_add (st := sMust _ []) (must_yes hok) (by decide +kernel)) (by decide +kernel)) (in8_of (by omega))) d0) f0) g0
 ·rw [List.length_append,List.length_append,List.length_append,List.length_append,List.length_append,List.length_append,List.length_append,List.length_append,List.length_append,b2_len,List.length_cons,List.length_cons,List.length_nil]
  omega
theorem in_any {b : Int} (hb : 0 <= b /\ b <= 255) (hk : bok b = true) {l r : List Int} {P : Pa} (hr : Rng l) (hl : l.length <= 65536) (h : packet? (bpa b) l = some (P,r)) : (fkA P).2 = true /\ Md P /\ ∃ ys,eb P = some ys /\ ys.length <= l.length := by
 unfold packet? at h
 obtain ⟨P',l1,h1,hA⟩ := bi_inv h
 obtain ⟨_,l2,h2,hB⟩ := bi_inv hA
 obtain ⟨e1,e2⟩ := pu_inv hB
 subst e1
 have hkr := bok_kind b hb.1 hb.2 hk
 have fin : ∀ (k : Int) (d : Bool) (q : Int),Again P k d q l l1 -> (k = 3 -> pok d q = true) -> (1 <= k /\ k <= 15) -> (fkA P).2 = true /\ Md P /\ ∃ ys,eb P = some ys /\ ys.length <= l.length := by
  rintro k d q ⟨⟨h1,h2,h3⟩,h4,ys,h5,h6⟩ hp hk15
  refine ⟨?_,h4,ys,h5,by omega⟩
  unfold fkA
  rw [h1,h2,h3]
  by_cases k3 : k = 3
  ·rw [if_pos k3]; exact hp k3
  ·rw [if_neg k3]
   by_cases k6 : k = 6 \/ k = 8 \/ k = 10
   ·rw [if_pos k6]
   ·rw [if_neg k6]
    simp only [Bool.and_eq_true,decide_eq_true_eq]
    exact hk15
 unfold bpa at h1
 by_cases k3 : b / 16 = 3
 ·rw [if_pos k3] at h1
  have hp : pok (btest b 8) (b / 2 % 4) = true := by
   unfold bok bmay at hk
   rw [if_pos k3,Bool.and_eq_true] at hk
   exact hk.1
  exact fin 3 _ _ (in_3 _ _ _ (by omega) hr hl h1) (fun _ => hp) (by omega)
 rw [if_neg k3] at h1
 generalize b / 16 = k at h1 k3 hkr
 by_cases k1 : k = 1
 ·subst k1; exact fin _ _ _ (in_1 hr h1) (fun e => absurd e (by decide)) hkr
 by_cases k2 : k = 2
 ·subst k2; exact fin _ _ _ (in_2 hr h1) (fun e => absurd e (by decide)) hkr
 by_cases k4 : k = 4 \/ k = 5 \/ k = 6 \/ k = 7
 ·exact fin _ _ _ (in_4 k k4 hr h1) (fun e => absurd e k3) hkr
 by_cases k8 : k = 8
 ·exact fin _ _ _ (in_8 k k8 hr h1) (fun e => absurd e k3) hkr
 by_cases k10 : k = 10
 ·exact fin _ _ _ (in_10 k k10 hr h1) (fun e => absurd e k3) hkr
 by_cases k9 : k = 9 \/ k = 11
 ·exact fin _ _ _ (in_9 k k9 hr h1) (fun e => absurd e k3) hkr
 by_cases k14 : k = 14 \/ k = 15
 ·exact fin _ _ _ (in_14 k k14 hr h1) (fun e => absurd e k3) hkr
 ·exact fin _ _ _ (in_12 k (by omega) h1) (fun e => absurd e k3) hkr
theorem dec_in {l r : List Int} {P : Pa} (hr : Rng l) (h0 : dnum l = 0) (hd : dbody l = some (P,r)) : (fkA P).2 = true /\ Md P /\ ∃ ys,eb P = some ys /\ (ebytes P.kind (fkA P).1 ys).length <= (meas l).2.1 /\ (meas l).2.1 <= 65536 := by
 unfold dnum at h0
 by_cases hl : l = []
 ·rw [if_pos hl] at h0; exact absurd h0 (by decide)
 rw [if_neg hl] at h0
 cases hb : bok (l.getD 0 0) with
 | false => rw [if_pos hb] at h0; exact absurd h0 (by decide)
 | true =>
  rw [if_neg (by rw [hb]; decide)] at h0
  by_cases hm : (meas l).2.2 = 0
  ·have hr1 : Rng (l.drop 1) := hr.drop 1
   have key : (V.vget (l.drop 1)).2.2 = 0 /\ 1 + ghd (l.drop 1) + (gid (l.drop 1)).toNat <= 65536 /\ 1 + ghd (l.drop 1) + (gid (l.drop 1)).toNat <= l.length /\ meas l = (1 + ghd (l.drop 1),1 + ghd (l.drop 1) + (gid (l.drop 1)).toNat,0) := by
    unfold meas at hm |-
    by_cases m1 : (V.vget (l.drop 1)).2.2 ≠ 0
    ·rw [if_pos m1] at hm; exact absurd hm m1
    rw [if_neg m1] at hm |-
    by_cases m2 : 65536 < 1 + ghd (l.drop 1) + (gid (l.drop 1)).toNat
    ·rw [if_pos m2] at hm; exact absurd hm (by decide)
    rw [if_neg m2] at hm |-
    by_cases m3 : l.length < 1 + ghd (l.drop 1) + (gid (l.drop 1)).toNat
    ·rw [if_pos m3] at hm; exact absurd hm (by decide)
    rw [if_neg m3]
    exact ⟨by simpa using m1,by omega,by omega,rfl⟩
   obtain ⟨hv,hle,hll,hme⟩ := key
   unfold dbody at hd
   rw [hme] at hd |-
   dsimp only at hd |-
   obtain ⟨_,_,_,g0,g1,_⟩ := vget_is _ hr1 hv
   have hbl : ((l.drop (1 + ghd (l.drop 1))).take (1 + ghd (l.drop 1) + (gid (l.drop 1)).toNat - (1 + ghd (l.drop 1)))).length = (gid (l.drop 1)).toNat := by
    rw [List.length_take,List.length_drop]
    omega
   obtain ⟨h1,h2,ys,h3,h4⟩ := in_any (hr 0) hb (rng_take (hr.drop _) _) (by omega) hd
   refine ⟨h1,h2,ys,h3,?_,hle⟩
   rw [hbl] at h4
   rw [ebytes_len]
   have e1 := put_len_of hr1 hv
   have e2 := V.put_length (gid (l.drop 1))
   have e3 := V.put_length (ys.length : Int)
   have e4 := V.sz_mono (ys.length : Int) (gid (l.drop 1)) (by omega)
   omega
  ·rw [if_pos hm] at h0; exact absurd h0 hm
end Go.Proofs.YtemedclhglkfjaaGreatDoor.K.B
