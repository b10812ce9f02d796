/- Proved here: helpers, one text behind the other. -/
import Derived.Test.YtpoeakillimibaaGreatDoorM36
import Derived.Laws.AppendOwn
import Derived.Test.YtpoeakillimibaaGreatDoorZKList
import Derived.Test.YtpoeakillimibaaGreatDoorM26
set_option maxHeartbeats 20000000
namespace Go.Proofs.YtpoeakillimibaaGreatDoor.K
open Go.RowKit
structure SF (B : Nat) (T : Nat -> TypeId -> Prop) (w w' : World) : Prop where
 os : w'.os = w.os
 tape : w'.tape = w.tape
 output : w'.output = w.output
 size : w.heap.size <= w'.heap.size
 low : ∀ k : Nat,k < B -> w'.heap[k]? = w.heap[k]?
 same : ∀ (k : Nat) (cur : Array Value) (e : TypeId),w.heap[k]? = some (Obj.cells cur e (0,0)) -> ¬ T k e -> w'.heap[k]? = some (Obj.cells cur e (0,0))
 shp : ∀ (k : Nat) (cur : Array Value) (e : TypeId),w.heap[k]? = some (Obj.cells cur e (0,0)) -> ∃ cur',w'.heap[k]? = some (Obj.cells cur' e (0,0)) /\ cur'.size = cur.size
theorem SF.refl (B : Nat) (T : Nat -> TypeId -> Prop) (w : World) : SF B T w w := ⟨rfl,rfl,rfl,Nat.le_refl _,fun _ _ => rfl,fun _ _ _ h _ => h,fun _ cur _ h => ⟨cur,h,rfl⟩⟩
theorem SF.trans {B : Nat} {T : Nat -> TypeId -> Prop} {a b c : World} (h : SF B T a b) (k : SF B T b c) : SF B T a c :=
 ⟨k.os.trans h.os,k.tape.trans h.tape,k.output.trans h.output,Nat.le_trans h.size k.size,fun i hi => (k.low i hi).trans (h.low i hi),fun i cur e h1 h2 => k.same i cur e (h.same i cur e h1 h2) h2,fun i cur e h1 => by
  obtain ⟨cur1,h2,h3⟩ := h.shp i cur e h1
  obtain ⟨cur2,h4,h5⟩ := k.shp i cur1 e h2
  exact ⟨cur2,h4,h5.trans h3⟩⟩
theorem SF.weak {B : Nat} {T T' : Nat -> TypeId -> Prop} {a b : World} (h : SF B T a b) (ht : ∀ k e,T k e -> T' k e) : SF B T' a b := ⟨h.os,h.tape,h.output,h.size,h.low,fun k cur e h1 h2 => h.same k cur e h1 (fun x => h2 (ht k e x)),h.shp⟩
theorem SF.below {B : Nat} {T : Nat -> TypeId -> Prop} {a b : World} (h : SF B T a b) : Below B a b := ⟨h.os,h.tape,h.output,h.size,h.low⟩
theorem SF.grow {B : Nat} {T : Nat -> TypeId -> Prop} {a b : World} (hs : b.heap.size ≥ a.heap.size) (h1 : b.os = a.os) (h2 : b.tape = a.tape) (h3 : b.output = a.output) (hB : B <= a.heap.size) (h : ∀ k,k < a.heap.size -> b.heap[k]? = a.heap[k]?) : SF B T a b :=
 ⟨h1,h2,h3,hs,fun k hk => h k (by omega),fun k cur e hk _ => (h k (Array.getElem?_eq_some_iff.1 hk).1).trans hk,fun k cur e hk => ⟨cur,(h k (Array.getElem?_eq_some_iff.1 hk).1).trans hk,rfl⟩⟩
theorem SF.bel {B : Nat} {T : Nat -> TypeId -> Prop} {a b : World} (h : Below a.heap.size a b) (hB : B <= a.heap.size) : SF B T a b := SF.grow h.size h.os h.tape h.output hB h.block
theorem SF.set {B : Nat} {T : Nat -> TypeId -> Prop} {a b : World} (h : SF B T a b) (g j : Nat) (u : Value) (hg : B <= g) (cur : Array Value) (e : TypeId) (hb : b.heap[g]? = some (Obj.cells cur e (0,0))) (ht : T g e) : SF B T a (b.setCell ⟨g,j,none⟩ u) :=
 h.trans ⟨rfl,rfl,rfl,by simp [World.setCell],fun k hk => Below.heap_setCell _ _ _ _ (by show k ≠ g; omega),fun k cur' e' h1 h2 => by
  by_cases hk : k = g
  ·subst hk
   rw [hb] at h1
   cases h1
   exact absurd ht h2
  ·exact (Below.heap_setCell _ _ _ _ hk).trans h1,fun k cur' e' h1 => by
  by_cases hk : k = g
  ·subst hk
   refine ⟨cur'.setIfInBounds j u,?_,by simp⟩
   unfold World.setCell
   simp [Array.getElem?_modify,h1]
  ·exact ⟨cur',(Below.heap_setCell _ _ _ _ hk).trans h1,rfl⟩⟩
def OwnE (w : World) (B : Nat) (e : TypeId) (s : Nat) (v : Value) (n : Nat) : Prop := ∃ xs,w.ownsRow B e s v n xs
theorem OwnE.sf {w w' : World} {B : Nat} {e : TypeId} {s : Nat} {v : Value} {n : Nat} {T : Nat -> TypeId -> Prop} (h : OwnE w B e s v n) (k : SF B T w w') : OwnE w' B e s v n := by
 obtain ⟨xs,h1,h2⟩ := h
 rcases h2 with h2 | ⟨g,cap,cur,rfl,hB,hg,h3,h4,h5,h6⟩
 ·exact ⟨xs,h1,.inl h2⟩
 ·obtain ⟨cur',k1,k2⟩ := k.shp g cur e hg
  refine ⟨cur'.toList.take (n * s),?_,.inr ⟨g,cap,cur',rfl,hB,k1,h3,h4,k2.trans h5,rfl⟩⟩
  rw [List.length_take,Array.length_toList,k2,h5]
  exact Nat.min_eq_left (Nat.mul_le_mul_right _ h3)
theorem owns_sf {w w' : World} {B : Nat} {e : TypeId} {s : Nat} {v : Value} {n : Nat} {xs : List Value} {T : Nat -> TypeId -> Prop} (h : w.ownsRow B e s v n xs) (k : SF B T w w') (ht : ∀ g,v.ownBlock = some g -> ¬ T g e) : w'.ownsRow B e s v n xs := by
 refine ⟨h.1,?_⟩
 rcases h.2 with h2 | ⟨g,cap,cur,rfl,hB,hg,rest⟩
 ·exact .inl h2
 ·exact .inr ⟨g,cap,cur,rfl,hB,k.same g cur e hg (ht g rfl),rest⟩
theorem OwnE.cell {w : World} {B : Nat} {e : TypeId} {s g n cap : Nat} (h : OwnE w B e s (.slice (some ⟨g,0,none⟩) n cap) n) (i : Nat) (hi : i < n * s) : (∃ v,w.cell? ⟨g,i,none⟩ = some v) /\ w.frozen? ⟨g,i,none⟩ = false := by
 obtain ⟨xs,h⟩ := h
 have hl : xs.length = n * s := h.1
 exact ⟨⟨_,by rw [h.cellAt i (by omega),List.getElem?_eq_getElem (by omega)]⟩,h.frozenAt i⟩
theorem OwnE.blk {w : World} {B : Nat} {e : TypeId} {s g n cap : Nat} (h : OwnE w B e s (.slice (some ⟨g,0,none⟩) n cap) n) : B <= g /\ ∃ cur,w.heap[g]? = some (Obj.cells cur e (0,0)) := by
 obtain ⟨xs,h1,h2⟩ := h
 rcases h2 with ⟨h2,_⟩ | ⟨g',cap',cur,e',hB,hg,_⟩
 ·cases h2
 ·cases e'
  exact ⟨hB,cur,hg⟩
theorem app_sf {B : Nat} {T : Nat -> TypeId -> Prop} (w : World) (t ty e : TypeId) (i : TypeInfo) (z : Value) (size bytes : Nat) (ht : Tryz.prog.underlying t = some (.slice e)) (hi : Tryz.prog.info? e = some i) (hz : i.zero = some z) (hsize : i.size = size) (hby : i.bytes = bytes) (hzs : z.cells.size = size) (hsz : 0 < size)
  (v : Value) (n : Nat) (hown : OwnE w B e size v n) (a : Addr) (c : Nat) (news : List Value) (hl : news.length = 1 * size) (hnews : ∀ j u,news[j]? = some u -> w.cell? (a.add j) = some u) (h1 : ∀ u ∈ news,u.oneCell' = true) (hn : n <= 1000000) (hb : bytes <= 1000) (hB : B <= w.heap.size) (hT : ∀ g,v.ownBlock = some g -> T g e) :
  ∃ v' w',(Builtin.append_ #[t,t] ty #[v,.slice (some a) 1 c]).run Tryz.prog w = .ok v' w' /\ SF B T w w' := by
 subst hsize
 subst hby
 have hbytes : (n + 1) * i.bytes <= 140737488355328 := Nat.le_trans (Nat.mul_le_mul (show n + 1 <= 1000001 by omega) hb) (by decide)
 obtain ⟨xs,hown⟩ := hown
 rcases hown.2 with ⟨rfl,rfl⟩ | ⟨g,cap,cur,rfl,hbg,hg,hnc,hcm,hcs,htake⟩
 ·obtain ⟨v',w',k1,k2,k3,_⟩ := run_append_own (P := Tryz.prog) (w := w) B t ty e i z i.size i.bytes ht hi hz rfl rfl hzs hsz _ 0 xs hown a 1 c news hl hnews h1 (by unfold maxLen; omega) hbytes hB
  exact ⟨v',w',k1,SF.grow k3.size k3.os k3.tape k3.output hB (fun k hk => k3.block k hk (by simp [Value.ownBlock]))⟩
 ·by_cases hroom : n + 1 <= cap
  ·have hfit : n * i.size + news.length <= cur.size := by rw [hl,hcs,<- Nat.add_mul]; exact Nat.mul_le_mul_right _ hroom
   have hr := run_append_room (P := Tryz.prog) w t ty e i ht hi g n cap cur hg a 1 c news hl hnews h1 hroom hfit
   refine ⟨_,_,hr,⟨rfl,rfl,rfl,by simp,fun k hk => setRow_other w g k _ (by omega),fun k cur' e' h3 h4 => ?_,fun k cur' e' h3 => ?_⟩⟩
   ·by_cases hk : k = g
    ·subst hk
     rw [hg] at h3
     cases h3
     exact absurd (hT _ rfl) h4
    ·exact (setRow_other w g k _ hk).trans h3
   ·by_cases hk : k = g
    ·subst hk
     rw [hg] at h3
     cases h3
     refine ⟨_,setRow_heap w k cur _ e _ hg,?_⟩
     simp only [List.size_toArray,List.length_append,List.length_take,List.length_drop,Array.length_toList]
     omega
    ·exact ⟨cur',(setRow_other w g k _ hk).trans h3,rfl⟩
  ·have holds : ∀ j u,xs[j]? = some u -> w.cell? ((⟨g,0,none⟩ : Addr).add j) = some u := hown.cells (g := g) rfl
   have hr := run_append_grow (P := Tryz.prog) w t ty e i z ht hi hz ⟨g,0,none⟩ n cap xs hown.1 holds a 1 c news hl hnews (by omega) (by omega) (growslice_fits (by omega) hbytes)
   exact ⟨_,_,hr,SF.grow (by simp) rfl rfl rfl hB (fun k hk => heap_alloc_old w.drew _ hk)⟩
set_option maxRecDepth 100000
def SFg (B : Nat) (T : Nat -> TypeId -> Prop) (w w' : World) (g : Nat) (e : TypeId) : Prop := SF B T w w' /\ B <= g /\ T g e /\ ∃ cur,w'.heap[g]? = some (Obj.cells cur e (0,0))
theorem SFg.set {B : Nat} {T : Nat -> TypeId -> Prop} {w w' : World} {g : Nat} {e : TypeId} (h : SFg B T w w' g e) (j : Nat) (u : Value) : SFg B T w (w'.setCell ⟨g,j,none⟩ u) g e := by
 obtain ⟨h1,h2,h3,cur,h4⟩ := h
 refine ⟨h1.set g j u h2 cur e h4 h3,h2,h3,cur.setIfInBounds j u,?_⟩
 unfold World.setCell
 simp [Array.getElem?_modify,h4]
theorem numbers_sp (B : Nat) (v : Value) (n : Nat) (w : World) (hB : B <= w.heap.size) (hn : n <= 1000000) (h : OwnE w B 3 1 v n) : Calls Tryz.prog 78 #[v] w fun e w' => e = .returned (.tuple #[]) /\ SF B (fun _ t => t = 3) w w' := by
 obtain ⟨i0,hi,hz0,hz1,hz2⟩ := info_parts infoInt
 have hv : (v = .slice none 0 0 /\ n = 0) \/ ∃ g cap,v = .slice (some ⟨g,0,none⟩) n cap := by
  obtain ⟨xs,h⟩ := h
  rcases h.2 with h1 | ⟨g,cap,_,h1,_⟩
  ·exact .inl h1
  ·exact .inr ⟨g,cap,h1⟩
 rcases hv with ⟨rfl,rfl⟩ | ⟨g,cap,rfl⟩
 ·clear h
  go_enter Tryz.func78,Tryz.ntmps78
  go_wp2
  refine wp_loop_rounds 1 ?_
  rw [rounds_succ]
  have HAPP : Hid (∀ ty,∃ v' w',(Builtin.append_ #[28,28] ty #[.slice none 0 0,.slice (some ⟨w.heap.size,0,none⟩) 1 1]).run Tryz.prog (w.alloc (.cells #[.int .i64 5] 3)) = .ok v' w' /\ SF B (fun _ t => t = 3) w w') := fun ty => by
   obtain ⟨v',w',h1,h2⟩ := app_sf (B := B) (T := fun _ t => t = 3) (w.alloc (.cells #[.int .i64 5] 3)) 28 ty 3 i0 _ 1 8 Tryz.underlying28 hi hz0 hz1 hz2 rfl (by decide) (.slice none 0 0) 0 ⟨[],World.ownsRow_nil _ _ _ _⟩ ⟨w.heap.size,0,none⟩ 1 [.int .i64 5] rfl (one_cell _ _ _) (one_one _ _) hn (by decide) (by simp; omega) (fun _ _ => rfl)
   exact ⟨v',w',h1,(SF.bel (bal _ _) hB).trans h2⟩
  go_wp2_with (first
   | (at_builtin; refine wpList_append_run _ (Z := fun _ w' => SF B (fun _ t => t = 3) w w') rfl _ _ 28 28 rfl _ _ rfl rfl ((uh HAPP) _) ?_)
   | go_in)
  intro v' w1 hsf
  have HSF := zh hsf
  clear hsf HAPP
  go_wp2
  go_end0
  exact ⟨rfl,uh HSF⟩
 ·have HO := zh h
  have hgb := h.blk
  clear h
  go_enter Tryz.func78,Tryz.ntmps78
  go_wp2
  go_loopw [2] (fun i wr => ∃ k : Nat,k <= n /\ i = .int .i64 k /\ Hid (SF B (fun _ t => t = 3) w wr)) (fun i _ => n - (intOf i).toNat)
  case atStart => exact ⟨0,Nat.zero_le _,rfl,SF.refl _ _ _⟩
  case round =>
   obtain ⟨k,hk,rfl,HSF⟩ := hrel
   have HOr := zh ((uh HO).sf (uh HSF))
   by_cases hlt : k < n
   ·have HG : Hid (SFg B (fun _ t => t = 3) w wr g 3) := ⟨uh HSF,(uh HOr).blk.1,rfl,(uh HOr).blk.2⟩
    obtain ⟨⟨v0,c0⟩,f0⟩ := (uh HOr).cell (k) (by omega)
    go_wp2
    go_roundw
    case rel => exact ⟨k + 1,by omega,by go_num,((uh HG).set _ _).1⟩
    case measure => simp [intOf]; omega
   ·have HAPP : Hid (∀ ty,∃ v' w',(Builtin.append_ #[28,28] ty #[.slice (some ⟨g,0,none⟩) n cap,.slice (some ⟨wr.heap.size,0,none⟩) 1 1]).run Tryz.prog (wr.alloc (.cells #[.int .i64 5] 3)) = .ok v' w' /\ SF B (fun _ t => t = 3) w w') := fun ty => by
     obtain ⟨xs,hx⟩ := uh HOr
     obtain ⟨v',w',h1,h2⟩ := app_sf (B := B) (T := fun _ t => t = 3) (wr.alloc (.cells #[.int .i64 5] 3)) 28 ty 3 i0 _ 1 8 Tryz.underlying28 hi hz0 hz1 hz2 rfl (by decide) (.slice (some ⟨g,0,none⟩) n cap) n ⟨xs,hx.alloc _⟩ ⟨wr.heap.size,0,none⟩ 1 [.int .i64 5] rfl (one_cell _ _ _) (one_one _ _) hn (by decide) (by have := (uh HSF).size; simp; omega) (fun _ _ => rfl)
     exact ⟨v',w',h1,((uh HSF).trans (SF.bel (bal _ _) (Nat.le_trans hB (uh HSF).size))).trans h2⟩
    clear HOr
    go_wp2_with (first
     | (at_builtin; refine wpList_append_run _ (Z := fun _ w' => SF B (fun _ t => t = 3) w w') rfl _ _ 28 28 rfl _ _ rfl rfl ((uh HAPP) _) ?_)
     | go_in)
    intro v' w1 hsf
    have HSF1 := zh hsf
    clear hsf HAPP
    go_wp2
    go_end0
    exact ⟨rfl,uh HSF1⟩
theorem strings_sp (B : Nat) (v : Value) (n : Nat) (w : World) (hB : B <= w.heap.size) (hn : n <= 1000000) (h : OwnE w B 9 1 v n) : Calls Tryz.prog 76 #[v] w fun e w' => e = .returned (.tuple #[]) /\ SF B (fun _ t => t = 9) w w' := by
 obtain ⟨i0,hi,hz0,hz1,hz2⟩ := info_parts infoStr
 have hv : (v = .slice none 0 0 /\ n = 0) \/ ∃ g cap,v = .slice (some ⟨g,0,none⟩) n cap := by
  obtain ⟨xs,h⟩ := h
  rcases h.2 with h1 | ⟨g,cap,_,h1,_⟩
  ·exact .inl h1
  ·exact .inr ⟨g,cap,h1⟩
 rcases hv with ⟨rfl,rfl⟩ | ⟨g,cap,rfl⟩
 ·clear h
  go_enter Tryz.func76,Tryz.ntmps76
  go_wp2
  refine wp_loop_rounds 1 ?_
  rw [rounds_succ]
  have HAPP : Hid (∀ ty,∃ v' w',(Builtin.append_ #[26,26] ty #[.slice none 0 0,.slice (some ⟨w.heap.size,0,none⟩) 1 1]).run Tryz.prog (w.alloc (.cells #[.string ⟨#[]⟩] 9)) = .ok v' w' /\ SF B (fun _ t => t = 9) w w') := fun ty => by
   obtain ⟨v',w',h1,h2⟩ := app_sf (B := B) (T := fun _ t => t = 9) (w.alloc (.cells #[.string ⟨#[]⟩] 9)) 26 ty 9 i0 _ 1 16 Tryz.underlying26 hi hz0 hz1 hz2 rfl (by decide) (.slice none 0 0) 0 ⟨[],World.ownsRow_nil _ _ _ _⟩ ⟨w.heap.size,0,none⟩ 1 [.string ⟨#[]⟩] rfl (one_cell _ _ _) (one_str _) hn (by decide) (by simp; omega) (fun _ _ => rfl)
   exact ⟨v',w',h1,(SF.bel (bal _ _) hB).trans h2⟩
  go_wp2_with (first
   | (at_builtin; refine wpList_append_run _ (Z := fun _ w' => SF B (fun _ t => t = 9) w w') rfl _ _ 26 26 rfl _ _ rfl rfl ((uh HAPP) _) ?_)
   | go_in)
  intro v' w1 hsf
  have HSF := zh hsf
  clear hsf HAPP
  go_wp2
  go_end0
  exact ⟨rfl,uh HSF⟩
 ·have HO := zh h
  have hgb := h.blk
  clear h
  go_enter Tryz.func76,Tryz.ntmps76
  go_wp2
  go_loopw [2] (fun i wr => ∃ k : Nat,k <= n /\ i = .int .i64 k /\ Hid (SF B (fun _ t => t = 9) w wr)) (fun i _ => n - (intOf i).toNat)
  case atStart => exact ⟨0,Nat.zero_le _,rfl,SF.refl _ _ _⟩
  case round =>
   obtain ⟨k,hk,rfl,HSF⟩ := hrel
   have HOr := zh ((uh HO).sf (uh HSF))
   by_cases hlt : k < n
   ·have HG : Hid (SFg B (fun _ t => t = 9) w wr g 9) := ⟨uh HSF,(uh HOr).blk.1,rfl,(uh HOr).blk.2⟩
    obtain ⟨⟨v0,c0⟩,f0⟩ := (uh HOr).cell (k) (by omega)
    go_wp2
    go_roundw
    case rel => exact ⟨k + 1,by omega,by go_num,((uh HG).set _ _).1⟩
    case measure => simp [intOf]; omega
   ·have HAPP : Hid (∀ ty,∃ v' w',(Builtin.append_ #[26,26] ty #[.slice (some ⟨g,0,none⟩) n cap,.slice (some ⟨wr.heap.size,0,none⟩) 1 1]).run Tryz.prog (wr.alloc (.cells #[.string ⟨#[]⟩] 9)) = .ok v' w' /\ SF B (fun _ t => t = 9) w w') := fun ty => by
     obtain ⟨xs,hx⟩ := uh HOr
     obtain ⟨v',w',h1,h2⟩ := app_sf (B := B) (T := fun _ t => t = 9) (wr.alloc (.cells #[.string ⟨#[]⟩] 9)) 26 ty 9 i0 _ 1 16 Tryz.underlying26 hi hz0 hz1 hz2 rfl (by decide) (.slice (some ⟨g,0,none⟩) n cap) n ⟨xs,hx.alloc _⟩ ⟨wr.heap.size,0,none⟩ 1 [.string ⟨#[]⟩] rfl (one_cell _ _ _) (one_str _) hn (by decide) (by have := (uh HSF).size; simp; omega) (fun _ _ => rfl)
     exact ⟨v',w',h1,((uh HSF).trans (SF.bel (bal _ _) (Nat.le_trans hB (uh HSF).size))).trans h2⟩
    clear HOr
    go_wp2_with (first
     | (at_builtin; refine wpList_append_run _ (Z := fun _ w' => SF B (fun _ t => t = 9) w w') rfl _ _ 26 26 rfl _ _ rfl rfl ((uh HAPP) _) ?_)
     | go_in)
    intro v' w1 hsf
    have HSF1 := zh hsf
    clear hsf HAPP
    go_wp2
    go_end0
    exact ⟨rfl,uh HSF1⟩
theorem props_sp (B : Nat) (v : Value) (n : Nat) (w : World) (hB : B <= w.heap.size) (hn : n <= 1000000) (h : OwnE w B 120 4 v n) : Calls Tryz.prog 74 #[v] w fun e w' => e = .returned (.tuple #[]) /\ SF B (fun _ t => t = 120) w w' := by
 obtain ⟨i0,hi,hz0,hz1,hz2⟩ := info_parts Tryz.infoProp
 have hv : (v = .slice none 0 0 /\ n = 0) \/ ∃ g cap,v = .slice (some ⟨g,0,none⟩) n cap := by
  obtain ⟨xs,h⟩ := h
  rcases h.2 with h1 | ⟨g,cap,_,h1,_⟩
  ·exact .inl h1
  ·exact .inr ⟨g,cap,h1⟩
 rcases hv with ⟨rfl,rfl⟩ | ⟨g,cap,rfl⟩
 ·clear h
  go_enter Tryz.func74,Tryz.ntmps74
  go_wp2
  refine wp_loop_rounds 1 ?_
  rw [rounds_succ]
  have HAPP : Hid (∀ ty,∃ v' w',(Builtin.append_ #[24,24] ty #[.slice none 0 0,.slice (some ⟨w.heap.size,0,none⟩) 1 1]).run Tryz.prog (w.alloc (.cells #[.int .i64 0,.int .i64 0,.string ⟨#[]⟩,.string ⟨#[]⟩] 120)) = .ok v' w' /\ SF B (fun _ t => t = 120) w w') := fun ty => by
   obtain ⟨v',w',h1,h2⟩ := app_sf (B := B) (T := fun _ t => t = 120) (w.alloc (.cells #[.int .i64 0,.int .i64 0,.string ⟨#[]⟩,.string ⟨#[]⟩] 120)) 24 ty 120 i0 _ 4 48 Tryz.underlying24 hi hz0 hz1 hz2 rfl (by decide) (.slice none 0 0) 0 ⟨[],World.ownsRow_nil _ _ _ _⟩ ⟨w.heap.size,0,none⟩ 1 [.int .i64 0,.int .i64 0,.string ⟨#[]⟩,.string ⟨#[]⟩] rfl (four_cell _ _ _ _ _ _) (four_one _ _ _ _) hn (by decide) (by simp; omega) (fun _ _ => rfl)
   exact ⟨v',w',h1,(SF.bel (bal _ _) hB).trans h2⟩
  go_wp2_with (first
   | (at_builtin; refine wpList_append_run _ (Z := fun _ w' => SF B (fun _ t => t = 120) w w') rfl _ _ 24 24 rfl _ _ rfl rfl ((uh HAPP) _) ?_)
   | go_in)
  intro v' w1 hsf
  have HSF := zh hsf
  clear hsf HAPP
  go_wp2
  go_end0
  exact ⟨rfl,uh HSF⟩
 ·have HO := zh h
  have hgb := h.blk
  clear h
  go_enter Tryz.func74,Tryz.ntmps74
  go_wp2
  go_loopw [2] (fun i wr => ∃ k : Nat,k <= n /\ i = .int .i64 k /\ Hid (SF B (fun _ t => t = 120) w wr)) (fun i _ => n - (intOf i).toNat)
  case atStart => exact ⟨0,Nat.zero_le _,rfl,SF.refl _ _ _⟩
  case round =>
   obtain ⟨k,hk,rfl,HSF⟩ := hrel
   have HOr := zh ((uh HO).sf (uh HSF))
   by_cases hlt : k < n
   ·have HG : Hid (SFg B (fun _ t => t = 120) w wr g 120) := ⟨uh HSF,(uh HOr).blk.1,rfl,(uh HOr).blk.2⟩
    obtain ⟨⟨v0,c0⟩,f0⟩ := (uh HOr).cell (k * 4) (by omega)
    obtain ⟨⟨v1,c1⟩,f1⟩ := (uh HOr).cell (k * 4 + 1) (by omega)
    obtain ⟨⟨v2,c2⟩,f2⟩ := (uh HOr).cell (k * 4 + 2) (by omega)
    obtain ⟨⟨v3,c3⟩,f3⟩ := (uh HOr).cell (k * 4 + 3) (by omega)
    go_wp2
    go_roundw
    case rel => exact ⟨k + 1,by omega,by go_num,(((((uh HG).set _ _).set _ _).set _ _).set _ _).1⟩
    case measure => simp [intOf]; omega
   ·have HAPP : Hid (∀ ty,∃ v' w',(Builtin.append_ #[24,24] ty #[.slice (some ⟨g,0,none⟩) n cap,.slice (some ⟨wr.heap.size,0,none⟩) 1 1]).run Tryz.prog (wr.alloc (.cells #[.int .i64 0,.int .i64 0,.string ⟨#[]⟩,.string ⟨#[]⟩] 120)) = .ok v' w' /\ SF B (fun _ t => t = 120) w w') := fun ty => by
     obtain ⟨xs,hx⟩ := uh HOr
     obtain ⟨v',w',h1,h2⟩ := app_sf (B := B) (T := fun _ t => t = 120) (wr.alloc (.cells #[.int .i64 0,.int .i64 0,.string ⟨#[]⟩,.string ⟨#[]⟩] 120)) 24 ty 120 i0 _ 4 48 Tryz.underlying24 hi hz0 hz1 hz2 rfl (by decide) (.slice (some ⟨g,0,none⟩) n cap) n ⟨xs,hx.alloc _⟩ ⟨wr.heap.size,0,none⟩ 1 [.int .i64 0,.int .i64 0,.string ⟨#[]⟩,.string ⟨#[]⟩] rfl (four_cell _ _ _ _ _ _) (four_one _ _ _ _) hn (by decide) (by have := (uh HSF).size; simp; omega) (fun _ _ => rfl)
     exact ⟨v',w',h1,((uh HSF).trans (SF.bel (bal _ _) (Nat.le_trans hB (uh HSF).size))).trans h2⟩
    clear HOr
    go_wp2_with (first
     | (at_builtin; refine wpList_append_run _ (Z := fun _ w' => SF B (fun _ t => t = 120) w w') rfl _ _ 24 24 rfl _ _ rfl rfl ((uh HAPP) _) ?_)
     | go_in)
    intro v' w1 hsf
    have HSF1 := zh hsf
    clear hsf HAPP
    go_wp2
    go_end0
    exact ⟨rfl,uh HSF1⟩
theorem subs_sp (B : Nat) (v : Value) (n : Nat) (w : World) (hB : B <= w.heap.size) (hn : n <= 1000000) (h : OwnE w B 75 5 v n) : Calls Tryz.prog 77 #[v] w fun e w' => e = .returned (.tuple #[]) /\ SF B (fun _ t => t = 75) w w' := by
 obtain ⟨i0,hi,hz0,hz1,hz2⟩ := info_parts infoSub
 have hv : (v = .slice none 0 0 /\ n = 0) \/ ∃ g cap,v = .slice (some ⟨g,0,none⟩) n cap := by
  obtain ⟨xs,h⟩ := h
  rcases h.2 with h1 | ⟨g,cap,_,h1,_⟩
  ·exact .inl h1
  ·exact .inr ⟨g,cap,h1⟩
 rcases hv with ⟨rfl,rfl⟩ | ⟨g,cap,rfl⟩
 ·clear h
  go_enter Tryz.func77,Tryz.ntmps77
  go_wp2
  refine wp_loop_rounds 1 ?_
  rw [rounds_succ]
  have HAPP : Hid (∀ ty,∃ v' w',(Builtin.append_ #[27,27] ty #[.slice none 0 0,.slice (some ⟨w.heap.size,0,none⟩) 1 1]).run Tryz.prog (w.alloc (.cells #[.string ⟨#[]⟩,.int .i64 0,.bool false,.bool false,.int .i64 0] 75)) = .ok v' w' /\ SF B (fun _ t => t = 75) w w') := fun ty => by
   obtain ⟨v',w',h1,h2⟩ := app_sf (B := B) (T := fun _ t => t = 75) (w.alloc (.cells #[.string ⟨#[]⟩,.int .i64 0,.bool false,.bool false,.int .i64 0] 75)) 27 ty 75 i0 _ 5 40 Tryz.underlying27 hi hz0 hz1 hz2 rfl (by decide) (.slice none 0 0) 0 ⟨[],World.ownsRow_nil _ _ _ _⟩ ⟨w.heap.size,0,none⟩ 1 [.string ⟨#[]⟩,.int .i64 0,.bool false,.bool false,.int .i64 0] rfl (five_cell _ _ _ _ _ _ _) (five_one ⟨⟨#[]⟩,0,false,false,0⟩) hn (by decide) (by simp; omega) (fun _ _ => rfl)
   exact ⟨v',w',h1,(SF.bel (bal _ _) hB).trans h2⟩
  go_wp2_with (first
   | (at_builtin; refine wpList_append_run _ (Z := fun _ w' => SF B (fun _ t => t = 75) w w') rfl _ _ 27 27 rfl _ _ rfl rfl ((uh HAPP) _) ?_)
   | go_in)
  intro v' w1 hsf
  have HSF := zh hsf
  clear hsf HAPP
  go_wp2
  go_end0
  exact ⟨rfl,uh HSF⟩
 ·have HO := zh h
  have hgb := h.blk
  clear h
  go_enter Tryz.func77,Tryz.ntmps77
  go_wp2
  go_loopw [2] (fun i wr => ∃ k : Nat,k <= n /\ i = .int .i64 k /\ Hid (SF B (fun _ t => t = 75) w wr)) (fun i _ => n - (intOf i).toNat)
  case atStart => exact ⟨0,Nat.zero_le _,rfl,SF.refl _ _ _⟩
  case round =>
   obtain ⟨k,hk,rfl,HSF⟩ := hrel
   have HOr := zh ((uh HO).sf (uh HSF))
   by_cases hlt : k < n
   ·have HG : Hid (SFg B (fun _ t => t = 75) w wr g 75) := ⟨uh HSF,(uh HOr).blk.1,rfl,(uh HOr).blk.2⟩
    obtain ⟨⟨v0,c0⟩,f0⟩ := (uh HOr).cell (k * 5) (by omega)
    obtain ⟨⟨v1,c1⟩,f1⟩ := (uh HOr).cell (k * 5 + 1) (by omega)
    obtain ⟨⟨v2,c2⟩,f2⟩ := (uh HOr).cell (k * 5 + 2) (by omega)
    obtain ⟨⟨v3,c3⟩,f3⟩ := (uh HOr).cell (k * 5 + 3) (by omega)
    obtain ⟨⟨v4,c4⟩,f4⟩ := (uh HOr).cell (k * 5 + 4) (by omega)
    go_wp2
    go_roundw
    case rel => exact ⟨k + 1,by omega,by go_num,((((((uh HG).set _ _).set _ _).set _ _).set _ _).set _ _).1⟩
    case measure => simp [intOf]; omega
   ·have HAPP : Hid (∀ ty,∃ v' w',(Builtin.append_ #[27,27] ty #[.slice (some ⟨g,0,none⟩) n cap,.slice (some ⟨wr.heap.size,0,none⟩) 1 1]).run Tryz.prog (wr.alloc (.cells #[.string ⟨#[]⟩,.int .i64 0,.bool false,.bool false,.int .i64 0] 75)) = .ok v' w' /\ SF B (fun _ t => t = 75) w w') := fun ty => by
     obtain ⟨xs,hx⟩ := uh HOr
     obtain ⟨v',w',h1,h2⟩ := app_sf (B := B) (T := fun _ t => t = 75) (wr.alloc (.cells #[.string ⟨#[]⟩,.int .i64 0,.bool false,.bool false,.int .i64 0] 75)) 27 ty 75 i0 _ 5 40 Tryz.underlying27 hi hz0 hz1 hz2 rfl (by decide) (.slice (some ⟨g,0,none⟩) n cap) n ⟨xs,hx.alloc _⟩ ⟨wr.heap.size,0,none⟩ 1 [.string ⟨#[]⟩,.int .i64 0,.bool false,.bool false,.int .i64 0] rfl (five_cell _ _ _ _ _ _ _) (five_one ⟨⟨#[]⟩,0,false,false,0⟩) hn (by decide) (by have := (uh HSF).size; simp; omega) (fun _ _ => rfl)
     exact ⟨v',w',h1,((uh HSF).trans (SF.bel (bal _ _) (Nat.le_trans hB (uh HSF).size))).trans h2⟩
    clear HOr
    go_wp2_with (first
     | (at_builtin; refine wpList_append_run _ (Z := fun _ w' => SF B (fun _ t => t = 75) w w') rfl _ _ 27 27 rfl _ _ rfl rfl ((uh HAPP) _) ?_)
     | go_in)
    intro v' w1 hsf
    have HSF1 := zh hsf
    clear hsf HAPP
    go_wp2
    go_end0
    exact ⟨rfl,uh HSF1⟩
end Go.Proofs.YtpoeakillimibaaGreatDoor.K
