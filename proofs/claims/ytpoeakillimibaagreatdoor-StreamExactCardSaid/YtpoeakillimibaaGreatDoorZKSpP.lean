/- Proved here: dovecotelaw0's Wills and Packet, handed rows of the caller's own, write into these alone. Helper contracts. -/
import Derived.Test.YtpoeakillimibaaGreatDoorM43
import Derived.Test.YtpoeakillimibaaGreatDoorM32
set_option maxHeartbeats 20000000
namespace Go.Proofs.YtpoeakillimibaaGreatDoor.K
open Go.RowKit
set_option maxRecDepth 100000
theorem infoWill : (Tryz.prog.info? 73).map (fun i => (i.zero,i.size,i.bytes)) = some (some (.agg #[.string ⟨#[]⟩,.string ⟨#[]⟩,.int .i64 0,.bool false,.slice none 0 0]),5,72) := by kernel_rfl
def spT (o : Option Nat) (k : Nat) (t : TypeId) : Prop := t = 120 \/ (t = 73 /\ some k = o) \/ t = 9 \/ t = 75 \/ t = 3
theorem wnew_one : ∀ u ∈ [Value.string ⟨#[]⟩,.string ⟨#[]⟩,.int .i64 0,.bool false,.slice none 0 0],u.oneCell' = true := by
 intro u hu
 simp only [List.mem_cons,List.not_mem_nil,or_false] at hu
 rcases hu with rfl | rfl | rfl | rfl | rfl <;> rfl
theorem will_ne : ¬ ((73 : TypeId) = 120) := by decide
theorem wills_sp (B : Nat) (v : Value) (n : Nat) (ws : List Wv) (w : World) (hB : B <= w.heap.size) (hn : n <= 1000000) (h : w.ownsRow B 73 5 v n (wcs ws)) (hp : ∀ (i : Nat) (u : Wv),ws[i]? = some u -> ∃ m,m <= 1000000 /\ OwnE w B 120 4 u.props.val m) : Calls Tryz.prog 75 #[v] w fun e w' => e = .returned (.tuple #[]) /\ SF B (fun k t => t = 120 \/ (t = 73 /\ some k = v.ownBlock)) w w' := by
 obtain ⟨i0,hi,hz0,hz1,hz2⟩ := info_parts infoWill
 have hwl : ws.length = n := by have := h.1; rw [wcs_length] at this; omega
 have hv : (v = .slice none 0 0 /\ n = 0) \/ ∃ g cap,v = .slice (some ⟨g,0,none⟩) n cap := by
  rcases h.2 with h1 | ⟨g,cap,_,h1,_⟩
  ·exact .inl h1
  ·exact .inr ⟨g,cap,h1⟩
 rcases hv with ⟨rfl,rfl⟩ | ⟨g,cap,rfl⟩
 ·clear h hp hwl
  go_enter Tryz.func75,Tryz.ntmps75
  go_wp2
  refine wp_loop_rounds 1 ?_
  rw [rounds_succ]
  have HAPP : Hid (∀ ty,∃ v' w',(Builtin.append_ #[25,25] ty #[.slice none 0 0,.slice (some ⟨w.heap.size,0,none⟩) 1 1]).run Tryz.prog (w.alloc (.cells #[.string ⟨#[]⟩,.string ⟨#[]⟩,.int .i64 0,.bool false,.slice none 0 0] 73)) = .ok v' w' /\ SF B (fun k t => t = 120 \/ (t = 73 /\ some k = Value.ownBlock (.slice none 0 0))) w w') := fun ty => by
   obtain ⟨v',w',h1,h2⟩ := app_sf (B := B) (T := fun k t => t = 120 \/ (t = 73 /\ some k = Value.ownBlock (.slice none 0 0))) (w.alloc (.cells #[.string ⟨#[]⟩,.string ⟨#[]⟩,.int .i64 0,.bool false,.slice none 0 0] 73)) 25 ty 73 i0 _ 5 72 Tryz.underlying25 hi hz0 hz1 hz2 rfl (by decide) (.slice none 0 0) 0 ⟨[],World.ownsRow_nil _ _ _ _⟩ ⟨w.heap.size,0,none⟩ 1 [.string ⟨#[]⟩,.string ⟨#[]⟩,.int .i64 0,.bool false,.slice none 0 0] rfl (five_cell _ _ _ _ _ _ _) wnew_one hn (by decide) (by simp; omega) (fun _ h => .inr ⟨rfl,h.symm⟩)
   exact ⟨v',w',h1,(SF.bel (bal _ _) hB).trans h2⟩
  go_wp2_with (first
   | (at_builtin; refine wpList_append_run _ (Z := fun _ w' => SF B (fun k t => t = 120 \/ (t = 73 /\ some k = Value.ownBlock (.slice none 0 0))) w w') rfl _ _ 25 25 rfl _ _ rfl rfl ((uh HAPP) _) ?_)
   | go_in)
  intro v' w1 hsf
  have HSF := zh hsf
  clear hsf HAPP
  go_wp2
  go_end0
  exact ⟨rfl,uh HSF⟩
 ·have HO := zh h
  have HP := zh hp
  have HWL := zh hwl
  clear h hp hwl
  go_enter Tryz.func75,Tryz.ntmps75
  go_wp2
  go_loopw [2] (fun i wr => ∃ (k : Nat) (ys : List Value),k <= n /\ i = .int .i64 k /\ Hid (SF B (fun k t => t = 120 \/ (t = 73 /\ some k = Value.ownBlock (.slice (some ⟨g,0,none⟩) n cap))) w wr) /\ Hid (wr.ownsRow B 73 5 (.slice (some ⟨g,0,none⟩) n cap) n ys) /\ Hid (∀ j,k * 5 <= j -> ys[j]? = (wcs ws)[j]?)) (fun i _ => n - (intOf i).toNat)
  case atStart => exact ⟨0,wcs ws,Nat.zero_le _,rfl,SF.refl _ _ _,HO,fun _ _ => rfl⟩
  case round =>
   obtain ⟨k,ys,hk,rfl,HSF,HY,HYS⟩ := hrel
   by_cases hlt : k < n
   ·obtain ⟨u,hu⟩ : ∃ u,ws[k]? = some u := ⟨_,List.getElem?_eq_getElem (by rw [uh HWL]; exact hlt)⟩
    obtain ⟨m,hm,ho⟩ := (uh HP) k u hu
    obtain ⟨ut,up,uq,ur,⟨pa,pn,pc⟩⟩ := u
    have c4 : wr.cell? ⟨g,k * 5 + 4,none⟩ = some (.slice pa pn pc) := by
     rw [(uh HY).cellAt (k * 5 + 4) (by omega),(uh HYS) (k * 5 + 4) (by omega),wcs_get ws k _ hu 4 (by omega)]
     rfl
    have HO2 := zh (ho.sf (uh HSF))
    have hBr : B <= wr.heap.size := Nat.le_trans hB (uh HSF).size
    have HPS := zh (props_sp B (.slice pa pn pc) m wr hBr hm (uh HO2))
    clear ho hu
    go_wp2_with fail
    refine (uh HPS).mono ?_
    rintro e w2 ⟨rfl,hsf⟩
    have HSF2 : Hid (SF B (fun k t => t = 120 \/ (t = 73 /\ some k = Value.ownBlock (.slice (some ⟨g,0,none⟩) n cap))) w w2) := (uh HSF).trans (hsf.weak (fun _ _ h => .inl h))
    have HY2 : Hid (w2.ownsRow B 73 5 (.slice (some ⟨g,0,none⟩) n cap) n ys) := owns_sf (uh HY) hsf (fun _ _ => will_ne)
    have hE : OwnE w2 B 73 5 (.slice (some ⟨g,0,none⟩) n cap) n := ⟨ys,uh HY2⟩
    have HG : Hid (SFg B (fun k t => t = 120 \/ (t = 73 /\ some k = Value.ownBlock (.slice (some ⟨g,0,none⟩) n cap))) w w2 g 73) := ⟨uh HSF2,hE.blk.1,.inr ⟨rfl,rfl⟩,hE.blk.2⟩
    obtain ⟨⟨v0,d0⟩,f0⟩ := hE.cell (k * 5) (by omega)
    obtain ⟨⟨v1,d1⟩,f1⟩ := hE.cell (k * 5 + 1) (by omega)
    obtain ⟨⟨v2,d2⟩,f2⟩ := hE.cell (k * 5 + 2) (by omega)
    obtain ⟨⟨v3,d3⟩,f3⟩ := hE.cell (k * 5 + 3) (by omega)
    obtain ⟨⟨v4,d4⟩,f4⟩ := hE.cell (k * 5 + 4) (by omega)
    clear hsf hE HPS HO2 HSF HY c4
    go_wp2
    go_roundw
    case rel =>
     have hs := (((((uh HY2).stored (k * 5) (.string ⟨#[115,112,111,105,108,116]⟩)).1.stored (k * 5 + 1) (.string ⟨#[]⟩)).1.stored (k * 5 + 2) (.int .i64 0)).1.stored (k * 5 + 3) (.bool false)).1.stored (k * 5 + 4) (.slice none 0 0)
     refine ⟨k + 1,_,by omega,by go_num,(((((uh HG).set _ _).set _ _).set _ _).set _ _ |>.set _ _).1,hs.1,fun j hj => ?_⟩
     rw [List.getElem?_set_ne (by omega),List.getElem?_set_ne (by omega),List.getElem?_set_ne (by omega),List.getElem?_set_ne (by omega),List.getElem?_set_ne (by omega)]
     exact (uh HYS) j (by omega)
    case measure => simp [intOf]; omega
   ·have HAPP : Hid (∀ ty,∃ v' w',(Builtin.append_ #[25,25] ty #[.slice (some ⟨g,0,none⟩) n cap,.slice (some ⟨wr.heap.size,0,none⟩) 1 1]).run Tryz.prog (wr.alloc (.cells #[.string ⟨#[]⟩,.string ⟨#[]⟩,.int .i64 0,.bool false,.slice none 0 0] 73)) = .ok v' w' /\ SF B (fun k t => t = 120 \/ (t = 73 /\ some k = Value.ownBlock (.slice (some ⟨g,0,none⟩) n cap))) w w') := fun ty => by
     obtain ⟨v',w',h1,h2⟩ := app_sf (B := B) (T := fun k t => t = 120 \/ (t = 73 /\ some k = Value.ownBlock (.slice (some ⟨g,0,none⟩) n cap))) (wr.alloc (.cells #[.string ⟨#[]⟩,.string ⟨#[]⟩,.int .i64 0,.bool false,.slice none 0 0] 73)) 25 ty 73 i0 _ 5 72 Tryz.underlying25 hi hz0 hz1 hz2 rfl (by decide) (.slice (some ⟨g,0,none⟩) n cap) n ⟨ys,(uh HY).alloc _⟩ ⟨wr.heap.size,0,none⟩ 1 [.string ⟨#[]⟩,.string ⟨#[]⟩,.int .i64 0,.bool false,.slice none 0 0] rfl (five_cell _ _ _ _ _ _ _) wnew_one hn (by decide) (by have := (uh HSF).size; simp; omega) (fun _ h => .inr ⟨rfl,h.symm⟩)
     exact ⟨v',w',h1,((uh HSF).trans (SF.bel (bal _ _) (Nat.le_trans hB (uh HSF).size))).trans h2⟩
    clear HY HYS
    go_wp2_with (first
     | (at_builtin; refine wpList_append_run _ (Z := fun _ w' => SF B (fun k t => t = 120 \/ (t = 73 /\ some k = Value.ownBlock (.slice (some ⟨g,0,none⟩) n cap))) w w') rfl _ _ 25 25 rfl _ _ rfl rfl ((uh HAPP) _) ?_)
     | go_in)
    intro v' w1 hsf
    have HSF1 := zh hsf
    clear hsf HAPP
    go_wp2
    go_end0
    exact ⟨rfl,uh HSF1⟩
structure Lts (P : Pa) : Prop where
 props : P.props.length <= 32
 wills : P.wills.length <= 1
 wp : ∀ u ∈ P.wills,u.props.length <= 32
 user : P.user.length <= 1
 pass : P.pass.length <= 1
 subs : P.subs.length <= 16
 filters : P.filters.length <= 16
 codes : P.codes.length <= 16
theorem pk_block {w : World} {A : Nat} {q : Pkv} (h : w.heap[A]? = some (Obj.cells q.cells.toArray 30 (0,0))) : Pk w A q := fun j hj => by
 refine ⟨?_,by unfold World.frozen?; rw [h]; simp⟩
 unfold World.cell?
 dsimp only
 rw [h]
 simpa using cells_get q j hj
theorem pk_ne (o : Option Nat) (k : Nat) : ¬ spT o k 30 := by
 rintro (h | ⟨h,_⟩ | h | h | h) <;> exact absurd h (by decide)
structure SpOk (w : World) (B : Nat) (q : Pkv) : Prop where
 props : ∃ n,n <= 1000000 /\ OwnE w B 120 4 q.props.val n
 wills : ∃ ws n,n <= 1000000 /\ w.ownsRow B 73 5 q.wills.val n (wcs ws) /\ ∀ (i : Nat) (u : Wv),ws[i]? = some u -> ∃ m,m <= 1000000 /\ OwnE w B 120 4 u.props.val m
 user : ∃ n,n <= 1000000 /\ OwnE w B 9 1 q.user.val n
 pass : ∃ n,n <= 1000000 /\ OwnE w B 9 1 q.pass.val n
 subs : ∃ n,n <= 1000000 /\ OwnE w B 75 5 q.subs.val n
 filters : ∃ n,n <= 1000000 /\ OwnE w B 9 1 q.filters.val n
 codes : ∃ n,n <= 1000000 /\ OwnE w B 3 1 q.codes.val n
theorem own_sf {w w' : World} {B : Nat} {e : TypeId} {s : Nat} {v : Value} {T : Nat -> TypeId -> Prop} (h : ∃ n,n <= 1000000 /\ OwnE w B e s v n) (k : SF B T w w') : ∃ n,n <= 1000000 /\ OwnE w' B e s v n := by
 obtain ⟨n,h1,h2⟩ := h
 exact ⟨n,h1,h2.sf k⟩
theorem SpOk.sf {w w' : World} {B : Nat} {q : Pkv} {T : Nat -> TypeId -> Prop} (h : SpOk w B q) (k : SF B T w w') (ht : ∀ g,q.wills.val.ownBlock = some g -> ¬ T g 73) : SpOk w' B q := by
 refine ⟨own_sf h.props k,?_,own_sf h.user k,own_sf h.pass k,own_sf h.subs k,own_sf h.filters k,own_sf h.codes k⟩
 obtain ⟨ws,n,h1,h2,h3⟩ := h.wills
 exact ⟨ws,n,h1,owns_sf h2 k ht,fun i u hu => own_sf (h3 i u hu) k⟩
theorem Mean.spok {w : World} {B : Nat} {q : Pkv} {P : Pa} (h : Mean w B q P) (hl : Lts P) : SpOk w B q := by
 refine ⟨⟨_,by have := hl.props; omega,_,h.props⟩,?_,⟨_,by have := hl.user; omega,_,h.user⟩,⟨_,by have := hl.pass; omega,_,h.pass⟩,⟨_,by have := hl.subs; omega,_,h.subs⟩,⟨_,by have := hl.filters; omega,_,h.filters⟩,⟨_,by have := hl.codes; omega,_,h.codes⟩⟩
 obtain ⟨ws,k1,k2,k3⟩ := h.wills
 refine ⟨ws,_,by have := hl.wills; omega,k1,fun i u hu => ?_⟩
 have hi : i < ws.length := (List.getElem?_eq_some_iff.1 hu).1
 obtain ⟨x,hx⟩ : ∃ x,P.wills[i]? = some x := ⟨_,List.getElem?_eq_getElem (by rw [<- k2]; exact hi)⟩
 have hmem : x ∈ P.wills := List.mem_of_getElem? hx
 exact ⟨x.props.length,by have := hl.wp x hmem; omega,_,(k3 i u x hu hx).2.2.2.2⟩
theorem packet_sf (B : Nat) (q : Pkv) (w : World) (hB : B <= w.heap.size) (h : SpOk w B q) : Calls Tryz.prog 35 #[q.val] w fun e w' => e = .returned (.tuple #[]) /\ SF B (spT q.wills.val.ownBlock) w w' := by
 have HAL : Hid (SF B (spT q.wills.val.ownBlock) w (w.alloc (.cells q.cells.toArray 30))) := SF.bel (bal _ _) hB
 have HALb : Hid (Below w.heap.size w (w.alloc (.cells q.cells.toArray 30))) := bal _ _
 have HBX : Hid ((w.alloc (.cells q.cells.toArray 30)).heap[w.heap.size]? = some (Obj.cells q.cells.toArray 30 (0,0))) := Array.getElem?_push_size
 have HM := zh h
 clear h
 go_enter Tryz.func35,Tryz.ntmps35
 go_upto_region 1 with fail
 change Code.wp _ _ _ _ (w.alloc (.cells q.cells.toArray 30))
 generalize w.alloc (.cells q.cells.toArray 30) = w0 at HAL HALb HBX |-
 have c0 := (pk_block (uh HBX)).props
 have hB0 : B <= w0.heap.size := Nat.le_trans hB (uh HAL).size
 obtain ⟨n0,ho0⟩ := own_sf (uh HM).props (uh HAL)
 have HC0 := zh (props_sp B _ n0 w0 hB0 ho0.1 ho0.2)
 clear ho0
 go_wp2_with fail
 refine (uh HC0).mono ?_
 rintro e w1 ⟨rfl,hsf⟩
 have HS1 : Hid (SF B (spT q.wills.val.ownBlock) w w1) := (uh HAL).trans (hsf.weak (fun _ _ h => .inl h))
 have HX1 : Hid (w1.heap[w.heap.size]? = some (Obj.cells q.cells.toArray 30 (0,0))) := (hsf.weak (T' := spT q.wills.val.ownBlock) (fun _ _ h => .inl h)).same _ _ _ (uh HBX) (pk_ne _ _)
 have HS1p : Hid (SF B (fun _ t => t = 120) w w1) := (SF.bel (uh HALb) hB).trans hsf
 clear hsf c0 HC0
 have c1 := (pk_block (uh HX1)).wills
 have hB1 : B <= w1.heap.size := Nat.le_trans hB (uh HS1).size
 have HC1 : Hid (Calls Tryz.prog 75 #[q.wills.val] w1 fun e w' => e = .returned (.tuple #[]) /\ SF B (fun k t => t = 120 \/ (t = 73 /\ some k = q.wills.val.ownBlock)) w1 w') := by
  obtain ⟨ws,n,k1,k2,k3⟩ := (uh HM).wills
  exact wills_sp B _ n ws w1 hB1 k1 (owns_sf k2 (uh HS1p) (fun _ _ => will_ne)) (fun i u hu => own_sf (k3 i u hu) (uh HS1))
 go_wp2_with fail
 refine (uh HC1).mono ?_
 rintro e w2 ⟨rfl,hsf⟩
 have HS2 : Hid (SF B (spT q.wills.val.ownBlock) w w2) := (uh HS1).trans (hsf.weak (fun _ _ h => h.elim (fun h => .inl h) (fun h => .inr (.inl h))))
 have HX2 : Hid (w2.heap[w.heap.size]? = some (Obj.cells q.cells.toArray 30 (0,0))) := (hsf.weak (T' := spT q.wills.val.ownBlock) (fun _ _ h => h.elim (fun h => .inl h) (fun h => .inr (.inl h)))).same _ _ _ (uh HX1) (pk_ne _ _)
 clear hsf c1 HC1
 have c2 := (pk_block (uh HX2)).user
 have hB2 : B <= w2.heap.size := Nat.le_trans hB (uh HS2).size
 obtain ⟨n2,ho2⟩ := own_sf (uh HM).user (uh HS2)
 have HC2 := zh (strings_sp B _ n2 w2 hB2 ho2.1 ho2.2)
 clear ho2
 go_wp2_with fail
 refine (uh HC2).mono ?_
 rintro e w3 ⟨rfl,hsf⟩
 have HS3 : Hid (SF B (spT q.wills.val.ownBlock) w w3) := (uh HS2).trans (hsf.weak (fun _ _ h => .inr (.inr (.inl h))))
 have HX3 : Hid (w3.heap[w.heap.size]? = some (Obj.cells q.cells.toArray 30 (0,0))) := (hsf.weak (T' := spT q.wills.val.ownBlock) (fun _ _ h => .inr (.inr (.inl h)))).same _ _ _ (uh HX2) (pk_ne _ _)
 clear hsf c2 HC2
 have c3 := (pk_block (uh HX3)).pass
 have hB3 : B <= w3.heap.size := Nat.le_trans hB (uh HS3).size
 obtain ⟨n3,ho3⟩ := own_sf (uh HM).pass (uh HS3)
 have HC3 := zh (strings_sp B _ n3 w3 hB3 ho3.1 ho3.2)
 clear ho3
 go_wp2_with fail
 refine (uh HC3).mono ?_
 rintro e w4 ⟨rfl,hsf⟩
 have HS4 : Hid (SF B (spT q.wills.val.ownBlock) w w4) := (uh HS3).trans (hsf.weak (fun _ _ h => .inr (.inr (.inl h))))
 have HX4 : Hid (w4.heap[w.heap.size]? = some (Obj.cells q.cells.toArray 30 (0,0))) := (hsf.weak (T' := spT q.wills.val.ownBlock) (fun _ _ h => .inr (.inr (.inl h)))).same _ _ _ (uh HX3) (pk_ne _ _)
 clear hsf c3 HC3
 have c4 := (pk_block (uh HX4)).subs
 have hB4 : B <= w4.heap.size := Nat.le_trans hB (uh HS4).size
 obtain ⟨n4,ho4⟩ := own_sf (uh HM).subs (uh HS4)
 have HC4 := zh (subs_sp B _ n4 w4 hB4 ho4.1 ho4.2)
 clear ho4
 go_wp2_with fail
 refine (uh HC4).mono ?_
 rintro e w5 ⟨rfl,hsf⟩
 have HS5 : Hid (SF B (spT q.wills.val.ownBlock) w w5) := (uh HS4).trans (hsf.weak (fun _ _ h => .inr (.inr (.inr (.inl h)))))
 have HX5 : Hid (w5.heap[w.heap.size]? = some (Obj.cells q.cells.toArray 30 (0,0))) := (hsf.weak (T' := spT q.wills.val.ownBlock) (fun _ _ h => .inr (.inr (.inr (.inl h))))).same _ _ _ (uh HX4) (pk_ne _ _)
 clear hsf c4 HC4
 have c5 := (pk_block (uh HX5)).filters
 have hB5 : B <= w5.heap.size := Nat.le_trans hB (uh HS5).size
 obtain ⟨n5,ho5⟩ := own_sf (uh HM).filters (uh HS5)
 have HC5 := zh (strings_sp B _ n5 w5 hB5 ho5.1 ho5.2)
 clear ho5
 go_wp2_with fail
 refine (uh HC5).mono ?_
 rintro e w6 ⟨rfl,hsf⟩
 have HS6 : Hid (SF B (spT q.wills.val.ownBlock) w w6) := (uh HS5).trans (hsf.weak (fun _ _ h => .inr (.inr (.inl h))))
 have HX6 : Hid (w6.heap[w.heap.size]? = some (Obj.cells q.cells.toArray 30 (0,0))) := (hsf.weak (T' := spT q.wills.val.ownBlock) (fun _ _ h => .inr (.inr (.inl h)))).same _ _ _ (uh HX5) (pk_ne _ _)
 clear hsf c5 HC5
 have c6 := (pk_block (uh HX6)).codes
 have hB6 : B <= w6.heap.size := Nat.le_trans hB (uh HS6).size
 obtain ⟨n6,ho6⟩ := own_sf (uh HM).codes (uh HS6)
 have HC6 := zh (numbers_sp B _ n6 w6 hB6 ho6.1 ho6.2)
 clear ho6
 go_wp2_with fail
 refine (uh HC6).mono ?_
 rintro e w7 ⟨rfl,hsf⟩
 have HS7 : Hid (SF B (spT q.wills.val.ownBlock) w w7) := (uh HS6).trans (hsf.weak (fun _ _ h => .inr (.inr (.inr (.inr h)))))
 have HX7 : Hid (w7.heap[w.heap.size]? = some (Obj.cells q.cells.toArray 30 (0,0))) := (hsf.weak (T' := spT q.wills.val.ownBlock) (fun _ _ h => .inr (.inr (.inr (.inr h))))).same _ _ _ (uh HX6) (pk_ne _ _)
 clear hsf c6 HC6
 go_wp2
 go_end0
 exact ⟨rfl,uh HS7⟩
end Go.Proofs.YtpoeakillimibaaGreatDoor.K
