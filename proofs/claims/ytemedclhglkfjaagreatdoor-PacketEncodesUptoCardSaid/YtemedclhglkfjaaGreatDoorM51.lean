/- Proved here: helpers, one text behind the other. -/
import Derived.Test.YtemedclhglkfjaaGreatDoorM48b
import Derived.Test.YtemedclhglkfjaaGreatDoorM45
import Derived.Test.YtemedclhglkfjaaGreatDoorM48
import Derived.Test.YtemedclhglkfjaaGreatDoorM38
import Derived.Test.YtemedclhglkfjaaGreatDoorZKTk
set_option maxHeartbeats 20000000
namespace Go.Proofs.YtemedclhglkfjaaGreatDoor.K
open Go.RowKit
set_option maxRecDepth 100000
def gbytes (kind f : Int) (l : List Int) : List Int := ([16 * kind + f] ++ V.put (l.length : Int)) ++ l
def GEnc (kind f : Int) (c : Bool) (l : List Int) (w : World) (e : Ending) (w' : World) : Prop := Below w.heap.size w w' /\
 ((c = false /\ e = .returned (.tuple #[.slice none 0 0,.int .i64 1])) \/
  (c = true /\ 65536 < (gbytes kind f l).length /\ e = .returned (.tuple #[.slice none 0 0,.int .i64 2])) \/
  (c = true /\ (gbytes kind f l).length <= 65536 /\ ∃ v,e = .returned (.tuple #[v,.int .i64 0]) /\ Hid (Rwb w' w.heap.size v (gbytes kind f l))))
theorem gbytes_len (kind f : Int) (l : List Int) : (gbytes kind f l).length = 1 + (V.put (l.length : Int)).length + l.length := by
 unfold gbytes
 rw [List.length_append,List.length_append]
 rfl
theorem genc_core (q : Pkv) (c : Bool) (l : List Int) (w : World) (hl : l.length <= 1200000000)
  (hM : ∀ W : World,Below w.heap.size w W -> Calls Tryz.prog 27 #[.agg q.cells.toArray] W fun e w' => e = .returned (.bool c) /\ Below W.heap.size W w')
  (hk : c = true -> 1 <= q.kind /\ q.kind <= 15 /\ (0 <= q.qos /\ q.qos <= 2 \/ q.kind ≠ 3))
  (hB : c = true -> ∀ W : World,Below w.heap.size w W -> Calls Tryz.prog 28 #[.agg q.cells.toArray] W (GPut l W)) :
  Calls Tryz.prog 9 #[q.val] w (GEnc q.kind (gfl q.kind q.dup q.qos q.retain) c l w) := by
 have HPN := zh (pk_new w q)
 have HB0 : Hid (Below w.heap.size w (w.alloc (.cells q.cells.toArray 30))) := bal _ _
 have HM := zh hM
 have HBO := zh hB
 have HK := zh hk
 clear hM hB hk
 go_enter Tryz.func9,Tryz.ntmps9
 go_upto_region 1 with fail
 change Code.wp _ _ _ _ (w.alloc (.cells q.cells.toArray 30))
 generalize w.alloc (.cells q.cells.toArray 30) = w0 at HPN HB0 |-
 go_step
 refine wpList_load_mid rfl 30 _ rfl w.heap.size 0 rfl q.cells _ (uh HPN).range Tryz.underlying30 rfl packet_size ?_
 simp only [Act.put,List.setIfInBounds_toArray,List.set_cons_zero,List.set_cons_succ]
 go_wp2_with fail
 refine ((uh HM) _ (uh HB0)).mono ?_
 rintro e w1 ⟨rfl,hb1⟩
 have HB1 : Hid (Below w.heap.size w w1) := bnx2 (uh HB0) hb1
 have HP1 := zh ((uh HPN).below hb1)
 clear hb1 HPN HB0 HM
 cases c
 ·go_wp2
  go_ret2
  exact ⟨uh HB1,.inl ⟨rfl,rfl⟩⟩
 ·obtain ⟨k1,k2,k3⟩ := (uh HK) rfl
  have HBY := zh ((uh HBO) rfl)
  clear HK HBO
  go_upto_region 3 with fail
  go_step
  refine wpList_load_mid rfl 30 _ rfl w.heap.size 0 rfl q.cells _ (uh HP1).range Tryz.underlying30 rfl packet_size ?_
  simp only [Act.put,List.setIfInBounds_toArray,List.set_cons_zero,List.set_cons_succ]
  go_wp2_with fail
  refine ((uh HBY) _ (uh HB1)).mono ?_
  rintro e wa ⟨vx,rfl,hrx,hba⟩
  have HBA : Hid (Below w.heap.size w wa) := bnx2 (uh HB1) hba
  have HPA := zh ((uh HP1).below hba)
  have hwl : w.heap.size < wa.heap.size := cell_lt (uh HPA).kind
  have HRX : Hid (Rwb wa (w.heap.size + 1) vx l) := (uh hrx).mono (cell_lt (uh HP1).kind)
  obtain ⟨xo,xc,rfl,-,-⟩ := (uh hrx).byt.form
  clear hrx hba HB1 HP1 HBY
  generalize hln : l.length = len at hl |-
  have HLN := zh hln
  clear hln
  by_cases hbig : 65536 < len
  ·have HF : Hid (GEnc q.kind (gfl q.kind q.dup q.qos q.retain) true l w (.returned (.tuple #[.slice none 0 0,.int .i64 2])) wa) := ⟨uh HBA,.inr (.inl ⟨rfl,by rw [gbytes_len,uh HLN]; omega,rfl⟩)⟩
   go_wp2
   go_ret2
   exact uh HF
  ·have HS : Hid (∀ W,Below wa.heap.size wa W -> W.cell? ⟨w.heap.size,0,none⟩ = some (.int .i64 q.kind) /\ W.rangeAt w.heap.size 0 q.cells) := fun W hW => ⟨((uh HPA).below hW).kind,((uh HPA).below hW).range⟩
   have hfr : 0 <= gfl q.kind q.dup q.qos q.retain /\ gfl q.kind q.dup q.qos q.retain <= 15 := by
    have r1 := fv_range q.dup 8 (by decide)
    have r2 := fv_range q.retain 1 (by decide)
    unfold gfl
    split
    ·omega
    ·split
     ·omega
     ·omega
   have HGF := zh (gflags_any q)
   obtain ⟨gf,HGE⟩ : ∃ gf,Hid (gf = gfl q.kind q.dup q.qos q.retain) := ⟨_,rfl⟩
   rw [<- uh HGE] at hfr
   have HGF : Hid (∀ W : World,Calls Tryz.prog 29 #[.agg q.cells.toArray] W fun e w' => e = .returned (.int .i64 gf) /\ Below W.heap.size W w') := fun W => by rw [uh HGE]; exact gflags_any q W k3
   go_wp2_with fail
   refine wp_region_noPanic ?_
   refine wp_region_held_drew (S := (fun w' => w'.cell? ⟨w.heap.size,0,none⟩ = some (.int .i64 q.kind) /\ w'.rangeAt w.heap.size 0 q.cells)) (by kernel_rfl) ((uh HS) _ (below_drewN (Below.refl _ _) 1)) (fun hHeld => ?_)
   have HBd : Hid (Below wa.heap.size wa wa.drew) := below_drewN (Below.refl _ _) 1
   generalize wa.drew = wd at HBd hHeld |-
   obtain ⟨fz,HFZ⟩ : ∃ z,Hid (z = 16 * q.kind + gf) := ⟨_,rfl⟩
   have hz : IntKind.u8.wrap (IntKind.i64.wrap (IntKind.i64.wrap (16 * q.kind) + gf)) = fz := by rw [uh HFZ,IntKind.wrap_i64,IntKind.wrap_i64,IntKind.wrap_u8]; omega
   have HRNG : ∀ j,0 <= ([fz] : List Int).getD j 0 /\ ([fz] : List Int).getD j 0 <= 255 := rng1 (by rw [uh HFZ]; omega)
   refine rtk 0 (h := ?_)
   refine rtk 1 (h := ?_)
   refine rtk 2 (h := ?_)
   refine rtk 3 (v := .agg q.cells.toArray) (hy := yieldsIf_load_mid (by rfl) 30 _ rfl w.heap.size 0 rfl q.cells _ (fun _ h => h.2) Tryz.underlying30 rfl packet_size) (h := ?_)
   refine rtk 8 (h := ?_)
   refine rtk 9 (h := ?_)
   refine rcl 4 (h := fun K hK => ?_)
   go_simp
   refine ((uh HGF) _).mono ?_
   rintro e w2 ⟨rfl,hb2⟩
   have HB2 : Hid (Below wa.heap.size wa w2) := bnx2 (uh HBd) hb2
   clear hb2
   refine hK.out _ _ ((uh HS) _ (uh HB2)) (fun hHeld => ?_)
   clear hK K
   refine rtk 5 (h := ?_)
   refine rtk 6 (h := ?_)
   refine wpAnyH_ready (rs := [7,10]) (by kernel_rfl) (by simp) ?_
   refine rac (h := fun K hK => ?_) (hs := rac (h := fun K hK => ?_) (hs := AllReadyH.nil))
   ·go_simp
    have HBx : Hid (Below wa.heap.size wa (w2.alloc (.cells #[.int .u8 fz] 5))) := (uh HB2).alloc (uh HB2).size _
    have HRx : Hid (Rwb (w2.alloc (.cells #[.int .u8 fz] 5)) wa.heap.size (.slice (some ⟨w2.heap.size,0,none⟩) 1 1) [fz]) := (rwb_new w2 [fz] (by simp) (by simp) HRNG).mono (uh HB2).size
    refine hK.out _ _ ((uh HS) _ (uh HBx)) (fun hHeld => ?_)
    clear hK K
    generalize w2.alloc (.cells #[.int .u8 fz] 5) = wy at HBx HRx hHeld |-
    refine rcl 10 (h := fun K hK => ?_)
    go_simp
    refine (rput_use (len : Int) _ (by omega) (by omega)).mono ?_
    rintro e w3 ⟨vp,rfl,hop,hyp,hb3⟩
    have HB3 : Hid (Below wa.heap.size wa w3) := bnx2 (uh HBx) hb3
    have HR3 := zh ((uh HRx).below hb3)
    have HY3 := hyp
    clear hb3 hop hyp HBx HRx
    refine hK.out _ _ ((uh HS) _ (uh HB3)) (fun hHeld => ?_)
    clear hK K
    refine rcl 11 (h := fun K hK => ?_)
    refine step_append_byt rfl _ _ rfl wa.heap.size (.slice (some ⟨w2.heap.size,0,none⟩) 1 1) 1 [fz] rfl (uh HR3).1 vp (V.put (len : Int)) rfl (uh HY3) (by have := V.put_len (len : Int); omega) (uh HB3).size ?_
    intro v4 w4 hown4 hg4
    have HB4 : Hid (Below wa.heap.size wa w4) := (uh HB3).grown hg4 (uh HB3).size (fun g hg => owns_blk (uh HR3).1 g hg)
    have HR4 : Hid (Rwb w4 wa.heap.size v4 ([fz] ++ V.put (len : Int))) := ⟨by rw [List.length_append]; exact hown4,range_app (uh HR3).2 (uh HY3).range⟩
    clear hown4
    refine hK.out _ _ ((uh HS) _ (uh HB4)) (fun hHeld => ?_)
    clear hK K
    simp only [Act.put,List.setIfInBounds_toArray,List.set_cons_zero,List.set_cons_succ]
    refine rtk 12 (h := ?_)
    refine wpAnyH_done (by kernel_rfl) ?_ _
    refine NoPanic.normal ?_
    have HY4 : Hid (Byt w4 (.slice xo len xc) l) := by
     have k := (uh HRX).byt.below (uh HB3)
     rw [uh HLN] at k
     refine byt_grown k hg4 (fun b off n cap e h1 => ?_)
     intro e2
     have h2 := owns_blk (uh HR3).1 b e2
     rcases (uh HRX).1.2 with ⟨e3,_⟩ | ⟨g,cp,cur,e3,_,hgg,_⟩
     ·rw [uh HLN] at e3; rw [e3] at e; cases e
     ·rw [uh HLN] at e3; rw [e3] at e; cases e
      have := (Array.getElem?_eq_some_iff.1 hgg).1
      omega
    have HB4w : Hid (Below w.heap.size w w4) := bnx2 (uh HBA) (uh HB4)
    obtain ⟨pl,hpl⟩ : ∃ p,p = (V.put (len : Int)).length := ⟨_,rfl⟩
    have HPL := zh hpl
    have hp4 := V.put_len (len : Int)
    rw [<- hpl] at hp4
    clear hpl
    obtain ⟨R4,HE4⟩ : ∃ L : List Int,Hid (L = [fz] ++ V.put (len : Int)) := ⟨_,rfl⟩
    rw [<- uh HE4] at HR4
    have HN4 : Hid (R4.length = 1 + pl) := by show _ = _; rw [uh HE4,uh HPL]; simp; omega
    have n4 : R4.length <= 5 := by have := uh HN4; omega
    obtain ⟨ra,rc,rfl,-,-⟩ := (uh HR4).byt.form
    have hz4 : wa.heap.size <= w4.heap.size := (uh HB4).size
    obtain ⟨l2,HL2⟩ : ∃ L : List Int,Hid (L = l) := ⟨_,rfl⟩
    rw [<- uh HL2] at HY4
    have nl2 : l2.length <= 65536 := by rw [uh HL2,uh HLN]; omega
    clear hg4 HR3 HB3 HPA HRX
    go_wp2_with (first
     | (at_builtin; refine wpList_append_byt _ rfl _ _ rfl wa.heap.size (.slice ra R4.length rc) R4.length R4 rfl (uh HR4).1 (.slice xo len xc) l2 rfl (uh HY4) (by omega) hz4 ?_)
     | go_in)
    intro v5 w5 hown5 hg5
    have HR5 := zh ((uh HR4).more (uh HY4).range (by first | exact hown5 | (rw [<- List.map_append]; exact hown5)))
    have HB5 : Hid (Below w.heap.size w w5) := (uh HB4w).grown hg5 (uh HB4w).size (fun g hg => by have := owns_blk (uh HR4).1 g hg; omega)
    obtain ⟨R5,HE5⟩ : ∃ L : List Int,Hid (L = R4 ++ l2) := ⟨_,rfl⟩
    rw [<- uh HE5] at HR5
    have HN5 : Hid (R5.length = 1 + pl + len) := by show _ = _; rw [uh HE5,List.length_append,uh HN4,uh HL2,uh HLN]
    obtain ⟨va5,vc5,rfl,-,-⟩ := (uh HR5).byt.form
    clear hown5 hg5 HR4 HY4
    have HG5 : Hid (gbytes q.kind (gfl q.kind q.dup q.qos q.retain) l = R5) := by show _ = _; unfold gbytes; rw [uh HE5,uh HE4,uh HL2,uh HLN,uh HFZ,uh HGE]
    by_cases hb5 : R5.length <= 65536
    ·have HF : Hid (GEnc q.kind (gfl q.kind q.dup q.qos q.retain) true l w (.returned (.tuple #[.slice va5 R5.length vc5,.int .i64 0])) w5) := ⟨uh HB5,.inr (.inr ⟨rfl,by rw [uh HG5]; exact hb5,_,rfl,by rw [uh HG5]; exact (uh HR5).mono (by omega)⟩)⟩
     go_wp2
     go_ret2
     exact uh HF
    ·have HF : Hid (GEnc q.kind (gfl q.kind q.dup q.qos q.retain) true l w (.returned (.tuple #[.slice none 0 0,.int .i64 2])) w5) := ⟨uh HB5,.inr (.inl ⟨rfl,by rw [uh HG5]; omega,rfl⟩)⟩
     go_wp2
     go_ret2
     exact uh HF
   ·go_simp
    refine (rput_use (len : Int) _ (by omega) (by omega)).mono ?_
    rintro e wy ⟨vp,rfl,hop,hyp,hby⟩
    have HBy : Hid (Below wa.heap.size wa wy) := bnx2 (uh HB2) hby
    refine hK.out _ _ ((uh HS) _ (uh HBy)) (fun hHeld => ?_)
    clear hK K
    refine rcl 7 (h := fun K hK => ?_)
    go_simp
    have HB3 : Hid (Below wa.heap.size wa (wy.alloc (.cells #[.int .u8 fz] 5))) := (uh HBy).alloc (uh HBy).size _
    have HR3 : Hid (Rwb (wy.alloc (.cells #[.int .u8 fz] 5)) wa.heap.size (.slice (some ⟨wy.heap.size,0,none⟩) 1 1) [fz]) := (rwb_new wy [fz] (by simp) (by simp) HRNG).mono (uh HBy).size
    have HY3 := zh ((uh hyp).below ((Below.refl _ _).alloc (Nat.le_refl _) (.cells #[.int .u8 fz] 5)))
    refine hK.out _ _ ((uh HS) _ (uh HB3)) (fun hHeld => ?_)
    clear hK K hby hop hyp
    generalize wy.alloc (.cells #[.int .u8 fz] 5) = w3 at HB3 HR3 HY3 hHeld |-
    refine rcl 11 (h := fun K hK => ?_)
    refine step_append_byt rfl _ _ rfl wa.heap.size (.slice (some ⟨wy.heap.size,0,none⟩) 1 1) 1 [fz] rfl (uh HR3).1 vp (V.put (len : Int)) rfl (uh HY3) (by have := V.put_len (len : Int); omega) (uh HB3).size ?_
    intro v4 w4 hown4 hg4
    have HB4 : Hid (Below wa.heap.size wa w4) := (uh HB3).grown hg4 (uh HB3).size (fun g hg => owns_blk (uh HR3).1 g hg)
    have HR4 : Hid (Rwb w4 wa.heap.size v4 ([fz] ++ V.put (len : Int))) := ⟨by rw [List.length_append]; exact hown4,range_app (uh HR3).2 (uh HY3).range⟩
    clear hown4
    refine hK.out _ _ ((uh HS) _ (uh HB4)) (fun hHeld => ?_)
    clear hK K
    simp only [Act.put,List.setIfInBounds_toArray,List.set_cons_zero,List.set_cons_succ]
    refine rtk 12 (h := ?_)
    refine wpAnyH_done (by kernel_rfl) ?_ _
    refine NoPanic.normal ?_
    have HY4 : Hid (Byt w4 (.slice xo len xc) l) := by
     have k := (uh HRX).byt.below (uh HB3)
     rw [uh HLN] at k
     refine byt_grown k hg4 (fun b off n cap e h1 => ?_)
     intro e2
     have h2 := owns_blk (uh HR3).1 b e2
     rcases (uh HRX).1.2 with ⟨e3,_⟩ | ⟨g,cp,cur,e3,_,hgg,_⟩
     ·rw [uh HLN] at e3; rw [e3] at e; cases e
     ·rw [uh HLN] at e3; rw [e3] at e; cases e
      have := (Array.getElem?_eq_some_iff.1 hgg).1
      omega
    have HB4w : Hid (Below w.heap.size w w4) := bnx2 (uh HBA) (uh HB4)
    obtain ⟨pl,hpl⟩ : ∃ p,p = (V.put (len : Int)).length := ⟨_,rfl⟩
    have HPL := zh hpl
    have hp4 := V.put_len (len : Int)
    rw [<- hpl] at hp4
    clear hpl
    obtain ⟨R4,HE4⟩ : ∃ L : List Int,Hid (L = [fz] ++ V.put (len : Int)) := ⟨_,rfl⟩
    rw [<- uh HE4] at HR4
    have HN4 : Hid (R4.length = 1 + pl) := by show _ = _; rw [uh HE4,uh HPL]; simp; omega
    have n4 : R4.length <= 5 := by have := uh HN4; omega
    obtain ⟨ra,rc,rfl,-,-⟩ := (uh HR4).byt.form
    have hz4 : wa.heap.size <= w4.heap.size := (uh HB4).size
    obtain ⟨l2,HL2⟩ : ∃ L : List Int,Hid (L = l) := ⟨_,rfl⟩
    rw [<- uh HL2] at HY4
    have nl2 : l2.length <= 65536 := by rw [uh HL2,uh HLN]; omega
    clear hg4 HR3 HB3 HPA HRX
    go_wp2_with (first
     | (at_builtin; refine wpList_append_byt _ rfl _ _ rfl wa.heap.size (.slice ra R4.length rc) R4.length R4 rfl (uh HR4).1 (.slice xo len xc) l2 rfl (uh HY4) (by omega) hz4 ?_)
     | go_in)
    intro v5 w5 hown5 hg5
    have HR5 := zh ((uh HR4).more (uh HY4).range (by first | exact hown5 | (rw [<- List.map_append]; exact hown5)))
    have HB5 : Hid (Below w.heap.size w w5) := (uh HB4w).grown hg5 (uh HB4w).size (fun g hg => by have := owns_blk (uh HR4).1 g hg; omega)
    obtain ⟨R5,HE5⟩ : ∃ L : List Int,Hid (L = R4 ++ l2) := ⟨_,rfl⟩
    rw [<- uh HE5] at HR5
    have HN5 : Hid (R5.length = 1 + pl + len) := by show _ = _; rw [uh HE5,List.length_append,uh HN4,uh HL2,uh HLN]
    obtain ⟨va5,vc5,rfl,-,-⟩ := (uh HR5).byt.form
    clear hown5 hg5 HR4 HY4
    have HG5 : Hid (gbytes q.kind (gfl q.kind q.dup q.qos q.retain) l = R5) := by show _ = _; unfold gbytes; rw [uh HE5,uh HE4,uh HL2,uh HLN,uh HFZ,uh HGE]
    by_cases hb5 : R5.length <= 65536
    ·have HF : Hid (GEnc q.kind (gfl q.kind q.dup q.qos q.retain) true l w (.returned (.tuple #[.slice va5 R5.length vc5,.int .i64 0])) w5) := ⟨uh HB5,.inr (.inr ⟨rfl,by rw [uh HG5]; exact hb5,_,rfl,by rw [uh HG5]; exact (uh HR5).mono (by omega)⟩)⟩
     go_wp2
     go_ret2
     exact uh HF
    ·have HF : Hid (GEnc q.kind (gfl q.kind q.dup q.qos q.retain) true l w (.returned (.tuple #[.slice none 0 0,.int .i64 2])) w5) := ⟨uh HB5,.inr (.inl ⟨rfl,by rw [uh HG5]; omega,rfl⟩)⟩
     go_wp2
     go_ret2
     exact uh HF
theorem bsz {s : ByteArray} : s.size = 0 ↔ s = ⟨#[]⟩ := by
 constructor
 ·intro h
  obtain ⟨a⟩ := s
  have : a.size = 0 := h
  rw [Array.size_eq_zero_iff.1 this]
 ·rintro rfl
  rfl
theorem only_reason (P : Pa) : empA P.no_code.no_props = true ↔ (⟨P.kind,false,0,false,⟨#[]⟩,0,⟨#[]⟩,P.props,⟨#[]⟩,false,0,[],[],[],P.code,false,[],[],[]⟩ : Pa) = P := by
 unfold empA
 rw [decide_eq_true_iff]
 obtain ⟨p_kind,p_dup,p_qos,p_retain,p_topic,p_id,p_payload,p_props,p_client,p_clean,p_keep,p_wills,p_user,p_pass,p_code,p_session,p_subs,p_filters,p_codes⟩ := P
 constructor
 ·rintro ⟨⟨e_dup,e_retain,e_clean,e_session⟩,⟨e_qos,e_id,e_keep,e_code⟩,⟨e_topic,e_payload,e_client⟩,e_props,e_wills,e_user,e_pass,e_subs,e_filters,e_codes⟩
  simp only [Pa.mk.injEq]
  exact ⟨trivial,e_dup.symm,e_qos.symm,e_retain.symm,(bsz.1 e_topic).symm,e_id.symm,(bsz.1 e_payload).symm,trivial,(bsz.1 e_client).symm,e_clean.symm,e_keep.symm,(List.length_eq_zero_iff.1 e_wills).symm,(List.length_eq_zero_iff.1 e_user).symm,(List.length_eq_zero_iff.1 e_pass).symm,trivial,e_session.symm,(List.length_eq_zero_iff.1 e_subs).symm,(List.length_eq_zero_iff.1 e_filters).symm,(List.length_eq_zero_iff.1 e_codes).symm⟩
 ·intro h
  simp only [Pa.mk.injEq] at h
  obtain ⟨h_kind,h_dup,h_qos,h_retain,h_topic,h_id,h_payload,h_props,h_client,h_clean,h_keep,h_wills,h_user,h_pass,h_code,h_session,h_subs,h_filters,h_codes⟩ := h
  exact ⟨⟨h_dup.symm,h_retain.symm,h_clean.symm,h_session.symm⟩,⟨h_qos.symm,h_id.symm,h_keep.symm,rfl⟩,⟨bsz.2 h_topic.symm,bsz.2 h_payload.symm,bsz.2 h_client.symm⟩,rfl,List.length_eq_zero_iff.2 h_wills.symm,List.length_eq_zero_iff.2 h_user.symm,List.length_eq_zero_iff.2 h_pass.symm,List.length_eq_zero_iff.2 h_subs.symm,List.length_eq_zero_iff.2 h_filters.symm,List.length_eq_zero_iff.2 h_codes.symm⟩
theorem only_ping (P : Pa) : empA P = true ↔ (⟨P.kind,false,0,false,⟨#[]⟩,0,⟨#[]⟩,[],⟨#[]⟩,false,0,[],[],[],0,false,[],[],[]⟩ : Pa) = P := by
 unfold empA
 rw [decide_eq_true_iff]
 obtain ⟨p_kind,p_dup,p_qos,p_retain,p_topic,p_id,p_payload,p_props,p_client,p_clean,p_keep,p_wills,p_user,p_pass,p_code,p_session,p_subs,p_filters,p_codes⟩ := P
 constructor
 ·rintro ⟨⟨e_dup,e_retain,e_clean,e_session⟩,⟨e_qos,e_id,e_keep,e_code⟩,⟨e_topic,e_payload,e_client⟩,e_props,e_wills,e_user,e_pass,e_subs,e_filters,e_codes⟩
  simp only [Pa.mk.injEq]
  exact ⟨trivial,e_dup.symm,e_qos.symm,e_retain.symm,(bsz.1 e_topic).symm,e_id.symm,(bsz.1 e_payload).symm,(List.length_eq_zero_iff.1 e_props).symm,(bsz.1 e_client).symm,e_clean.symm,e_keep.symm,(List.length_eq_zero_iff.1 e_wills).symm,(List.length_eq_zero_iff.1 e_user).symm,(List.length_eq_zero_iff.1 e_pass).symm,e_code.symm,e_session.symm,(List.length_eq_zero_iff.1 e_subs).symm,(List.length_eq_zero_iff.1 e_filters).symm,(List.length_eq_zero_iff.1 e_codes).symm⟩
 ·intro h
  simp only [Pa.mk.injEq] at h
  obtain ⟨h_kind,h_dup,h_qos,h_retain,h_topic,h_id,h_payload,h_props,h_client,h_clean,h_keep,h_wills,h_user,h_pass,h_code,h_session,h_subs,h_filters,h_codes⟩ := h
  exact ⟨⟨h_dup.symm,h_retain.symm,h_clean.symm,h_session.symm⟩,⟨h_qos.symm,h_id.symm,h_keep.symm,h_code.symm⟩,⟨bsz.2 h_topic.symm,bsz.2 h_payload.symm,bsz.2 h_client.symm⟩,List.length_eq_zero_iff.2 h_props.symm,List.length_eq_zero_iff.2 h_wills.symm,List.length_eq_zero_iff.2 h_user.symm,List.length_eq_zero_iff.2 h_pass.symm,List.length_eq_zero_iff.2 h_subs.symm,List.length_eq_zero_iff.2 h_filters.symm,List.length_eq_zero_iff.2 h_codes.symm⟩
theorem only_connack (P : Pa) : empA P.no_session.no_code.no_props = true ↔ (⟨P.kind,false,0,false,⟨#[]⟩,0,⟨#[]⟩,P.props,⟨#[]⟩,false,0,[],[],[],P.code,P.session,[],[],[]⟩ : Pa) = P := by
 unfold empA
 rw [decide_eq_true_iff]
 obtain ⟨p_kind,p_dup,p_qos,p_retain,p_topic,p_id,p_payload,p_props,p_client,p_clean,p_keep,p_wills,p_user,p_pass,p_code,p_session,p_subs,p_filters,p_codes⟩ := P
 constructor
 ·rintro ⟨⟨e_dup,e_retain,e_clean,e_session⟩,⟨e_qos,e_id,e_keep,e_code⟩,⟨e_topic,e_payload,e_client⟩,e_props,e_wills,e_user,e_pass,e_subs,e_filters,e_codes⟩
  simp only [Pa.mk.injEq]
  exact ⟨trivial,e_dup.symm,e_qos.symm,e_retain.symm,(bsz.1 e_topic).symm,e_id.symm,(bsz.1 e_payload).symm,trivial,(bsz.1 e_client).symm,e_clean.symm,e_keep.symm,(List.length_eq_zero_iff.1 e_wills).symm,(List.length_eq_zero_iff.1 e_user).symm,(List.length_eq_zero_iff.1 e_pass).symm,trivial,trivial,(List.length_eq_zero_iff.1 e_subs).symm,(List.length_eq_zero_iff.1 e_filters).symm,(List.length_eq_zero_iff.1 e_codes).symm⟩
 ·intro h
  simp only [Pa.mk.injEq] at h
  obtain ⟨h_kind,h_dup,h_qos,h_retain,h_topic,h_id,h_payload,h_props,h_client,h_clean,h_keep,h_wills,h_user,h_pass,h_code,h_session,h_subs,h_filters,h_codes⟩ := h
  exact ⟨⟨h_dup.symm,h_retain.symm,h_clean.symm,rfl⟩,⟨h_qos.symm,h_id.symm,h_keep.symm,rfl⟩,⟨bsz.2 h_topic.symm,bsz.2 h_payload.symm,bsz.2 h_client.symm⟩,rfl,List.length_eq_zero_iff.2 h_wills.symm,List.length_eq_zero_iff.2 h_user.symm,List.length_eq_zero_iff.2 h_pass.symm,List.length_eq_zero_iff.2 h_subs.symm,List.length_eq_zero_iff.2 h_filters.symm,List.length_eq_zero_iff.2 h_codes.symm⟩
theorem only_ack (P : Pa) : empA P.no_id.no_code.no_props = true ↔ (⟨P.kind,false,0,false,⟨#[]⟩,P.id,⟨#[]⟩,P.props,⟨#[]⟩,false,0,[],[],[],P.code,false,[],[],[]⟩ : Pa) = P := by
 unfold empA
 rw [decide_eq_true_iff]
 obtain ⟨p_kind,p_dup,p_qos,p_retain,p_topic,p_id,p_payload,p_props,p_client,p_clean,p_keep,p_wills,p_user,p_pass,p_code,p_session,p_subs,p_filters,p_codes⟩ := P
 constructor
 ·rintro ⟨⟨e_dup,e_retain,e_clean,e_session⟩,⟨e_qos,e_id,e_keep,e_code⟩,⟨e_topic,e_payload,e_client⟩,e_props,e_wills,e_user,e_pass,e_subs,e_filters,e_codes⟩
  simp only [Pa.mk.injEq]
  exact ⟨trivial,e_dup.symm,e_qos.symm,e_retain.symm,(bsz.1 e_topic).symm,trivial,(bsz.1 e_payload).symm,trivial,(bsz.1 e_client).symm,e_clean.symm,e_keep.symm,(List.length_eq_zero_iff.1 e_wills).symm,(List.length_eq_zero_iff.1 e_user).symm,(List.length_eq_zero_iff.1 e_pass).symm,trivial,e_session.symm,(List.length_eq_zero_iff.1 e_subs).symm,(List.length_eq_zero_iff.1 e_filters).symm,(List.length_eq_zero_iff.1 e_codes).symm⟩
 ·intro h
  simp only [Pa.mk.injEq] at h
  obtain ⟨h_kind,h_dup,h_qos,h_retain,h_topic,h_id,h_payload,h_props,h_client,h_clean,h_keep,h_wills,h_user,h_pass,h_code,h_session,h_subs,h_filters,h_codes⟩ := h
  exact ⟨⟨h_dup.symm,h_retain.symm,h_clean.symm,h_session.symm⟩,⟨h_qos.symm,rfl,h_keep.symm,rfl⟩,⟨bsz.2 h_topic.symm,bsz.2 h_payload.symm,bsz.2 h_client.symm⟩,rfl,List.length_eq_zero_iff.2 h_wills.symm,List.length_eq_zero_iff.2 h_user.symm,List.length_eq_zero_iff.2 h_pass.symm,List.length_eq_zero_iff.2 h_subs.symm,List.length_eq_zero_iff.2 h_filters.symm,List.length_eq_zero_iff.2 h_codes.symm⟩
theorem only_subs (P : Pa) : empA P.no_id.no_props.no_subs = true ↔ (⟨P.kind,false,0,false,⟨#[]⟩,P.id,⟨#[]⟩,P.props,⟨#[]⟩,false,0,[],[],[],0,false,P.subs,[],[]⟩ : Pa) = P := by
 unfold empA
 rw [decide_eq_true_iff]
 obtain ⟨p_kind,p_dup,p_qos,p_retain,p_topic,p_id,p_payload,p_props,p_client,p_clean,p_keep,p_wills,p_user,p_pass,p_code,p_session,p_subs,p_filters,p_codes⟩ := P
 constructor
 ·rintro ⟨⟨e_dup,e_retain,e_clean,e_session⟩,⟨e_qos,e_id,e_keep,e_code⟩,⟨e_topic,e_payload,e_client⟩,e_props,e_wills,e_user,e_pass,e_subs,e_filters,e_codes⟩
  simp only [Pa.mk.injEq]
  exact ⟨trivial,e_dup.symm,e_qos.symm,e_retain.symm,(bsz.1 e_topic).symm,trivial,(bsz.1 e_payload).symm,trivial,(bsz.1 e_client).symm,e_clean.symm,e_keep.symm,(List.length_eq_zero_iff.1 e_wills).symm,(List.length_eq_zero_iff.1 e_user).symm,(List.length_eq_zero_iff.1 e_pass).symm,e_code.symm,e_session.symm,trivial,(List.length_eq_zero_iff.1 e_filters).symm,(List.length_eq_zero_iff.1 e_codes).symm⟩
 ·intro h
  simp only [Pa.mk.injEq] at h
  obtain ⟨h_kind,h_dup,h_qos,h_retain,h_topic,h_id,h_payload,h_props,h_client,h_clean,h_keep,h_wills,h_user,h_pass,h_code,h_session,h_subs,h_filters,h_codes⟩ := h
  exact ⟨⟨h_dup.symm,h_retain.symm,h_clean.symm,h_session.symm⟩,⟨h_qos.symm,rfl,h_keep.symm,h_code.symm⟩,⟨bsz.2 h_topic.symm,bsz.2 h_payload.symm,bsz.2 h_client.symm⟩,rfl,List.length_eq_zero_iff.2 h_wills.symm,List.length_eq_zero_iff.2 h_user.symm,List.length_eq_zero_iff.2 h_pass.symm,rfl,List.length_eq_zero_iff.2 h_filters.symm,List.length_eq_zero_iff.2 h_codes.symm⟩
theorem only_filters (P : Pa) : empA P.no_id.no_props.no_filters = true ↔ (⟨P.kind,false,0,false,⟨#[]⟩,P.id,⟨#[]⟩,P.props,⟨#[]⟩,false,0,[],[],[],0,false,[],P.filters,[]⟩ : Pa) = P := by
 unfold empA
 rw [decide_eq_true_iff]
 obtain ⟨p_kind,p_dup,p_qos,p_retain,p_topic,p_id,p_payload,p_props,p_client,p_clean,p_keep,p_wills,p_user,p_pass,p_code,p_session,p_subs,p_filters,p_codes⟩ := P
 constructor
 ·rintro ⟨⟨e_dup,e_retain,e_clean,e_session⟩,⟨e_qos,e_id,e_keep,e_code⟩,⟨e_topic,e_payload,e_client⟩,e_props,e_wills,e_user,e_pass,e_subs,e_filters,e_codes⟩
  simp only [Pa.mk.injEq]
  exact ⟨trivial,e_dup.symm,e_qos.symm,e_retain.symm,(bsz.1 e_topic).symm,trivial,(bsz.1 e_payload).symm,trivial,(bsz.1 e_client).symm,e_clean.symm,e_keep.symm,(List.length_eq_zero_iff.1 e_wills).symm,(List.length_eq_zero_iff.1 e_user).symm,(List.length_eq_zero_iff.1 e_pass).symm,e_code.symm,e_session.symm,(List.length_eq_zero_iff.1 e_subs).symm,trivial,(List.length_eq_zero_iff.1 e_codes).symm⟩
 ·intro h
  simp only [Pa.mk.injEq] at h
  obtain ⟨h_kind,h_dup,h_qos,h_retain,h_topic,h_id,h_payload,h_props,h_client,h_clean,h_keep,h_wills,h_user,h_pass,h_code,h_session,h_subs,h_filters,h_codes⟩ := h
  exact ⟨⟨h_dup.symm,h_retain.symm,h_clean.symm,h_session.symm⟩,⟨h_qos.symm,rfl,h_keep.symm,h_code.symm⟩,⟨bsz.2 h_topic.symm,bsz.2 h_payload.symm,bsz.2 h_client.symm⟩,rfl,List.length_eq_zero_iff.2 h_wills.symm,List.length_eq_zero_iff.2 h_user.symm,List.length_eq_zero_iff.2 h_pass.symm,List.length_eq_zero_iff.2 h_subs.symm,rfl,List.length_eq_zero_iff.2 h_codes.symm⟩
theorem only_codes (P : Pa) : empA P.no_id.no_props.no_codes = true ↔ (⟨P.kind,false,0,false,⟨#[]⟩,P.id,⟨#[]⟩,P.props,⟨#[]⟩,false,0,[],[],[],0,false,[],[],P.codes⟩ : Pa) = P := by
 unfold empA
 rw [decide_eq_true_iff]
 obtain ⟨p_kind,p_dup,p_qos,p_retain,p_topic,p_id,p_payload,p_props,p_client,p_clean,p_keep,p_wills,p_user,p_pass,p_code,p_session,p_subs,p_filters,p_codes⟩ := P
 constructor
 ·rintro ⟨⟨e_dup,e_retain,e_clean,e_session⟩,⟨e_qos,e_id,e_keep,e_code⟩,⟨e_topic,e_payload,e_client⟩,e_props,e_wills,e_user,e_pass,e_subs,e_filters,e_codes⟩
  simp only [Pa.mk.injEq]
  exact ⟨trivial,e_dup.symm,e_qos.symm,e_retain.symm,(bsz.1 e_topic).symm,trivial,(bsz.1 e_payload).symm,trivial,(bsz.1 e_client).symm,e_clean.symm,e_keep.symm,(List.length_eq_zero_iff.1 e_wills).symm,(List.length_eq_zero_iff.1 e_user).symm,(List.length_eq_zero_iff.1 e_pass).symm,e_code.symm,e_session.symm,(List.length_eq_zero_iff.1 e_subs).symm,(List.length_eq_zero_iff.1 e_filters).symm,trivial⟩
 ·intro h
  simp only [Pa.mk.injEq] at h
  obtain ⟨h_kind,h_dup,h_qos,h_retain,h_topic,h_id,h_payload,h_props,h_client,h_clean,h_keep,h_wills,h_user,h_pass,h_code,h_session,h_subs,h_filters,h_codes⟩ := h
  exact ⟨⟨h_dup.symm,h_retain.symm,h_clean.symm,h_session.symm⟩,⟨h_qos.symm,rfl,h_keep.symm,h_code.symm⟩,⟨bsz.2 h_topic.symm,bsz.2 h_payload.symm,bsz.2 h_client.symm⟩,rfl,List.length_eq_zero_iff.2 h_wills.symm,List.length_eq_zero_iff.2 h_user.symm,List.length_eq_zero_iff.2 h_pass.symm,List.length_eq_zero_iff.2 h_subs.symm,List.length_eq_zero_iff.2 h_filters.symm,rfl⟩
theorem only_pub (P : Pa) : empA P.no_dup.no_retain.no_topic.no_qos.no_id.no_props.no_payload = true ↔ (⟨P.kind,P.dup,P.qos,P.retain,P.topic,P.id,P.payload,P.props,⟨#[]⟩,false,0,[],[],[],0,false,[],[],[]⟩ : Pa) = P := by
 unfold empA
 rw [decide_eq_true_iff]
 obtain ⟨p_kind,p_dup,p_qos,p_retain,p_topic,p_id,p_payload,p_props,p_client,p_clean,p_keep,p_wills,p_user,p_pass,p_code,p_session,p_subs,p_filters,p_codes⟩ := P
 constructor
 ·rintro ⟨⟨e_dup,e_retain,e_clean,e_session⟩,⟨e_qos,e_id,e_keep,e_code⟩,⟨e_topic,e_payload,e_client⟩,e_props,e_wills,e_user,e_pass,e_subs,e_filters,e_codes⟩
  simp only [Pa.mk.injEq]
  exact ⟨trivial,trivial,trivial,trivial,trivial,trivial,trivial,trivial,(bsz.1 e_client).symm,e_clean.symm,e_keep.symm,(List.length_eq_zero_iff.1 e_wills).symm,(List.length_eq_zero_iff.1 e_user).symm,(List.length_eq_zero_iff.1 e_pass).symm,e_code.symm,e_session.symm,(List.length_eq_zero_iff.1 e_subs).symm,(List.length_eq_zero_iff.1 e_filters).symm,(List.length_eq_zero_iff.1 e_codes).symm⟩
 ·intro h
  simp only [Pa.mk.injEq] at h
  obtain ⟨h_kind,h_dup,h_qos,h_retain,h_topic,h_id,h_payload,h_props,h_client,h_clean,h_keep,h_wills,h_user,h_pass,h_code,h_session,h_subs,h_filters,h_codes⟩ := h
  exact ⟨⟨rfl,rfl,h_clean.symm,h_session.symm⟩,⟨rfl,rfl,h_keep.symm,h_code.symm⟩,⟨rfl,rfl,bsz.2 h_client.symm⟩,rfl,List.length_eq_zero_iff.2 h_wills.symm,List.length_eq_zero_iff.2 h_user.symm,List.length_eq_zero_iff.2 h_pass.symm,List.length_eq_zero_iff.2 h_subs.symm,List.length_eq_zero_iff.2 h_filters.symm,List.length_eq_zero_iff.2 h_codes.symm⟩
theorem only_conn (P : Pa) : empA P.no_clean.no_keep.no_props.no_client.no_wills.no_user.no_pass = true ↔ (⟨P.kind,false,0,false,⟨#[]⟩,0,⟨#[]⟩,P.props,P.client,P.clean,P.keep,P.wills,P.user,P.pass,0,false,[],[],[]⟩ : Pa) = P := by
 unfold empA
 rw [decide_eq_true_iff]
 obtain ⟨p_kind,p_dup,p_qos,p_retain,p_topic,p_id,p_payload,p_props,p_client,p_clean,p_keep,p_wills,p_user,p_pass,p_code,p_session,p_subs,p_filters,p_codes⟩ := P
 constructor
 ·rintro ⟨⟨e_dup,e_retain,e_clean,e_session⟩,⟨e_qos,e_id,e_keep,e_code⟩,⟨e_topic,e_payload,e_client⟩,e_props,e_wills,e_user,e_pass,e_subs,e_filters,e_codes⟩
  simp only [Pa.mk.injEq]
  exact ⟨trivial,e_dup.symm,e_qos.symm,e_retain.symm,(bsz.1 e_topic).symm,e_id.symm,(bsz.1 e_payload).symm,trivial,trivial,trivial,trivial,trivial,trivial,trivial,e_code.symm,e_session.symm,(List.length_eq_zero_iff.1 e_subs).symm,(List.length_eq_zero_iff.1 e_filters).symm,(List.length_eq_zero_iff.1 e_codes).symm⟩
 ·intro h
  simp only [Pa.mk.injEq] at h
  obtain ⟨h_kind,h_dup,h_qos,h_retain,h_topic,h_id,h_payload,h_props,h_client,h_clean,h_keep,h_wills,h_user,h_pass,h_code,h_session,h_subs,h_filters,h_codes⟩ := h
  exact ⟨⟨h_dup.symm,h_retain.symm,rfl,h_session.symm⟩,⟨h_qos.symm,h_id.symm,rfl,h_code.symm⟩,⟨bsz.2 h_topic.symm,bsz.2 h_payload.symm,rfl⟩,rfl,rfl,rfl,rfl,List.length_eq_zero_iff.2 h_subs.symm,List.length_eq_zero_iff.2 h_filters.symm,List.length_eq_zero_iff.2 h_codes.symm⟩
def tlB (P : Pa) (c E : Bool) : Bool := c && (E && (decide (P.props.length = 0) || okP P.kind P.props))
theorem may_reason (q : Pkv) (P : Pa) (w : World) (hR : RPk w q P) (hmx : P.props.length <= 1000000000) (hsm : Go.Proofs.YtemedclhglkfjaaGreatDoor.Small P.props) (E : Bool) (hEQ : ∀ W,Below w.heap.size w W -> Calls Tryz.prog 12 #[.agg ((xk q).wi_code q.code).cells.toArray,.agg q.cells.toArray] W fun e w' => e = .returned (.bool E) /\ Below W.heap.size W w') (hk : P.kind = 14 \/ P.kind = 15) :
  Calls Tryz.prog 27 #[q.val] w fun e w' => e = .returned (.bool (tlB P (codeO q.code) E)) /\ Below w.heap.size w w' := by
 have HEQ := zh hEQ
 have HSM := zh hsm
 have HRP := zh hR.props
 have HQN := zh hR.cnt.ns.1
 have HKP := zh hR.sc.1
 have hk2 := hk
 rw [<- hR.sc.1] at hk2
 have HKK := zh hk2
 have HSC := zh hR
 clear hEQ hsm hR hk hk2
 have HPN := zh (pk_new w q)
 have HMN := zh (ms_new w q)
 have HX : Hid ((w.alloc (.cells q.cells.toArray 30)).heap.size = w.heap.size + 1) := by show _ = _; simp
 go_enter Tryz.func27,Tryz.ntmps27
 go_upto_region 1 with fail
 change Code.wp _ _ _ _ (w.alloc (.cells q.cells.toArray 30))
 generalize w.alloc (.cells q.cells.toArray 30) = wa at HPN HMN HX |-
 have c0 := (uh HPN).kind
 have c7 := (uh HPN).props
 iterate 13 go_step
 refine Go.Proofs.YtemedclhglkfjaaGreatDoor.wpList_value rfl (packet_build2 _ _ _ _ _ _ _ q rfl rfl _) ?_
 simp only [Act.put,List.setIfInBounds_toArray,List.set_cons_zero,List.set_cons_succ]
 refine Go.Proofs.YtemedclhglkfjaaGreatDoor.wpList_value rfl (mpacket_alloc _ _ _ _ _ _) ?_
 simp only [Act.put,List.setIfInBounds_toArray,List.set_cons_zero,List.set_cons_succ]
 refine Go.Proofs.YtemedclhglkfjaaGreatDoor.wpList_skip rfl (mpacket_store _ _ _ _ _ _ _ (xk q) wa rfl rfl) ?_
 simp only [Act.put]
 have HM : Hid (MS w (wa.alloc (.cells (xk q).cells.toArray 30)) w.heap.size wa.heap.size q (xk q)) := by rw [uh HX]; exact uh HMN
 generalize wa.alloc (.cells (xk q).cells.toArray 30) = w1 at HM |-
 generalize wa.heap.size = X at HM |-
 generalize hBB : w.heap.size = B at HM |-
 have HBB := zh hBB
 clear c0 c7 HPN HMN HX hBB
 have c0 := (uh HM).pb.kind
 rcases uh HKK with hk | hk <;> rw [hk] at c0 <;> clear hk
 all_goals (
  have b14 := (uh HM).pb.code
  have x14 := (uh HM).px.code
  have y14 := (uh HM).px.code_f
  go_upto_region 54 with fail
  have HM2 := zh ((uh HM).wi_code q.code)
  generalize w1.setCell ⟨X,14,none⟩ (.int .i64 q.code) = w2 at HM2 |-
  clear HM b14 x14 y14 c0
  have HM := HM2
  clear HM2
  have b14 := (uh HM).pb.code
  go_wp2_with fail
  refine (gcode_any q.code _).mono ?_
  rintro e w3 ⟨rfl,hw3⟩
  obtain rfl := hw3.symm
  clear hw3 b14
  have HCD : Hid True := trivial
  generalize hcc : codeO q.code = c
  have HCC := zh hcc
  clear hcc
  cases c
  ·have HR : Hid (tlB P (codeO q.code) E = false) := by show _ = _; rw [uh HCC]; rfl
   go_wp2
   go_ret
   exact ⟨by rw [uh HR]; rfl,(uh HM).bel⟩
  ·go_upto_region 55 with fail
   iterate 7 go_step
   refine mpList_wanted (by rfl) fun K hK => wp_load_mid 30 _ rfl X 0 rfl ((xk q).wi_code q.code).cells _ (uh HM).px.range Tryz.underlying30 rfl packet_size (hK _ _ ?_)
   clear hK K
   simp only [Act.put,List.setIfInBounds_toArray,List.set_cons_zero,List.set_cons_succ]
   refine mpList_wanted (by rfl) fun K hK => wp_load_mid 30 _ rfl B 0 rfl q.cells _ (uh HM).pb.range Tryz.underlying30 rfl packet_size (hK _ _ ?_)
   clear hK K
   simp only [Act.put,List.setIfInBounds_toArray,List.set_cons_zero,List.set_cons_succ]
   go_wp2_with fail
   refine ((uh HEQ) _ (uh HM).bel).mono ?_
   rintro e wz ⟨rfl,hbz⟩
   have HZ := zh ((uh HM).below hbz)
   clear hbz HM
   have z0 := (uh HZ).pb.kind
   have z7 := (uh HZ).pb.props
   rw [show q.props.val = .slice q.props.ao q.props.n q.props.cap from rfl,uh HQN] at z7
   cases E
   ·have HR : Hid (tlB P (codeO q.code) false = false) := by show _ = _; rw [uh HCC]; rfl
    go_wp2
    go_ret
    exact ⟨by rw [uh HR]; rfl,(uh HZ).bel⟩
   ·by_cases hp0 : P.props.length = 0
    ·have HR : Hid (tlB P (codeO q.code) true = true) := by show _ = _; unfold tlB; rw [uh HCC,decide_eq_true hp0]; rfl
     rw [hp0] at z7
     clear hp0
     go_wp2
     go_ret
     exact ⟨by rw [uh HR]; rfl,(uh HZ).bel⟩
    ·have HR : Hid (tlB P (codeO q.code) true = okP P.kind P.props) := by show _ = _; unfold tlB; rw [uh HCC,decide_eq_false hp0]; rfl
     have hp1 : ((P.props.length : Int) == 0) = false := beq_false_of_ne (by omega)
     clear hp0
     rw [uh HKP] at z0
     go_wp2_with fail
     refine (gprops_any _ P.props P.kind _ (by rw [<- uh HQN]; exact (uh HRP).below (uh HZ).bel) hmx (uh HSM)).mono ?_
     rintro e wy ⟨rfl,hby⟩
     have HY := zh ((uh HZ).below hby)
     clear hby HZ
     go_wp2
     go_ret
     exact ⟨by rw [uh HR]; rfl,(uh HY).bel⟩)
theorem may_ping (q : Pkv) (P : Pa) (w : World) (hR : RPk w q P) (hmx : P.props.length <= 1000000000) (hsm : Go.Proofs.YtemedclhglkfjaaGreatDoor.Small P.props) (E : Bool) (hEQ : ∀ W,Below w.heap.size w W -> Calls Tryz.prog 12 #[.agg ((xk q).wi_props sl0).cells.toArray,.agg q.cells.toArray] W fun e w' => e = .returned (.bool E) /\ Below W.heap.size W w') (hk : P.kind = 12 \/ P.kind = 13) :
  Calls Tryz.prog 27 #[q.val] w fun e w' => e = .returned (.bool (tlB P (true) E)) /\ Below w.heap.size w w' := by
 have HEQ := zh hEQ
 have HSM := zh hsm
 have HRP := zh hR.props
 have HQN := zh hR.cnt.ns.1
 have HKP := zh hR.sc.1
 have hk2 := hk
 rw [<- hR.sc.1] at hk2
 have HKK := zh hk2
 have HSC := zh hR
 clear hEQ hsm hR hk hk2
 have HPN := zh (pk_new w q)
 have HMN := zh (ms_new w q)
 have HX : Hid ((w.alloc (.cells q.cells.toArray 30)).heap.size = w.heap.size + 1) := by show _ = _; simp
 go_enter Tryz.func27,Tryz.ntmps27
 go_upto_region 1 with fail
 change Code.wp _ _ _ _ (w.alloc (.cells q.cells.toArray 30))
 generalize w.alloc (.cells q.cells.toArray 30) = wa at HPN HMN HX |-
 have c0 := (uh HPN).kind
 have c7 := (uh HPN).props
 iterate 13 go_step
 refine Go.Proofs.YtemedclhglkfjaaGreatDoor.wpList_value rfl (packet_build2 _ _ _ _ _ _ _ q rfl rfl _) ?_
 simp only [Act.put,List.setIfInBounds_toArray,List.set_cons_zero,List.set_cons_succ]
 refine Go.Proofs.YtemedclhglkfjaaGreatDoor.wpList_value rfl (mpacket_alloc _ _ _ _ _ _) ?_
 simp only [Act.put,List.setIfInBounds_toArray,List.set_cons_zero,List.set_cons_succ]
 refine Go.Proofs.YtemedclhglkfjaaGreatDoor.wpList_skip rfl (mpacket_store _ _ _ _ _ _ _ (xk q) wa rfl rfl) ?_
 simp only [Act.put]
 have HM : Hid (MS w (wa.alloc (.cells (xk q).cells.toArray 30)) w.heap.size wa.heap.size q (xk q)) := by rw [uh HX]; exact uh HMN
 generalize wa.alloc (.cells (xk q).cells.toArray 30) = w1 at HM |-
 generalize wa.heap.size = X at HM |-
 generalize hBB : w.heap.size = B at HM |-
 have HBB := zh hBB
 clear c0 c7 HPN HMN HX hBB
 have c0 := (uh HM).pb.kind
 rcases uh HKK with hk | hk <;> rw [hk] at c0 <;> clear hk
 all_goals (
  have x7 := (uh HM).px.props
  have y7 := (uh HM).px.props_f
  rw [show (xk q).props.val = .slice q.props.ao q.props.n q.props.cap from rfl] at x7
  go_upto_region 55 with fail
  have HM2 := zh ((uh HM).wi_props sl0)
  rw [show sl0.val = .slice none 0 0 from rfl] at HM2
  generalize w1.setCell ⟨X,7,none⟩ (.slice none 0 0) = w2 at HM2 |-
  clear HM x7 y7 c0
  have HM := HM2
  clear HM2
  iterate 7 go_step
  refine mpList_wanted (by rfl) fun K hK => wp_load_mid 30 _ rfl X 0 rfl ((xk q).wi_props sl0).cells _ (uh HM).px.range Tryz.underlying30 rfl packet_size (hK _ _ ?_)
  clear hK K
  simp only [Act.put,List.setIfInBounds_toArray,List.set_cons_zero,List.set_cons_succ]
  refine mpList_wanted (by rfl) fun K hK => wp_load_mid 30 _ rfl B 0 rfl q.cells _ (uh HM).pb.range Tryz.underlying30 rfl packet_size (hK _ _ ?_)
  clear hK K
  simp only [Act.put,List.setIfInBounds_toArray,List.set_cons_zero,List.set_cons_succ]
  go_wp2_with fail
  refine ((uh HEQ) _ (uh HM).bel).mono ?_
  rintro e wz ⟨rfl,hbz⟩
  have HZ := zh ((uh HM).below hbz)
  clear hbz HM
  have z0 := (uh HZ).pb.kind
  have z7 := (uh HZ).pb.props
  rw [show q.props.val = .slice q.props.ao q.props.n q.props.cap from rfl,uh HQN] at z7
  cases E
  ·have HR : Hid (tlB P true false = false) := rfl
   go_wp2
   go_ret
   exact ⟨by rw [uh HR]; rfl,(uh HZ).bel⟩
  ·by_cases hp0 : P.props.length = 0
   ·have HR : Hid (tlB P true true = true) := by show _ = _; unfold tlB; rw [decide_eq_true hp0]; rfl
    rw [hp0] at z7
    clear hp0
    go_wp2
    go_ret
    exact ⟨by rw [uh HR]; rfl,(uh HZ).bel⟩
   ·have HR : Hid (tlB P true true = okP P.kind P.props) := by show _ = _; unfold tlB; rw [decide_eq_false hp0]; rfl
    have hp1 : ((P.props.length : Int) == 0) = false := beq_false_of_ne (by omega)
    clear hp0
    rw [uh HKP] at z0
    go_wp2_with fail
    refine (gprops_any _ P.props P.kind _ (by rw [<- uh HQN]; exact (uh HRP).below (uh HZ).bel) hmx (uh HSM)).mono ?_
    rintro e wy ⟨rfl,hby⟩
    have HY := zh ((uh HZ).below hby)
    clear hby HZ
    go_wp2
    go_ret
    exact ⟨by rw [uh HR]; rfl,(uh HY).bel⟩)
theorem may_connack (q : Pkv) (P : Pa) (w : World) (hR : RPk w q P) (hmx : P.props.length <= 1000000000) (hsm : Go.Proofs.YtemedclhglkfjaaGreatDoor.Small P.props) (E : Bool) (hEQ : ∀ W,Below w.heap.size w W -> Calls Tryz.prog 12 #[.agg (((xk q).wi_session q.session).wi_code q.code).cells.toArray,.agg q.cells.toArray] W fun e w' => e = .returned (.bool E) /\ Below W.heap.size W w') (hk : P.kind = 2) :
  Calls Tryz.prog 27 #[q.val] w fun e w' => e = .returned (.bool (tlB P (codeO q.code) E)) /\ Below w.heap.size w w' := by
 have HEQ := zh hEQ
 have HMX0 := zh hmx
 have HSM := zh hsm
 have HRP := zh hR.props
 have HQN := zh hR.cnt.ns.1
 have HKP := zh hR.sc.1
 have hk2 := hk
 rw [<- hR.sc.1] at hk2
 have HKK := zh hk2
 have HSC := zh hR
 clear hEQ hsm hR hk hk2
 have HPN := zh (pk_new w q)
 have HMN := zh (ms_new w q)
 have HX : Hid ((w.alloc (.cells q.cells.toArray 30)).heap.size = w.heap.size + 1) := by show _ = _; simp
 go_enter Tryz.func27,Tryz.ntmps27
 go_upto_region 1 with fail
 change Code.wp _ _ _ _ (w.alloc (.cells q.cells.toArray 30))
 generalize w.alloc (.cells q.cells.toArray 30) = wa at HPN HMN HX |-
 have c0 := (uh HPN).kind
 have c7 := (uh HPN).props
 iterate 13 go_step
 refine Go.Proofs.YtemedclhglkfjaaGreatDoor.wpList_value rfl (packet_build2 _ _ _ _ _ _ _ q rfl rfl _) ?_
 simp only [Act.put,List.setIfInBounds_toArray,List.set_cons_zero,List.set_cons_succ]
 refine Go.Proofs.YtemedclhglkfjaaGreatDoor.wpList_value rfl (mpacket_alloc _ _ _ _ _ _) ?_
 simp only [Act.put,List.setIfInBounds_toArray,List.set_cons_zero,List.set_cons_succ]
 refine Go.Proofs.YtemedclhglkfjaaGreatDoor.wpList_skip rfl (mpacket_store _ _ _ _ _ _ _ (xk q) wa rfl rfl) ?_
 simp only [Act.put]
 have HM : Hid (MS w (wa.alloc (.cells (xk q).cells.toArray 30)) w.heap.size wa.heap.size q (xk q)) := by rw [uh HX]; exact uh HMN
 generalize wa.alloc (.cells (xk q).cells.toArray 30) = w1 at HM |-
 generalize wa.heap.size = X at HM |-
 generalize hBB : w.heap.size = B at HM |-
 have HBB := zh hBB
 clear c0 c7 HPN HMN HX hBB
 have c0 := (uh HM).pb.kind
 rw [uh HKK] at c0
 go_wp2_with fail
 have HMd0 : Hid (MS w w1.drew B X q (xk q)) := (uh HM).below (below_drewN (Below.refl _ _) 1)
 clear HM c0
 refine wp_region_noPanic ?_
 refine wp_region_held_drew (S := (fun w' => w'.cell? ⟨B,15,none⟩ = some (.bool q.session) /\ w'.cell? ⟨B,14,none⟩ = some (.int .i64 q.code))) (by kernel_rfl) ⟨(uh HMd0).pb.session,(uh HMd0).pb.code⟩ (fun hHeld => ?_)
 generalize w1.drew = wd0 at HMd0 hHeld |-
 refine rtk 0 (h := ?_)
 refine rtk 1 (h := ?_)
 refine rtk 2 (h := ?_)
 refine rtk 3 (h := ?_)
 refine rtk 4 (h := ?_)
 have x15 := (uh HMd0).px.session
 have y15 := (uh HMd0).px.session_f
 have HMd1 := zh ((uh HMd0).wi_session q.session)
 refine rcl 5 (h := fun K hK => ?_)
 go_simp
 refine hK.out _ _ ⟨(uh HMd1).pb.session,(uh HMd1).pb.code⟩ (fun hHeld => ?_)
 clear hK K x15 y15 HMd0
 generalize World.setCell _ ⟨X,15,none⟩ (.bool q.session) = wd1 at HMd1 hHeld |-
 refine rtk 6 (h := ?_)
 have x14 := (uh HMd1).px.code
 have y14 := (uh HMd1).px.code_f
 have HMd2 := zh ((uh HMd1).wi_code q.code)
 refine rcl 7 (h := fun K hK => ?_)
 go_simp
 refine hK.out _ _ ⟨(uh HMd2).pb.session,(uh HMd2).pb.code⟩ (fun hHeld => ?_)
 clear hK K x14 y14 HMd1
 generalize World.setCell _ ⟨X,14,none⟩ (.int .i64 q.code) = wd2 at HMd2 hHeld |-
 refine wpAnyH_done (by kernel_rfl) ?_ _
 refine NoPanic.normal ?_
 have HM := HMd2
 clear HMd2 hHeld
 have b14 := (uh HM).pb.code
 go_wp2_with fail
 refine (gcode_any q.code _).mono ?_
 rintro e w3 ⟨rfl,hw3⟩
 obtain rfl := hw3.symm
 clear hw3 b14
 generalize hcc : codeO q.code = c
 have HCC := zh hcc
 clear hcc
 cases c
 ·have HR : Hid (tlB P (codeO q.code) E = false) := by show _ = _; rw [uh HCC]; rfl
  go_wp2
  go_ret
  exact ⟨by rw [uh HR]; rfl,(uh HM).bel⟩
 ·go_upto_region 55 with fail
  iterate 7 go_step
  refine mpList_wanted (by rfl) fun K hK => wp_load_mid 30 _ rfl X 0 rfl (((xk q).wi_session q.session).wi_code q.code).cells _ (uh HM).px.range Tryz.underlying30 rfl packet_size (hK _ _ ?_)
  clear hK K
  simp only [Act.put,List.setIfInBounds_toArray,List.set_cons_zero,List.set_cons_succ]
  refine mpList_wanted (by rfl) fun K hK => wp_load_mid 30 _ rfl B 0 rfl q.cells _ (uh HM).pb.range Tryz.underlying30 rfl packet_size (hK _ _ ?_)
  clear hK K
  simp only [Act.put,List.setIfInBounds_toArray,List.set_cons_zero,List.set_cons_succ]
  go_wp2_with fail
  refine ((uh HEQ) _ (uh HM).bel).mono ?_
  rintro e wz ⟨rfl,hbz⟩
  have HZ := zh ((uh HM).below hbz)
  clear hbz HM
  have z0 := (uh HZ).pb.kind
  have z7 := (uh HZ).pb.props
  rw [show q.props.val = .slice q.props.ao q.props.n q.props.cap from rfl,uh HQN] at z7
  cases E
  ·have HR : Hid (tlB P (codeO q.code) false = false) := by show _ = _; rw [uh HCC]; rfl
   go_wp2
   go_ret
   exact ⟨by rw [uh HR]; rfl,(uh HZ).bel⟩
  ·by_cases hp0 : P.props.length = 0
   ·have HR : Hid (tlB P (codeO q.code) true = true) := by show _ = _; unfold tlB; rw [uh HCC,decide_eq_true hp0]; rfl
    rw [hp0] at z7
    clear hp0
    go_wp2
    go_ret
    exact ⟨by rw [uh HR]; rfl,(uh HZ).bel⟩
   ·have HR : Hid (tlB P (codeO q.code) true = okP P.kind P.props) := by show _ = _; unfold tlB; rw [uh HCC,decide_eq_false hp0]; rfl
    have hp1 : ((P.props.length : Int) == 0) = false := beq_false_of_ne (by omega)
    clear hp0
    rw [uh HKP] at z0
    go_wp2_with fail
    refine (gprops_any _ P.props P.kind _ (by rw [<- uh HQN]; exact (uh HRP).below (uh HZ).bel) hmx (uh HSM)).mono ?_
    rintro e wy ⟨rfl,hby⟩
    have HY := zh ((uh HZ).below hby)
    clear hby HZ
    go_wp2
    go_ret
    exact ⟨by rw [uh HR]; rfl,(uh HY).bel⟩
theorem may_ack (q : Pkv) (P : Pa) (w : World) (hR : RPk w q P) (hmx : P.props.length <= 1000000000) (hsm : Go.Proofs.YtemedclhglkfjaaGreatDoor.Small P.props) (E : Bool) (hEQ : ∀ W,Below w.heap.size w W -> Calls Tryz.prog 12 #[.agg (((xk q).wi_id q.id).wi_code q.code).cells.toArray,.agg q.cells.toArray] W fun e w' => e = .returned (.bool E) /\ Below W.heap.size W w') (hk : P.kind = 4 \/ P.kind = 5 \/ P.kind = 6 \/ P.kind = 7) :
  Calls Tryz.prog 27 #[q.val] w fun e w' => e = .returned (.bool (tlB P (idO q.id && codeO q.code) E)) /\ Below w.heap.size w w' := by
 have HEQ := zh hEQ
 have HMX0 := zh hmx
 have HSM := zh hsm
 have HRP := zh hR.props
 have HQN := zh hR.cnt.ns.1
 have HKP := zh hR.sc.1
 have hk2 := hk
 rw [<- hR.sc.1] at hk2
 have HKK := zh hk2
 have HSC := zh hR
 clear hEQ hsm hR hk hk2
 have HPN := zh (pk_new w q)
 have HMN := zh (ms_new w q)
 have HX : Hid ((w.alloc (.cells q.cells.toArray 30)).heap.size = w.heap.size + 1) := by show _ = _; simp
 go_enter Tryz.func27,Tryz.ntmps27
 go_upto_region 1 with fail
 change Code.wp _ _ _ _ (w.alloc (.cells q.cells.toArray 30))
 generalize w.alloc (.cells q.cells.toArray 30) = wa at HPN HMN HX |-
 have c0 := (uh HPN).kind
 have c7 := (uh HPN).props
 iterate 13 go_step
 refine Go.Proofs.YtemedclhglkfjaaGreatDoor.wpList_value rfl (packet_build2 _ _ _ _ _ _ _ q rfl rfl _) ?_
 simp only [Act.put,List.setIfInBounds_toArray,List.set_cons_zero,List.set_cons_succ]
 refine Go.Proofs.YtemedclhglkfjaaGreatDoor.wpList_value rfl (mpacket_alloc _ _ _ _ _ _) ?_
 simp only [Act.put,List.setIfInBounds_toArray,List.set_cons_zero,List.set_cons_succ]
 refine Go.Proofs.YtemedclhglkfjaaGreatDoor.wpList_skip rfl (mpacket_store _ _ _ _ _ _ _ (xk q) wa rfl rfl) ?_
 simp only [Act.put]
 have HM : Hid (MS w (wa.alloc (.cells (xk q).cells.toArray 30)) w.heap.size wa.heap.size q (xk q)) := by rw [uh HX]; exact uh HMN
 generalize wa.alloc (.cells (xk q).cells.toArray 30) = w1 at HM |-
 generalize wa.heap.size = X at HM |-
 generalize hBB : w.heap.size = B at HM |-
 have HBB := zh hBB
 clear c0 c7 HPN HMN HX hBB
 have c0 := (uh HM).pb.kind
 rcases uh HKK with hk | hk | hk | hk <;> rw [hk] at c0 <;> clear hk
 all_goals (
  go_wp2_with fail
  have HMd0 : Hid (MS w w1.drew B X q (xk q)) := (uh HM).below (below_drewN (Below.refl _ _) 1)
  clear HM c0
  refine wp_region_noPanic ?_
  refine wp_region_held_drew (S := (fun w' => w'.cell? ⟨B,5,none⟩ = some (.int .i64 q.id) /\ w'.cell? ⟨B,14,none⟩ = some (.int .i64 q.code))) (by kernel_rfl) ⟨(uh HMd0).pb.id,(uh HMd0).pb.code⟩ (fun hHeld => ?_)
  generalize w1.drew = wd0 at HMd0 hHeld |-
  refine rtk 0 (h := ?_)
  refine rtk 1 (h := ?_)
  refine rtk 2 (h := ?_)
  refine rtk 3 (h := ?_)
  refine rtk 4 (h := ?_)
  have x5 := (uh HMd0).px.id
  have y5 := (uh HMd0).px.id_f
  have HMd1 := zh ((uh HMd0).wi_id q.id)
  refine rcl 5 (h := fun K hK => ?_)
  go_simp
  refine hK.out _ _ ⟨(uh HMd1).pb.id,(uh HMd1).pb.code⟩ (fun hHeld => ?_)
  clear hK K x5 y5 HMd0
  generalize World.setCell _ ⟨X,5,none⟩ (.int .i64 q.id) = wd1 at HMd1 hHeld |-
  refine rtk 6 (h := ?_)
  have x14 := (uh HMd1).px.code
  have y14 := (uh HMd1).px.code_f
  have HMd2 := zh ((uh HMd1).wi_code q.code)
  refine rcl 7 (h := fun K hK => ?_)
  go_simp
  refine hK.out _ _ ⟨(uh HMd2).pb.id,(uh HMd2).pb.code⟩ (fun hHeld => ?_)
  clear hK K x14 y14 HMd1
  generalize World.setCell _ ⟨X,14,none⟩ (.int .i64 q.code) = wd2 at HMd2 hHeld |-
  refine wpAnyH_done (by kernel_rfl) ?_ _
  refine NoPanic.normal ?_
  have HM := HMd2
  clear HMd2 hHeld
  have b5 := (uh HM).pb.id
  have b14 := (uh HM).pb.code
  go_wp2_with fail
  refine (gid_any q.id _).mono ?_
  rintro e w3 ⟨rfl,hw3⟩
  obtain rfl := hw3.symm
  clear hw3
  cases hid : idO q.id
  ·have HR : Hid (tlB P (idO q.id && codeO q.code) E = false) := by show _ = _; rw [hid]; rfl
   go_wp2
   go_ret
   exact ⟨by rw [uh HR]; rfl,(uh HM).bel⟩
  ·have HID := zh hid
   clear hid
   go_wp2_with fail
   refine (gcode_any q.code _).mono ?_
   rintro e w4 ⟨rfl,hw4⟩
   obtain rfl := hw4.symm
   clear hw4 b5 b14
   generalize hcc : codeO q.code = c
   have HCC := zh hcc
   clear hcc
   cases c
   ·have HR : Hid (tlB P (idO q.id && codeO q.code) E = false) := by show _ = _; rw [uh HID,uh HCC]; rfl
    go_wp2
    go_ret
    exact ⟨by rw [uh HR]; rfl,(uh HM).bel⟩
   ·go_upto_region 55 with fail
    iterate 7 go_step
    refine mpList_wanted (by rfl) fun K hK => wp_load_mid 30 _ rfl X 0 rfl (((xk q).wi_id q.id).wi_code q.code).cells _ (uh HM).px.range Tryz.underlying30 rfl packet_size (hK _ _ ?_)
    clear hK K
    simp only [Act.put,List.setIfInBounds_toArray,List.set_cons_zero,List.set_cons_succ]
    refine mpList_wanted (by rfl) fun K hK => wp_load_mid 30 _ rfl B 0 rfl q.cells _ (uh HM).pb.range Tryz.underlying30 rfl packet_size (hK _ _ ?_)
    clear hK K
    simp only [Act.put,List.setIfInBounds_toArray,List.set_cons_zero,List.set_cons_succ]
    go_wp2_with fail
    refine ((uh HEQ) _ (uh HM).bel).mono ?_
    rintro e wz ⟨rfl,hbz⟩
    have HZ := zh ((uh HM).below hbz)
    clear hbz HM
    have z0 := (uh HZ).pb.kind
    have z7 := (uh HZ).pb.props
    rw [show q.props.val = .slice q.props.ao q.props.n q.props.cap from rfl,uh HQN] at z7
    cases E
    ·have HR : Hid (tlB P (idO q.id && codeO q.code) false = false) := by show _ = _; rw [uh HID,uh HCC]; rfl
     go_wp2
     go_ret
     exact ⟨by rw [uh HR]; rfl,(uh HZ).bel⟩
    ·by_cases hp0 : P.props.length = 0
     ·have HR : Hid (tlB P (idO q.id && codeO q.code) true = true) := by show _ = _; unfold tlB; rw [uh HID,uh HCC,decide_eq_true hp0]; rfl
      rw [hp0] at z7
      clear hp0
      go_wp2
      go_ret
      exact ⟨by rw [uh HR]; rfl,(uh HZ).bel⟩
     ·have HR : Hid (tlB P (idO q.id && codeO q.code) true = okP P.kind P.props) := by show _ = _; unfold tlB; rw [uh HID,uh HCC,decide_eq_false hp0]; rfl
      have hp1 : ((P.props.length : Int) == 0) = false := beq_false_of_ne (by omega)
      clear hp0
      rw [uh HKP] at z0
      go_wp2_with fail
      refine (gprops_any _ P.props P.kind _ (by rw [<- uh HQN]; exact (uh HRP).below (uh HZ).bel) hmx (uh HSM)).mono ?_
      rintro e wy ⟨rfl,hby⟩
      have HY := zh ((uh HZ).below hby)
      clear hby HZ
      go_wp2
      go_ret
      exact ⟨by rw [uh HR]; rfl,(uh HY).bel⟩)
end Go.Proofs.YtemedclhglkfjaaGreatDoor.K
