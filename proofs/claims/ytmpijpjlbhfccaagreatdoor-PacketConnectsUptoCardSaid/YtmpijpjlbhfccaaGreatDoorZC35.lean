/- Helpers of the proof. -/
import Derived.Test.YtmpijpjlbhfccaaGreatDoorZC34
import Derived.Test.YtmpijpjlbhfccaaGreatDoorZC29
set_option maxHeartbeats 20000000
namespace Go.Proofs.YtmpijpjlbhfccaaGreatDoor.K
open Go.RowKit
set_option maxRecDepth 100000
def gbytes (kind f:Int) (l:List Int):List Int:=([16*kind+f]++V.put (l.length:Int))++l
def GEnc (kind f:Int) (c:Bool) (l:List Int) (w:World) (e:Ending) (w':World):Prop:=Below w.heap.size w w' /\
 ((c=false/\e=.returned (.tuple #[.slice none 0 0,.int .i64 1])) \/
  (c=true/\65536<(gbytes kind f l).length/\e=.returned (.tuple #[.slice none 0 0,.int .i64 2])) \/
  (c=true/\(gbytes kind f l).length<=65536/\∃ v,e=.returned (.tuple #[v,.int .i64 0])/\Hid (Rwb w' w.heap.size v (gbytes kind f l))))
theorem gbytes_len (kind f:Int) (l:List Int):(gbytes kind f l).length=1+(V.put (l.length:Int)).length+l.length:=by
 unfold gbytes
 rw[List.length_append,List.length_append]
 rfl
theorem genc_core (q:Pkv) (c:Bool) (l:List Int) (w:World) (hl:l.length<=1200000000)
  (hM:∀ W:World,Below w.heap.size w W->Calls Tryz.prog 27 #[.agg q.cells.toArray] W fun e w'=>e=.returned (.bool c)/\Below W.heap.size W w')
  (hk:c=true->1<=q.kind/\q.kind<=15/\(0<=q.qos/\q.qos<=2\/q.kind≠3))
  (hB:c=true->∀ W:World,Below w.heap.size w W->Calls Tryz.prog 28 #[.agg q.cells.toArray] W (GPut l W)) :
  Calls Tryz.prog 8 #[q.val] w (GEnc q.kind (gfl q.kind q.dup q.qos q.retain) c l w):=by
 have HPN:=zh (pk_new w q)
 have HB0:Hid (Below w.heap.size w (w.alloc (.cells q.cells.toArray 31))):=bal _ _
 have HM:=zh hM
 have HBO:=zh hB
 have HK:=zh hk
 clear hM hB hk
 go_enter Tryz.func8,Tryz.ntmps8
 go_upto_region 1 with fail
 change Code.wp _ _ _ _ (w.alloc (.cells q.cells.toArray 31))
 generalize w.alloc (.cells q.cells.toArray 31)=w0 at HPN HB0 |-
 go_step
 refine wpList_load_mid rfl 31 _ rfl w.heap.size 0 rfl q.cells _ (uh HPN).range Tryz.underlying31 rfl packet_size ?_
 simp only[sp]
 go_wp2_with fail
 refine ((uh HM) _ (uh HB0)).mono ?_
 rintro e w1 ⟨rfl,hb1⟩
 have HB1:Hid (Below w.heap.size w w1):=bnx2 (uh HB0) hb1
 have HP1:=zh ((uh HPN).below hb1)
 clear hb1 HPN HB0 HM
 cases c
 ·go_wp2
  go_ret2
  exact⟨uh HB1,.inl ⟨rfl,rfl⟩⟩
 ·obtain⟨k1,k2,k3⟩:=(uh HK) rfl
  have HBY:=zh ((uh HBO) rfl)
  clear HK HBO
  go_upto_region 3 with fail
  go_step
  refine wpList_load_mid rfl 31 _ rfl w.heap.size 0 rfl q.cells _ (uh HP1).range Tryz.underlying31 rfl packet_size ?_
  simp only[sp]
  go_wp2_with fail
  refine ((uh HBY) _ (uh HB1)).mono ?_
  rintro e wa ⟨vx,rfl,hrx,hba⟩
  have HBA:Hid (Below w.heap.size w wa):=bnx2 (uh HB1) hba
  have HPA:=zh ((uh HP1).below hba)
  have hwl:w.heap.size<wa.heap.size:=cell_lt (uh HPA).kind
  have HRX:Hid (Rwb wa (w.heap.size+1) vx l):=(uh hrx).mono (cell_lt (uh HP1).kind)
  obtain⟨xo,xc,rfl,-,-⟩:=(uh hrx).byt.form
  clear hrx hba HB1 HP1 HBY
  generalize hln:l.length=len at hl |-
  have HLN:=zh hln
  clear hln
  by_cases hbig:65536<len
  ·have HF:Hid (GEnc q.kind (gfl q.kind q.dup q.qos q.retain) true l w (.returned (.tuple #[.slice none 0 0,.int .i64 2])) wa):=⟨uh HBA,.inr (.inl ⟨rfl,by rw[gbytes_len,uh HLN];omega,rfl⟩)⟩
   go_wp2
   go_ret2
   exact uh HF
  ·have HS:Hid (∀ W,Below wa.heap.size wa W->W.cell? ⟨w.heap.size,0,none⟩=some (.int .i64 q.kind)/\W.rangeAt w.heap.size 0 q.cells):=fun W hW=>⟨((uh HPA).below hW).kind,((uh HPA).below hW).range⟩
   have hfr:0<=gfl q.kind q.dup q.qos q.retain/\gfl q.kind q.dup q.qos q.retain<=15:=by
    have r1:=fv_range q.dup 8 (by decide)
    have r2:=fv_range q.retain 1 (by decide)
    unfold gfl
    split
    ·omega
    ·split
     ·omega
     ·omega
   have HGF:=zh (gflags_any q)
   obtain⟨gf,HGE⟩:∃ gf,Hid (gf=gfl q.kind q.dup q.qos q.retain):=⟨_,rfl⟩
   rw[<- uh HGE]at hfr
   have HGF:Hid (∀ W:World,Calls Tryz.prog 29 #[.agg q.cells.toArray] W fun e w'=>e=.returned (.int .i64 gf)/\Below W.heap.size W w'):=fun W=>by rw[uh HGE];exact gflags_any q W k3
   go_wp2_with fail
   refine wp_region_noPanic ?_
   refine wp_region_held_drew (S:=(fun w'=>w'.cell? ⟨w.heap.size,0,none⟩=some (.int .i64 q.kind)/\w'.rangeAt w.heap.size 0 q.cells)) (by kernel_rfl) ((uh HS) _ (below_drewN (Below.refl _ _) 1)) (fun hHeld=>?_)
   have HBd:Hid (Below wa.heap.size wa wa.drew):=below_drewN (Below.refl _ _) 1
   generalize wa.drew=wd at HBd hHeld |-
   obtain⟨fz,HFZ⟩:∃ z,Hid (z=16*q.kind+gf):=⟨_,rfl⟩
   have hz:IntKind.u8.wrap (IntKind.i64.wrap (IntKind.i64.wrap (16*q.kind)+gf))=fz:=by rw[uh HFZ,IntKind.wrap_i64,IntKind.wrap_i64,IntKind.wrap_u8];omega
   have HRNG:∀ j,0<=([fz]:List Int).getD j 0/\([fz]:List Int).getD j 0<=255:=rng1 (by rw[uh HFZ];omega)
   refine rtk 0 (h:=?_)
   refine rtk 1 (h:=?_)
   refine rtk 2 (h:=?_)
   refine rtk 3 (v:=.agg q.cells.toArray) (hy:=yieldsIf_load_mid (by rfl) 31 _ rfl w.heap.size 0 rfl q.cells _ (fun _ h=>h.2) Tryz.underlying31 rfl packet_size) (h:=?_)
   refine rtk 8 (h:=?_)
   refine rtk 9 (h:=?_)
   refine rcl 4 (h:=fun K hK=>?_)
   go_simp
   refine ((uh HGF) _).mono ?_
   rintro e w2 ⟨rfl,hb2⟩
   have HB2:Hid (Below wa.heap.size wa w2):=bnx2 (uh HBd) hb2
   clear hb2
   refine hK.out _ _ ((uh HS) _ (uh HB2)) (fun hHeld=>?_)
   clear hK K
   refine rtk 5 (h:=?_)
   refine rtk 6 (h:=?_)
   refine wpAnyH_ready (rs:=[7,10]) (by kernel_rfl) (by simp) ?_
   refine rac (h:=fun K hK=>?_) (hs:=rac (h:=fun K hK=>?_) (hs:=AllReadyH.nil))
   ·go_simp
    have HBx:Hid (Below wa.heap.size wa (w2.alloc (.cells #[.int .u8 fz] 5))):=(uh HB2).alloc (uh HB2).size _
    have HRx:Hid (Rwb (w2.alloc (.cells #[.int .u8 fz] 5)) wa.heap.size (.slice (some ⟨w2.heap.size,0,none⟩) 1 1) [fz]):=(rwb_new w2 [fz] (by simp) (by simp) HRNG).mono (uh HB2).size
    refine hK.out _ _ ((uh HS) _ (uh HBx)) (fun hHeld=>?_)
    clear hK K
    generalize w2.alloc (.cells #[.int .u8 fz] 5)=wy at HBx HRx hHeld |-
    refine rcl 10 (h:=fun K hK=>?_)
    go_simp
    refine (rput_use (len:Int) _ (by omega) (by omega)).mono ?_
    rintro e w3 ⟨vp,rfl,hop,hyp,hb3⟩
    have HB3:Hid (Below wa.heap.size wa w3):=bnx2 (uh HBx) hb3
    have HR3:=zh ((uh HRx).below hb3)
    have HY3:=hyp
    clear hb3 hop hyp HBx HRx
    refine hK.out _ _ ((uh HS) _ (uh HB3)) (fun hHeld=>?_)
    clear hK K
    refine rcl 11 (h:=fun K hK=>?_)
    refine step_append_byt rfl _ _ rfl wa.heap.size (.slice (some ⟨w2.heap.size,0,none⟩) 1 1) 1 [fz] rfl (uh HR3).1 vp (V.put (len:Int)) rfl (uh HY3) (by have:=V.put_len (len:Int);omega) (uh HB3).size ?_
    intro v4 w4 hown4 hg4
    have HB4:Hid (Below wa.heap.size wa w4):=(uh HB3).grown hg4 (uh HB3).size (fun g hg=>owns_blk (uh HR3).1 g hg)
    have HR4:Hid (Rwb w4 wa.heap.size v4 ([fz]++V.put (len:Int))):=⟨by rw[List.length_append];exact hown4,range_app (uh HR3).2 (uh HY3).range⟩
    clear hown4
    refine hK.out _ _ ((uh HS) _ (uh HB4)) (fun hHeld=>?_)
    clear hK K
    simp only[sp]
    refine rtk 12 (h:=?_)
    refine wpAnyH_done (by kernel_rfl) ?_ _
    refine NoPanic.normal ?_
    have HY4:Hid (Byt w4 (.slice xo len xc) l):=by
     have k:=(uh HRX).byt.below (uh HB3)
     rw[uh HLN]at k
     refine byt_grown k hg4 (fun b off n cap e h1=>?_)
     intro e2
     have h2:=owns_blk (uh HR3).1 b e2
     rcases (uh HRX).1.2 with⟨e3,_⟩|⟨g,cp,cur,e3,_,hgg,_⟩
     ·rw[uh HLN]at e3;rw[e3]at e;cases e
     ·rw[uh HLN]at e3;rw[e3]at e;cases e
      have:=(Array.getElem?_eq_some_iff.1 hgg).1
      omega
    have HB4w:Hid (Below w.heap.size w w4):=bnx2 (uh HBA) (uh HB4)
    obtain⟨pl,hpl⟩:∃ p,p=(V.put (len:Int)).length:=⟨_,rfl⟩
    have HPL:=zh hpl
    have hp4:=V.put_len (len:Int)
    rw[<- hpl]at hp4
    clear hpl
    obtain⟨R4,HE4⟩:∃ L:List Int,Hid (L=[fz]++V.put (len:Int)):=⟨_,rfl⟩
    rw[<- uh HE4]at HR4
    have HN4:Hid (R4.length=1+pl):=by show _=_;rw[uh HE4,uh HPL];simp;omega
    have n4:R4.length<=5:=by have:=uh HN4;omega
    obtain⟨ra,rc,rfl,-,-⟩:=(uh HR4).byt.form
    have hz4:wa.heap.size<=w4.heap.size:=(uh HB4).size
    obtain⟨l2,HL2⟩:∃ L:List Int,Hid (L=l):=⟨_,rfl⟩
    rw[<- uh HL2]at HY4
    have nl2:l2.length<=65536:=by rw[uh HL2,uh HLN];omega
    clear hg4 HR3 HB3 HPA HRX
    go_wp2_with (first
     | (at_builtin;refine wpList_append_byt _ rfl _ _ rfl wa.heap.size (.slice ra R4.length rc) R4.length R4 rfl (uh HR4).1 (.slice xo len xc) l2 rfl (uh HY4) (by omega) hz4 ?_)
     | go_in)
    intro v5 w5 hown5 hg5
    have HR5:=zh ((uh HR4).more (uh HY4).range (by first|exact hown5|(rw[<- List.map_append];exact hown5)))
    have HB5:Hid (Below w.heap.size w w5):=(uh HB4w).grown hg5 (uh HB4w).size (fun g hg=>by have:=owns_blk (uh HR4).1 g hg;omega)
    obtain⟨R5,HE5⟩:∃ L:List Int,Hid (L=R4++l2):=⟨_,rfl⟩
    rw[<- uh HE5]at HR5
    have HN5:Hid (R5.length=1+pl+len):=by show _=_;rw[uh HE5,List.length_append,uh HN4,uh HL2,uh HLN]
    obtain⟨va5,vc5,rfl,-,-⟩:=(uh HR5).byt.form
    clear hown5 hg5 HR4 HY4
    have HG5:Hid (gbytes q.kind (gfl q.kind q.dup q.qos q.retain) l=R5):=by show _=_;unfold gbytes;rw[uh HE5,uh HE4,uh HL2,uh HLN,uh HFZ,uh HGE]
    by_cases hb5:R5.length<=65536
    ·have HF:Hid (GEnc q.kind (gfl q.kind q.dup q.qos q.retain) true l w (.returned (.tuple #[.slice va5 R5.length vc5,.int .i64 0])) w5):=⟨uh HB5,.inr (.inr ⟨rfl,by rw[uh HG5];exact hb5,_,rfl,by rw[uh HG5];exact (uh HR5).mono (by omega)⟩)⟩
     go_wp2
     go_ret2
     exact uh HF
    ·have HF:Hid (GEnc q.kind (gfl q.kind q.dup q.qos q.retain) true l w (.returned (.tuple #[.slice none 0 0,.int .i64 2])) w5):=⟨uh HB5,.inr (.inl ⟨rfl,by rw[uh HG5];omega,rfl⟩)⟩
     go_wp2
     go_ret2
     exact uh HF
   ·go_simp
    refine (rput_use (len:Int) _ (by omega) (by omega)).mono ?_
    rintro e wy ⟨vp,rfl,hop,hyp,hby⟩
    have HBy:Hid (Below wa.heap.size wa wy):=bnx2 (uh HB2) hby
    refine hK.out _ _ ((uh HS) _ (uh HBy)) (fun hHeld=>?_)
    clear hK K
    refine rcl 7 (h:=fun K hK=>?_)
    go_simp
    have HB3:Hid (Below wa.heap.size wa (wy.alloc (.cells #[.int .u8 fz] 5))):=(uh HBy).alloc (uh HBy).size _
    have HR3:Hid (Rwb (wy.alloc (.cells #[.int .u8 fz] 5)) wa.heap.size (.slice (some ⟨wy.heap.size,0,none⟩) 1 1) [fz]):=(rwb_new wy [fz] (by simp) (by simp) HRNG).mono (uh HBy).size
    have HY3:=zh ((uh hyp).below ((Below.refl _ _).alloc (Nat.le_refl _) (.cells #[.int .u8 fz] 5)))
    refine hK.out _ _ ((uh HS) _ (uh HB3)) (fun hHeld=>?_)
    clear hK K hby hop hyp
    generalize wy.alloc (.cells #[.int .u8 fz] 5)=w3 at HB3 HR3 HY3 hHeld |-
    refine rcl 11 (h:=fun K hK=>?_)
    refine step_append_byt rfl _ _ rfl wa.heap.size (.slice (some ⟨wy.heap.size,0,none⟩) 1 1) 1 [fz] rfl (uh HR3).1 vp (V.put (len:Int)) rfl (uh HY3) (by have:=V.put_len (len:Int);omega) (uh HB3).size ?_
    intro v4 w4 hown4 hg4
    have HB4:Hid (Below wa.heap.size wa w4):=(uh HB3).grown hg4 (uh HB3).size (fun g hg=>owns_blk (uh HR3).1 g hg)
    have HR4:Hid (Rwb w4 wa.heap.size v4 ([fz]++V.put (len:Int))):=⟨by rw[List.length_append];exact hown4,range_app (uh HR3).2 (uh HY3).range⟩
    clear hown4
    refine hK.out _ _ ((uh HS) _ (uh HB4)) (fun hHeld=>?_)
    clear hK K
    simp only[sp]
    refine rtk 12 (h:=?_)
    refine wpAnyH_done (by kernel_rfl) ?_ _
    refine NoPanic.normal ?_
    have HY4:Hid (Byt w4 (.slice xo len xc) l):=by
     have k:=(uh HRX).byt.below (uh HB3)
     rw[uh HLN]at k
     refine byt_grown k hg4 (fun b off n cap e h1=>?_)
     intro e2
     have h2:=owns_blk (uh HR3).1 b e2
     rcases (uh HRX).1.2 with⟨e3,_⟩|⟨g,cp,cur,e3,_,hgg,_⟩
     ·rw[uh HLN]at e3;rw[e3]at e;cases e
     ·rw[uh HLN]at e3;rw[e3]at e;cases e
      have:=(Array.getElem?_eq_some_iff.1 hgg).1
      omega
    have HB4w:Hid (Below w.heap.size w w4):=bnx2 (uh HBA) (uh HB4)
    obtain⟨pl,hpl⟩:∃ p,p=(V.put (len:Int)).length:=⟨_,rfl⟩
    have HPL:=zh hpl
    have hp4:=V.put_len (len:Int)
    rw[<- hpl]at hp4
    clear hpl
    obtain⟨R4,HE4⟩:∃ L:List Int,Hid (L=[fz]++V.put (len:Int)):=⟨_,rfl⟩
    rw[<- uh HE4]at HR4
    have HN4:Hid (R4.length=1+pl):=by show _=_;rw[uh HE4,uh HPL];simp;omega
    have n4:R4.length<=5:=by have:=uh HN4;omega
    obtain⟨ra,rc,rfl,-,-⟩:=(uh HR4).byt.form
    have hz4:wa.heap.size<=w4.heap.size:=(uh HB4).size
    obtain⟨l2,HL2⟩:∃ L:List Int,Hid (L=l):=⟨_,rfl⟩
    rw[<- uh HL2]at HY4
    have nl2:l2.length<=65536:=by rw[uh HL2,uh HLN];omega
    clear hg4 HR3 HB3 HPA HRX
    go_wp2_with (first
     | (at_builtin;refine wpList_append_byt _ rfl _ _ rfl wa.heap.size (.slice ra R4.length rc) R4.length R4 rfl (uh HR4).1 (.slice xo len xc) l2 rfl (uh HY4) (by omega) hz4 ?_)
     | go_in)
    intro v5 w5 hown5 hg5
    have HR5:=zh ((uh HR4).more (uh HY4).range (by first|exact hown5|(rw[<- List.map_append];exact hown5)))
    have HB5:Hid (Below w.heap.size w w5):=(uh HB4w).grown hg5 (uh HB4w).size (fun g hg=>by have:=owns_blk (uh HR4).1 g hg;omega)
    obtain⟨R5,HE5⟩:∃ L:List Int,Hid (L=R4++l2):=⟨_,rfl⟩
    rw[<- uh HE5]at HR5
    have HN5:Hid (R5.length=1+pl+len):=by show _=_;rw[uh HE5,List.length_append,uh HN4,uh HL2,uh HLN]
    obtain⟨va5,vc5,rfl,-,-⟩:=(uh HR5).byt.form
    clear hown5 hg5 HR4 HY4
    have HG5:Hid (gbytes q.kind (gfl q.kind q.dup q.qos q.retain) l=R5):=by show _=_;unfold gbytes;rw[uh HE5,uh HE4,uh HL2,uh HLN,uh HFZ,uh HGE]
    by_cases hb5:R5.length<=65536
    ·have HF:Hid (GEnc q.kind (gfl q.kind q.dup q.qos q.retain) true l w (.returned (.tuple #[.slice va5 R5.length vc5,.int .i64 0])) w5):=⟨uh HB5,.inr (.inr ⟨rfl,by rw[uh HG5];exact hb5,_,rfl,by rw[uh HG5];exact (uh HR5).mono (by omega)⟩)⟩
     go_wp2
     go_ret2
     exact uh HF
    ·have HF:Hid (GEnc q.kind (gfl q.kind q.dup q.qos q.retain) true l w (.returned (.tuple #[.slice none 0 0,.int .i64 2])) w5):=⟨uh HB5,.inr (.inl ⟨rfl,by rw[uh HG5];omega,rfl⟩)⟩
     go_wp2
     go_ret2
     exact uh HF
theorem bsz {s:ByteArray}:s.size=0 ↔ s=⟨#[]⟩:=by
 constructor
 ·intro h
  obtain⟨a⟩:=s
  have:a.size=0:=h
  rw[Array.size_eq_zero_iff.1 this]
 ·rintro rfl
  rfl
theorem only_conn (P:Pa):empA P.no_clean.no_keep.no_props.no_client.no_wills.no_user.no_pass=true ↔ (⟨P.kind,false,0,false,⟨#[]⟩,0,⟨#[]⟩,P.props,P.client,P.clean,P.keep,P.wills,P.user,P.pass,0,false,[],[],[]⟩:Pa)=P:=by
 unfold empA
 rw[decide_eq_true_iff]
 obtain⟨p_kind,p_dup,p_qos,p_retain,p_topic,p_id,p_payload,p_props,p_client,p_clean,p_keep,p_wills,p_user,p_pass,p_code,p_session,p_subs,p_filters,p_codes⟩:=P
 constructor
 ·rintro⟨⟨e_dup,e_retain,e_clean,e_session⟩,⟨e_qos,e_id,e_keep,e_code⟩,⟨e_topic,e_payload,e_client⟩,e_props,e_wills,e_user,e_pass,e_subs,e_filters,e_codes⟩
  simp only[Pa.mk.injEq]
  exact⟨trivial,e_dup.symm,e_qos.symm,e_retain.symm,(bsz.1 e_topic).symm,e_id.symm,(bsz.1 e_payload).symm,trivial,trivial,trivial,trivial,trivial,trivial,trivial,e_code.symm,e_session.symm,(List.length_eq_zero_iff.1 e_subs).symm,(List.length_eq_zero_iff.1 e_filters).symm,(List.length_eq_zero_iff.1 e_codes).symm⟩
 ·intro h
  simp only[Pa.mk.injEq]at h
  obtain⟨h_kind,h_dup,h_qos,h_retain,h_topic,h_id,h_payload,h_props,h_client,h_clean,h_keep,h_wills,h_user,h_pass,h_code,h_session,h_subs,h_filters,h_codes⟩:=h
  exact⟨⟨h_dup.symm,h_retain.symm,rfl,h_session.symm⟩,⟨h_qos.symm,h_id.symm,rfl,h_code.symm⟩,⟨bsz.2 h_topic.symm,bsz.2 h_payload.symm,rfl⟩,rfl,rfl,rfl,rfl,List.length_eq_zero_iff.2 h_subs.symm,List.length_eq_zero_iff.2 h_filters.symm,List.length_eq_zero_iff.2 h_codes.symm⟩
theorem wills_rw {w:World} {t:Sl} {us:List Wl} (h:Wls w t.val us):∃ vs:List Wv,Rw w t 5 (wcs vs)/\vs.length=us.length/\∀ k,k<us.length->∃ s,vs[k]?=some ⟨(us.getD k wl0).topic,(us.getD k wl0).payload,(us.getD k wl0).qos,(us.getD k wl0).retain,s⟩:=by
 obtain⟨ao,cap,hv,hc,hcase⟩:=h
 obtain⟨ta,tn,tc⟩:=t
 simp only[Sl.val,Value.slice.injEq]at hv
 obtain⟨rfl,rfl,rfl⟩:=hv
 rcases hcase with rfl|⟨b,off,rfl,hat⟩
 ·exact⟨[],⟨rfl,hc,.inl rfl⟩,rfl,fun k hk=>by simp at hk⟩
 have hs:∀ k,∃ s:Sl,k<us.length->w.cell? ⟨b,off+k*5+4,none⟩=some s.val:=fun k=>by
  by_cases hk:k<us.length
  ·obtain⟨a,n,c,⟨_,_,_,_,h4⟩,_⟩:=hat k hk
   exact⟨⟨a,n,c⟩,fun _=>h4⟩
  ·exact⟨⟨none,0,0⟩,fun h=>absurd h hk⟩
 obtain⟨f,hf⟩:=Classical.skolem.1 hs
 refine⟨(List.range us.length).map fun k=>⟨(us.getD k wl0).topic,(us.getD k wl0).payload,(us.getD k wl0).qos,(us.getD k wl0).retain,f k⟩,⟨?_,hc,?_⟩,by simp,fun k hk=>⟨f k,by rw[List.getElem?_map,List.getElem?_range hk];rfl⟩⟩
 ·rw[wcs_length]
  simp
 ·refine .inr ⟨b,off,rfl,fun j hj=>?_⟩
  rw[wcs_length,List.length_map,List.length_range]at hj
  have hi:j/5<us.length:=by omega
  have e:=wcs_get ((List.range us.length).map fun k=>(⟨(us.getD k wl0).topic,(us.getD k wl0).payload,(us.getD k wl0).qos,(us.getD k wl0).retain,f k⟩:Wv)) (j/5) ⟨(us.getD (j/5) wl0).topic,(us.getD (j/5) wl0).payload,(us.getD (j/5) wl0).qos,(us.getD (j/5) wl0).retain,f (j/5)⟩ (by rw[List.getElem?_map,List.getElem?_range hi];rfl) (j % 5) (Nat.mod_lt _ (by decide))
  rw[show j/5*5+j % 5=j from by omega]at e
  rw[e]
  obtain⟨a,n,c,⟨h0,h1,h2,h3,_⟩,_⟩:=hat (j/5) hi
  have h4:=hf (j/5) hi
  have hm:j % 5=0\/j % 5=1\/j % 5=2\/j % 5=3\/j % 5=4:=by omega
  rcases hm with m|m|m|m|m
  ·rw[show off+j=off+j/5*5 from by omega,h0,m];rfl
  ·rw[show off+j=off+j/5*5+1 from by omega,h1,m];rfl
  ·rw[show off+j=off+j/5*5+2 from by omega,h2,m];rfl
  ·rw[show off+j=off+j/5*5+3 from by omega,h3,m];rfl
  ·rw[show off+j=off+j/5*5+4 from by omega,h4,m];rfl
theorem vs_map {vs:List Wv} {us:List Wl} (hl:vs.length=us.length) (h:∀ k,k<us.length->∃ s,vs[k]?=some ⟨(us.getD k wl0).topic,(us.getD k wl0).payload,(us.getD k wl0).qos,(us.getD k wl0).retain,s⟩):vs.map (fun u=>(u.qos,u.retain))=us.map (fun u=>(u.qos,u.retain)):=by
 apply List.ext_getElem (by simp[hl])
 intro i h1 h2
 rw[List.length_map]at h1 h2
 obtain⟨s,hs⟩:=h i h2
 rw[List.getElem?_eq_getElem h1]at hs
 have hs:=Option.some.inj hs
 rw[List.getElem_map,List.getElem_map,hs,List.getD_eq_getElem?_getD,List.getElem?_eq_getElem h2]
 rfl
theorem cfl_eq {vs:List Wv} {us:List Wl} (h:vs.map (fun u=>(u.qos,u.retain))=us.map (fun u=>(u.qos,u.retain))) (f:Int):vs.foldl cstep f=us.foldl cstepA f:=by
 have e1:vs.foldl cstep f=(vs.map (fun u=>(u.qos,u.retain))).foldl (fun f x=>bits .or .i64 f (bits .or .i64 (bits .or .i64 4 (fv x.2 32)) (IntKind.i64.wrap (x.1*8)))) f:=by rw[List.foldl_map];rfl
 have e2:us.foldl cstepA f=(us.map (fun u=>(u.qos,u.retain))).foldl (fun f x=>bits .or .i64 f (bits .or .i64 (bits .or .i64 4 (fv x.2 32)) (IntKind.i64.wrap (x.1*8)))) f:=by rw[List.foldl_map];rfl
 rw[e1,e2,h]
theorem call_eq {vs:List Wv} {us:List Wl} (h:vs.map (fun u=>(u.qos,u.retain))=us.map (fun u=>(u.qos,u.retain))):(vs.all fun u=>mq u.qos)=us.all fun u=>mq u.qos:=by
 have e1:(vs.all fun u=>mq u.qos)=(vs.map (fun u=>(u.qos,u.retain))).all fun x=>mq x.1:=by rw[List.all_map];rfl
 have e2:(us.all fun u=>mq u.qos)=(us.map (fun u=>(u.qos,u.retain))).all fun x=>mq x.1:=by rw[List.all_map];rfl
 rw[e1,e2,h]
theorem foldl_range (us:List Wl) (f:Int) (hf:-9223372036854775808<=f/\f<=9223372036854775807):-9223372036854775808<=us.foldl cstepA f/\us.foldl cstepA f<=9223372036854775807:=by
 induction us generalizing f with
 | nil=>exact hf
 | cons u r ih=>exact ih _ (or_range _ _)
theorem enc_conn {w:World} {q:Pkv} {P:Pa} (hR:RPk w q P) (hB:Big P) (hk:P.kind=1):Calls Tryz.prog 7 #[q.val] w (EncQ (fkA P).1 (fkA P).2 q.kind (eb P) w):=by
 have hc:=hR.cnt
 have hf:=hB.fit hc
 obtain⟨h0,h1,h2,h3,h4,h5,h6,h7,h8,h9,h10,h11⟩:=hc.sc
 obtain⟨n0,n1,n2,n3,n4,n5,n6⟩:=hc.ns
 have hL:=hB.lists
 have k:=hk
 rw[<- h0]at k
 obtain⟨vs,hrw,hvl,hvs⟩:=wills_rw hR.wills
 have hm:=vs_map hvl hvs
 have ef:cfl q.user.n q.pass.n q.clean vs=cflA P:=by
  unfold cfl cflA
  rw[cfl_eq hm,n2,n3,h8]
 have eo:cok q.user.n q.pass.n vs=cokA P:=by
  unfold cok cokA
  rw[call_eq hm,hvl,n2,n3]
 refine enc_core q q.no_clean.no_keep.no_props.no_client.no_wills.no_user.no_pass _ _ _ (6000000+P.wills.length*6000000+P.user.length*6000000+P.pass.length*6000000) w (by omega) (fun W=>fk_any q P hc W) (fun w0 w1 W hb hQ=>?_)
 have e:=(hc.no_clean.no_keep.no_props.no_client.no_wills.no_user.no_pass).emp
 obtain⟨wo,wc,hwv,_,hWS⟩:=hR.wills.below hb
 obtain⟨uo,uc,huv,_,hUS⟩:=hR.user.below hb
 obtain⟨po,pc,hpv,_,hPS⟩:=hR.pass.below hb
 unfold eb
 rw[if_pos hk,<- e,<- ef,<- eo,<- h0,<- h9,<- h7]
 exact pk_conn hQ hf vs (hrw.below hb) P.props (hR.props.below hb) hB.lists.1 hB.props (by rw[h7];have:=hB.texts;omega) (by rw[h9];exact hB.nums.2.2.1) (by rw[n2];unfold maxLen;omega) (by rw[n3];unfold maxLen;omega)
  (by rw[ef];unfold cflA;exact foldl_range _ _ (or_range _ _)) P.wills _ rfl wo wc hwv hWS hB.wills P.user _ rfl uo uc huv hUS hB.user P.pass _ rfl po pc hpv hPS 6000000 (Nat.le_refl _) (by omega) k
end Go.Proofs.YtmpijpjlbhfccaaGreatDoor.K
