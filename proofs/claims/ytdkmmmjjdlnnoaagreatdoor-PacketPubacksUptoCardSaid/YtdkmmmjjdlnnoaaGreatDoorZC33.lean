/- Proved here: helpers, one text behind the other. -/
import Derived.Deep.CutBlock
import Derived.Deep.Cut
import Derived.Test.YtdkmmmjjdlnnoaaGreatDoorZC32
import Derived.Test.YtdkmmmjjdlnnoaaGreatDoorZC27
set_option maxHeartbeats 20000000
namespace Go.Proofs.YtdkmmmjjdlnnoaaGreatDoor.K
open Go.RowKit
set_option maxRecDepth 100000
def gopt (s:Sb):Int:=s.qos+fv s.nolocal 4+fv s.aspub 8+16 * s.handling
def gsub (s:Sb):List Int:=tx s.filter++[gopt s % 256]
def gcod (c:Int):List Int:=[c % 256]
def sbc (s:Sb):Array Value:=#[.string s.filter,.int .i64 s.qos,.bool s.nolocal,.bool s.aspub,.int .i64 s.handling]
structure SBx (w:World) (g:Nat) (s:Sb):Prop where
 c0:w.cell? ⟨g,0,none⟩=some (.string s.filter)
 c1:w.cell? ⟨g,1,none⟩=some (.int .i64 s.qos)
 c2:w.cell? ⟨g,2,none⟩=some (.bool s.nolocal)
 c3:w.cell? ⟨g,3,none⟩=some (.bool s.aspub)
 c4:w.cell? ⟨g,4,none⟩=some (.int .i64 s.handling)
 blk:w.heap[g]?=some (.cells (sbc s) 93)
theorem SBx.of {w:World} {g:Nat} {s:Sb} (h:w.heap[g]?=some (.cells (sbc s) 93)):SBx w g s:=by
 constructor
 all_goals first | exact h | (simp[World.cell?,h,sbc])
theorem SBx.lt {w:World} {g:Nat} {s:Sb} (h:SBx w g s):g < w.heap.size:=(Array.getElem?_eq_some_iff.1 h.blk).1
theorem SBx.below {w w':World} {g:Nat} {s:Sb} (h:SBx w g s) (hb:Below w.heap.size w w'):SBx w' g s:=.of ((hb.block g h.lt).trans h.blk)
theorem SBx.grow {w w':World} {g:Nat} {s:Sb} {row:Option Nat} (h:SBx w g s) (hg:w.grownBy w' row) (hr:some g≠row):SBx w' g s:=.of ((hg.block g h.lt hr).trans h.blk)
def gwl (u:Wl):List Int:=(pbs u.props++tx u.topic)++tx u.payload
def gwf (us:List Wl):Int:=match us with
 | []=>0
 | u :: _=>fv u.retain 32+8 * u.qos+4
def gcf (nu np:Nat) (clean:Bool):Int:=fv (decide (0 < nu)) 128+fv (decide (0 < np)) 64+fv clean 2
def gmq:ByteArray:=⟨#[77,81,84,84]⟩
def wlc (a b:ByteArray) (n:Int) (r:Bool) (v:Value):Array Value:=#[.string a,.string b,.int .i64 n,.bool r,v]
structure WBx (w:World) (g:Nat) (t p:ByteArray) (n:Int) (r:Bool) (v:Value):Prop where
 c0:w.cell? ⟨g,0,none⟩=some (.string t)
 c1:w.cell? ⟨g,1,none⟩=some (.string p)
 c4:w.cell? ⟨g,4,none⟩=some v
 blk:w.heap[g]?=some (.cells (wlc t p n r v) 90)
theorem WBx.of {w:World} {g:Nat} {t p:ByteArray} {n:Int} {r:Bool} {v:Value} (h:w.heap[g]?=some (.cells (wlc t p n r v) 90)):WBx w g t p n r v:=by
 constructor
 all_goals first | exact h | (simp[World.cell?,h,wlc])
theorem WBx.lt {w:World} {g:Nat} {t p:ByteArray} {n:Int} {r:Bool} {v:Value} (h:WBx w g t p n r v):g < w.heap.size:=(Array.getElem?_eq_some_iff.1 h.blk).1
theorem WBx.below {w w':World} {g:Nat} {t p:ByteArray} {n:Int} {r:Bool} {v:Value} (h:WBx w g t p n r v) (hb:Below w.heap.size w w'):WBx w' g t p n r v:=.of ((hb.block g h.lt).trans h.blk)
theorem WBx.grow {w w':World} {g:Nat} {t p:ByteArray} {n:Int} {r:Bool} {v:Value} {row:Option Nat} (h:WBx w g t p n r v) (hg:w.grownBy w' row) (hr:some g≠row):WBx w' g t p n r v:=.of ((hg.block g h.lt hr).trans h.blk)
def gbytes (kind f:Int) (l:List Int):List Int:=([16 * kind+f]++V.put (l.length:Int))++l
def GEnc (kind f:Int) (c:Bool) (l:List Int) (w:World) (e:Ending) (w':World):Prop:=Below w.heap.size w w' /\
 ((c=false/\e=.returned (.tuple #[.slice none 0 0,.int .i64 1])) \/
  (c=true/\65536 < (gbytes kind f l).length/\e=.returned (.tuple #[.slice none 0 0,.int .i64 2])) \/
  (c=true/\(gbytes kind f l).length<=65536/\∃ v,e=.returned (.tuple #[v,.int .i64 0])/\Hid (Rwb w' w.heap.size v (gbytes kind f l))))
theorem gbytes_len (kind f:Int) (l:List Int):(gbytes kind f l).length=1+(V.put (l.length:Int)).length+l.length:=by
 unfold gbytes
 rw[List.length_append,List.length_append]
 rfl
theorem genc_core (q:Pkv) (c:Bool) (l:List Int) (w:World) (hl:l.length<=1200000000)
  (hM:∀ W:World,Below w.heap.size w W->Calls Tryz.prog 39 #[.agg q.cells.toArray] W fun e w'=>e=.returned (.bool c)/\Below W.heap.size W w')
  (hk:c=true->1<=q.kind/\q.kind<=15/\(0<=q.qos/\q.qos<=2\/q.kind≠3))
  (hB:c=true->∀ W:World,Below w.heap.size w W->Calls Tryz.prog 40 #[.agg q.cells.toArray] W (GPut l W)) :
  Calls Tryz.prog 20 #[q.val] w (GEnc q.kind (gfl q.kind q.dup q.qos q.retain) c l w):=by
 have HPN:=zh (pk_new w q)
 have HB0:Hid (Below w.heap.size w (w.alloc (.cells q.cells.toArray 31))):=bal _ _
 have HM:=zh hM
 have HBO:=zh hB
 have HK:=zh hk
 clear hM hB hk
 go_enter Tryz.func20,Tryz.ntmps20
 go_upto_region 1 with fail
 change Code.wp _ _ _ _ (w.alloc (.cells q.cells.toArray 31))
 generalize w.alloc (.cells q.cells.toArray 31)=w0 at HPN HB0 |-
 go_step
 refine wpList_load_mid rfl 31 _ rfl w.heap.size 0 rfl q.cells _ (uh HPN).range Tryz.underlying31 rfl packet_size ?_
 simp only[Act.put,List.setIfInBounds_toArray,List.set_cons_zero,List.set_cons_succ]
 go_wp2_with fail
 refine ((uh HM) _ (uh HB0)).mono ?_
 rintro e w1 ⟨rfl,hb1⟩
 have HB1:Hid (Below w.heap.size w w1):=bnx2 (uh HB0) hb1
 have HP1:=zh ((uh HPN).below hb1)
 clear hb1 HPN HB0 HM
 cases c
 ·go_wp2
  go_ret2
  exact⟨uh HB1,.inl ⟨rfl,rfl⟩⟩
 ·obtain⟨k1,k2,k3⟩:=(uh HK) rfl
  have HBY:=zh ((uh HBO) rfl)
  clear HK HBO
  go_upto_region 3 with fail
  go_step
  refine wpList_load_mid rfl 31 _ rfl w.heap.size 0 rfl q.cells _ (uh HP1).range Tryz.underlying31 rfl packet_size ?_
  simp only[Act.put,List.setIfInBounds_toArray,List.set_cons_zero,List.set_cons_succ]
  go_wp2_with fail
  refine ((uh HBY) _ (uh HB1)).mono ?_
  rintro e wa ⟨vx,rfl,hrx,hba⟩
  have HBA:Hid (Below w.heap.size w wa):=bnx2 (uh HB1) hba
  have HPA:=zh ((uh HP1).below hba)
  have hwl:w.heap.size < wa.heap.size:=cell_lt (uh HPA).kind
  have HRX:Hid (Rwb wa (w.heap.size+1) vx l):=(uh hrx).mono (cell_lt (uh HP1).kind)
  obtain⟨xo,xc,rfl,-,-⟩:=(uh hrx).byt.form
  clear hrx hba HB1 HP1 HBY
  generalize hln:l.length=len at hl |-
  have HLN:=zh hln
  clear hln
  by_cases hbig:65536 < len
  ·have HF:Hid (GEnc q.kind (gfl q.kind q.dup q.qos q.retain) true l w (.returned (.tuple #[.slice none 0 0,.int .i64 2])) wa):=⟨uh HBA,.inr (.inl ⟨rfl,by rw[gbytes_len,uh HLN];omega,rfl⟩)⟩
   go_wp2
   go_ret2
   exact uh HF
  ·have HS:Hid (∀ W,Below wa.heap.size wa W->W.cell? ⟨w.heap.size,0,none⟩=some (.int .i64 q.kind)/\W.rangeAt w.heap.size 0 q.cells):=fun W hW=>⟨((uh HPA).below hW).kind,((uh HPA).below hW).range⟩
   have hfr:0<=gfl q.kind q.dup q.qos q.retain/\gfl q.kind q.dup q.qos q.retain<=15:=by
    have r1:=fv_range q.dup 8 (by decide)
    have r2:=fv_range q.retain 1 (by decide)
    unfold gfl
    split
    ·omega
    ·split
     ·omega
     ·omega
   have HGF:=zh (gflags_any q)
   obtain⟨gf,HGE⟩:∃ gf,Hid (gf=gfl q.kind q.dup q.qos q.retain):=⟨_,rfl⟩
   rw[<- uh HGE]at hfr
   have HGF:Hid (∀ W:World,Calls Tryz.prog 41 #[.agg q.cells.toArray] W fun e w'=>e=.returned (.int .i64 gf)/\Below W.heap.size W w'):=fun W=>by rw[uh HGE];exact gflags_any q W k3
   go_wp2_with fail
   refine wp_region_noPanic ?_
   refine wp_region_held_drew (S:=(fun w'=>w'.cell? ⟨w.heap.size,0,none⟩=some (.int .i64 q.kind)/\w'.rangeAt w.heap.size 0 q.cells)) (by kernel_rfl) ((uh HS) _ (below_drewN (Below.refl _ _) 1)) (fun hHeld=>?_)
   have HBd:Hid (Below wa.heap.size wa wa.drew):=below_drewN (Below.refl _ _) 1
   generalize wa.drew=wd at HBd hHeld |-
   obtain⟨fz,HFZ⟩:∃ z,Hid (z=16 * q.kind+gf):=⟨_,rfl⟩
   have hz:IntKind.u8.wrap (IntKind.i64.wrap (IntKind.i64.wrap (16 * q.kind)+gf))=fz:=by rw[uh HFZ,IntKind.wrap_i64,IntKind.wrap_i64,IntKind.wrap_u8];omega
   have HRNG:∀ j,0<=([fz]:List Int).getD j 0/\([fz]:List Int).getD j 0<=255:=rng1 (by rw[uh HFZ];omega)
   refine rtk 0 (h:=?_)
   refine rtk 1 (h:=?_)
   refine rtk 2 (h:=?_)
   refine rtk 3 (v:=.agg q.cells.toArray) (hy:=yieldsIf_load_mid (by rfl) 31 _ rfl w.heap.size 0 rfl q.cells _ (fun _ h=>h.2) Tryz.underlying31 rfl packet_size) (h:=?_)
   refine rtk 8 (h:=?_)
   refine rtk 9 (h:=?_)
   refine rcl 4 (h:=fun K hK=>?_)
   go_simp
   refine ((uh HGF) _).mono ?_
   rintro e w2 ⟨rfl,hb2⟩
   have HB2:Hid (Below wa.heap.size wa w2):=bnx2 (uh HBd) hb2
   clear hb2
   refine hK.out _ _ ((uh HS) _ (uh HB2)) (fun hHeld=>?_)
   clear hK K
   refine rtk 5 (h:=?_)
   refine rtk 6 (h:=?_)
   refine wpAnyH_ready (rs:=[7,10]) (by kernel_rfl) (by simp) ?_
   refine rac (h:=fun K hK=>?_) (hs:=rac (h:=fun K hK=>?_) (hs:=AllReadyH.nil))
   ·go_simp
    have HBx:Hid (Below wa.heap.size wa (w2.alloc (.cells #[.int .u8 fz] 5))):=(uh HB2).alloc (uh HB2).size _
    have HRx:Hid (Rwb (w2.alloc (.cells #[.int .u8 fz] 5)) wa.heap.size (.slice (some ⟨w2.heap.size,0,none⟩) 1 1) [fz]):=(rwb_new w2 [fz] (by simp) (by simp) HRNG).mono (uh HB2).size
    refine hK.out _ _ ((uh HS) _ (uh HBx)) (fun hHeld=>?_)
    clear hK K
    generalize w2.alloc (.cells #[.int .u8 fz] 5)=wy at HBx HRx hHeld |-
    refine rcl 10 (h:=fun K hK=>?_)
    go_simp
    refine (rput_use (len:Int) _ (by omega) (by omega)).mono ?_
    rintro e w3 ⟨vp,rfl,hop,hyp,hb3⟩
    have HB3:Hid (Below wa.heap.size wa w3):=bnx2 (uh HBx) hb3
    have HR3:=zh ((uh HRx).below hb3)
    have HY3:=hyp
    clear hb3 hop hyp HBx HRx
    refine hK.out _ _ ((uh HS) _ (uh HB3)) (fun hHeld=>?_)
    clear hK K
    refine rcl 11 (h:=fun K hK=>?_)
    refine step_append_byt rfl _ _ rfl wa.heap.size (.slice (some ⟨w2.heap.size,0,none⟩) 1 1) 1 [fz] rfl (uh HR3).1 vp (V.put (len:Int)) rfl (uh HY3) (by have:=V.put_len (len:Int);omega) (uh HB3).size ?_
    intro v4 w4 hown4 hg4
    have HB4:Hid (Below wa.heap.size wa w4):=(uh HB3).grown hg4 (uh HB3).size (fun g hg=>owns_blk (uh HR3).1 g hg)
    have HR4:Hid (Rwb w4 wa.heap.size v4 ([fz]++V.put (len:Int))):=⟨by rw[List.length_append];exact hown4,range_app (uh HR3).2 (uh HY3).range⟩
    clear hown4
    refine hK.out _ _ ((uh HS) _ (uh HB4)) (fun hHeld=>?_)
    clear hK K
    simp only[Act.put,List.setIfInBounds_toArray,List.set_cons_zero,List.set_cons_succ]
    refine rtk 12 (h:=?_)
    refine wpAnyH_done (by kernel_rfl) ?_ _
    refine NoPanic.normal ?_
    have HY4:Hid (Byt w4 (.slice xo len xc) l):=by
     have k:=(uh HRX).byt.below (uh HB3)
     rw[uh HLN]at k
     refine byt_grown k hg4 (fun b off n cap e h1=>?_)
     intro e2
     have h2:=owns_blk (uh HR3).1 b e2
     rcases (uh HRX).1.2 with⟨e3,_⟩ | ⟨g,cp,cur,e3,_,hgg,_⟩
     ·rw[uh HLN]at e3;rw[e3]at e;cases e
     ·rw[uh HLN]at e3;rw[e3]at e;cases e
      have:=(Array.getElem?_eq_some_iff.1 hgg).1
      omega
    have HB4w:Hid (Below w.heap.size w w4):=bnx2 (uh HBA) (uh HB4)
    obtain⟨pl,hpl⟩:∃ p,p=(V.put (len:Int)).length:=⟨_,rfl⟩
    have HPL:=zh hpl
    have hp4:=V.put_len (len:Int)
    rw[<- hpl]at hp4
    clear hpl
    obtain⟨R4,HE4⟩:∃ L:List Int,Hid (L=[fz]++V.put (len:Int)):=⟨_,rfl⟩
    rw[<- uh HE4]at HR4
    have HN4:Hid (R4.length=1+pl):=by show _=_;rw[uh HE4,uh HPL];simp;omega
    have n4:R4.length<=5:=by have:=uh HN4;omega
    obtain⟨ra,rc,rfl,-,-⟩:=(uh HR4).byt.form
    have hz4:wa.heap.size<=w4.heap.size:=(uh HB4).size
    obtain⟨l2,HL2⟩:∃ L:List Int,Hid (L=l):=⟨_,rfl⟩
    rw[<- uh HL2]at HY4
    have nl2:l2.length<=65536:=by rw[uh HL2,uh HLN];omega
    clear hg4 HR3 HB3 HPA HRX
    go_wp2_with (first
     | (at_builtin;refine wpList_append_byt _ rfl _ _ rfl wa.heap.size (.slice ra R4.length rc) R4.length R4 rfl (uh HR4).1 (.slice xo len xc) l2 rfl (uh HY4) (by omega) hz4 ?_)
     | go_in)
    intro v5 w5 hown5 hg5
    have HR5:=zh ((uh HR4).more (uh HY4).range (by first | exact hown5 | (rw[<- List.map_append];exact hown5)))
    have HB5:Hid (Below w.heap.size w w5):=(uh HB4w).grown hg5 (uh HB4w).size (fun g hg=>by have:=owns_blk (uh HR4).1 g hg;omega)
    obtain⟨R5,HE5⟩:∃ L:List Int,Hid (L=R4++l2):=⟨_,rfl⟩
    rw[<- uh HE5]at HR5
    have HN5:Hid (R5.length=1+pl+len):=by show _=_;rw[uh HE5,List.length_append,uh HN4,uh HL2,uh HLN]
    obtain⟨va5,vc5,rfl,-,-⟩:=(uh HR5).byt.form
    clear hown5 hg5 HR4 HY4
    have HG5:Hid (gbytes q.kind (gfl q.kind q.dup q.qos q.retain) l=R5):=by show _=_;unfold gbytes;rw[uh HE5,uh HE4,uh HL2,uh HLN,uh HFZ,uh HGE]
    by_cases hb5:R5.length<=65536
    ·have HF:Hid (GEnc q.kind (gfl q.kind q.dup q.qos q.retain) true l w (.returned (.tuple #[.slice va5 R5.length vc5,.int .i64 0])) w5):=⟨uh HB5,.inr (.inr ⟨rfl,by rw[uh HG5];exact hb5,_,rfl,by rw[uh HG5];exact (uh HR5).mono (by omega)⟩)⟩
     go_wp2
     go_ret2
     exact uh HF
    ·have HF:Hid (GEnc q.kind (gfl q.kind q.dup q.qos q.retain) true l w (.returned (.tuple #[.slice none 0 0,.int .i64 2])) w5):=⟨uh HB5,.inr (.inl ⟨rfl,by rw[uh HG5];omega,rfl⟩)⟩
     go_wp2
     go_ret2
     exact uh HF
   ·go_simp
    refine (rput_use (len:Int) _ (by omega) (by omega)).mono ?_
    rintro e wy ⟨vp,rfl,hop,hyp,hby⟩
    have HBy:Hid (Below wa.heap.size wa wy):=bnx2 (uh HB2) hby
    refine hK.out _ _ ((uh HS) _ (uh HBy)) (fun hHeld=>?_)
    clear hK K
    refine rcl 7 (h:=fun K hK=>?_)
    go_simp
    have HB3:Hid (Below wa.heap.size wa (wy.alloc (.cells #[.int .u8 fz] 5))):=(uh HBy).alloc (uh HBy).size _
    have HR3:Hid (Rwb (wy.alloc (.cells #[.int .u8 fz] 5)) wa.heap.size (.slice (some ⟨wy.heap.size,0,none⟩) 1 1) [fz]):=(rwb_new wy [fz] (by simp) (by simp) HRNG).mono (uh HBy).size
    have HY3:=zh ((uh hyp).below ((Below.refl _ _).alloc (Nat.le_refl _) (.cells #[.int .u8 fz] 5)))
    refine hK.out _ _ ((uh HS) _ (uh HB3)) (fun hHeld=>?_)
    clear hK K hby hop hyp
    generalize wy.alloc (.cells #[.int .u8 fz] 5)=w3 at HB3 HR3 HY3 hHeld |-
    refine rcl 11 (h:=fun K hK=>?_)
    refine step_append_byt rfl _ _ rfl wa.heap.size (.slice (some ⟨wy.heap.size,0,none⟩) 1 1) 1 [fz] rfl (uh HR3).1 vp (V.put (len:Int)) rfl (uh HY3) (by have:=V.put_len (len:Int);omega) (uh HB3).size ?_
    intro v4 w4 hown4 hg4
    have HB4:Hid (Below wa.heap.size wa w4):=(uh HB3).grown hg4 (uh HB3).size (fun g hg=>owns_blk (uh HR3).1 g hg)
    have HR4:Hid (Rwb w4 wa.heap.size v4 ([fz]++V.put (len:Int))):=⟨by rw[List.length_append];exact hown4,range_app (uh HR3).2 (uh HY3).range⟩
    clear hown4
    refine hK.out _ _ ((uh HS) _ (uh HB4)) (fun hHeld=>?_)
    clear hK K
    simp only[Act.put,List.setIfInBounds_toArray,List.set_cons_zero,List.set_cons_succ]
    refine rtk 12 (h:=?_)
    refine wpAnyH_done (by kernel_rfl) ?_ _
    refine NoPanic.normal ?_
    have HY4:Hid (Byt w4 (.slice xo len xc) l):=by
     have k:=(uh HRX).byt.below (uh HB3)
     rw[uh HLN]at k
     refine byt_grown k hg4 (fun b off n cap e h1=>?_)
     intro e2
     have h2:=owns_blk (uh HR3).1 b e2
     rcases (uh HRX).1.2 with⟨e3,_⟩ | ⟨g,cp,cur,e3,_,hgg,_⟩
     ·rw[uh HLN]at e3;rw[e3]at e;cases e
     ·rw[uh HLN]at e3;rw[e3]at e;cases e
      have:=(Array.getElem?_eq_some_iff.1 hgg).1
      omega
    have HB4w:Hid (Below w.heap.size w w4):=bnx2 (uh HBA) (uh HB4)
    obtain⟨pl,hpl⟩:∃ p,p=(V.put (len:Int)).length:=⟨_,rfl⟩
    have HPL:=zh hpl
    have hp4:=V.put_len (len:Int)
    rw[<- hpl]at hp4
    clear hpl
    obtain⟨R4,HE4⟩:∃ L:List Int,Hid (L=[fz]++V.put (len:Int)):=⟨_,rfl⟩
    rw[<- uh HE4]at HR4
    have HN4:Hid (R4.length=1+pl):=by show _=_;rw[uh HE4,uh HPL];simp;omega
    have n4:R4.length<=5:=by have:=uh HN4;omega
    obtain⟨ra,rc,rfl,-,-⟩:=(uh HR4).byt.form
    have hz4:wa.heap.size<=w4.heap.size:=(uh HB4).size
    obtain⟨l2,HL2⟩:∃ L:List Int,Hid (L=l):=⟨_,rfl⟩
    rw[<- uh HL2]at HY4
    have nl2:l2.length<=65536:=by rw[uh HL2,uh HLN];omega
    clear hg4 HR3 HB3 HPA HRX
    go_wp2_with (first
     | (at_builtin;refine wpList_append_byt _ rfl _ _ rfl wa.heap.size (.slice ra R4.length rc) R4.length R4 rfl (uh HR4).1 (.slice xo len xc) l2 rfl (uh HY4) (by omega) hz4 ?_)
     | go_in)
    intro v5 w5 hown5 hg5
    have HR5:=zh ((uh HR4).more (uh HY4).range (by first | exact hown5 | (rw[<- List.map_append];exact hown5)))
    have HB5:Hid (Below w.heap.size w w5):=(uh HB4w).grown hg5 (uh HB4w).size (fun g hg=>by have:=owns_blk (uh HR4).1 g hg;omega)
    obtain⟨R5,HE5⟩:∃ L:List Int,Hid (L=R4++l2):=⟨_,rfl⟩
    rw[<- uh HE5]at HR5
    have HN5:Hid (R5.length=1+pl+len):=by show _=_;rw[uh HE5,List.length_append,uh HN4,uh HL2,uh HLN]
    obtain⟨va5,vc5,rfl,-,-⟩:=(uh HR5).byt.form
    clear hown5 hg5 HR4 HY4
    have HG5:Hid (gbytes q.kind (gfl q.kind q.dup q.qos q.retain) l=R5):=by show _=_;unfold gbytes;rw[uh HE5,uh HE4,uh HL2,uh HLN,uh HFZ,uh HGE]
    by_cases hb5:R5.length<=65536
    ·have HF:Hid (GEnc q.kind (gfl q.kind q.dup q.qos q.retain) true l w (.returned (.tuple #[.slice va5 R5.length vc5,.int .i64 0])) w5):=⟨uh HB5,.inr (.inr ⟨rfl,by rw[uh HG5];exact hb5,_,rfl,by rw[uh HG5];exact (uh HR5).mono (by omega)⟩)⟩
     go_wp2
     go_ret2
     exact uh HF
    ·have HF:Hid (GEnc q.kind (gfl q.kind q.dup q.qos q.retain) true l w (.returned (.tuple #[.slice none 0 0,.int .i64 2])) w5):=⟨uh HB5,.inr (.inl ⟨rfl,by rw[uh HG5];omega,rfl⟩)⟩
     go_wp2
     go_ret2
     exact uh HF
theorem bsz {s:ByteArray}:s.size=0 ↔ s=⟨#[]⟩:=by
 constructor
 ·intro h
  obtain⟨a⟩:=s
  have:a.size=0:=h
  rw[Array.size_eq_zero_iff.1 this]
 ·rintro rfl
  rfl
end Go.Proofs.YtdkmmmjjdlnnoaaGreatDoor.K
