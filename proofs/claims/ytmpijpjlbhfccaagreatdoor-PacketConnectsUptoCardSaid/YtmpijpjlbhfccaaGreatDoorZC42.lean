/- Helpers of the proof. -/
import Derived.Test.YtmpijpjlbhfccaaGreatDoorZC41
import Derived.Test.YtmpijpjlbhfccaaGreatDoorZC35
import Derived.Test.YtmpijpjlbhfccaaGreatDoorZC28
import Derived.Test.YtmpijpjlbhfccaaGreatDoorZC26
import Derived.Test.YtmpijpjlbhfccaaGreatDoorZC11
import Derived.Laws.AppendOwn
import Derived.Test.YtmpijpjlbhfccaaGreatDoorZC20
import Derived.Test.YtmpijpjlbhfccaaGreatDoorZC6
import Derived.Test.YtmpijpjlbhfccaaGreatDoorZC21
import Derived.Test.YtmpijpjlbhfccaaGreatDoorZC14
set_option maxHeartbeats 20000000
namespace Go.Proofs.YtmpijpjlbhfccaaGreatDoor.K
open Go.RowKit
set_option maxRecDepth 100000
theorem br_eb_1 {P:Pa} (h:P.kind=1) (X:Option (List Int)) (hX:(sConn P.kind (cflA P) P.keep (cokA P) P.props P.client P.wills P.user P.pass []).bind (sMust (empA P.no_clean.no_keep.no_props.no_client.no_wills.no_user.no_pass))=X):eb P=X:=by
 unfold eb
 rw[if_pos h]
 exact hX
theorem br_may_1 {P:Pa} (h:P.kind=1) (X:Bool) (hX:tlB P (conO P.client P.keep P.wills P.user P.pass) (empA P.no_clean.no_keep.no_props.no_client.no_wills.no_user.no_pass)=X):mayA P=X:=by
 unfold mayA
 rw[if_pos h]
 exact hX
theorem br_gb_1 {P:Pa} (h:P.kind=1) (X:List Int) (hX:((((((((tx gmq++[5])++[(gcf P.user.length P.pass.length P.clean+gwf P.wills) % 256])++b2 P.keep)++pbs P.props)++tx P.client)++P.wills.flatMap gwl)++P.user.flatMap tx)++P.pass.flatMap tx)=X):gbd P=X:=by
 unfold gbd
 rw[if_pos h]
 exact hX
theorem br_may_3 {P:Pa} (h:P.kind=3) (X:Bool) (hX:tlB P (pubO P.topic P.qos P.id P.dup) (empA P.no_dup.no_retain.no_topic.no_qos.no_id.no_props.no_payload)=X):mayA P=X:=by
 unfold mayA
 rw[if_neg (by omega),if_neg (by omega),if_pos h]
 exact hX
theorem tlB_eq (P:Pa) (c E:Bool):tlB P c E=(c&&(E&&okP P.kind P.props)):=by
 unfold tlB
 by_cases h:P.props.length=0
 ·rw[decide_eq_true h,okP_nil _ h];rfl
 ·rw[decide_eq_false h];rfl
theorem each_eq {α:Type} (f:α->List Int->Option (List Int)) (g:α->Bool) (h:α->List Int) (hf:∀ a t,f a t=if g a then some (t++h a) else none):∀ (l:List α) (t:List Int),sEach f l t=if l.all g then some (t++l.flatMap h) else none
 | [],t=>by simp[sEach]
 | a::r,t=>by
  unfold sEach
  rw[hf,List.all_cons,List.flatMap_cons]
  cases g a
  ·rfl
  ·rw[if_pos rfl]
   show sEach f r (t++h a)=_
   rw[each_eq f g h hf r (t++h a),List.append_assoc]
   rfl
theorem tx_eq (s:ByteArray) (t:List Int):sTx s t=if okT s then some (t++tx s) else none:=rfl
theorem pok_of {P:Pa} (h:P.kind=3) (hM:mayA P=true):pok P.dup P.qos=true:=by
 rw[br_may_3 h _ rfl]at hM
 have hc:=(tlB_ok hM).1
 unfold pubO at hc
 simp only[Bool.and_eq_true,decide_eq_true_eq]at hc
 obtain⟨-,h0,h2,h3⟩:=hc
 unfold pok mq
 by_cases hq:P.qos=0
 ·rw[if_pos hq]at h3
  simp only[Bool.and_eq_true]at h3
  simp[hq]
  simpa using h3.2
 ·simp[h0,h2]
  exact .inl (by omega)
def wOk (u:Wl):Bool:=okP 16 u.props&&(okT u.topic&&okB u.payload)
theorem will_eq (u:Wl) (t:List Int):sWill u t=if wOk u then some (t++gwl u) else none:=by
 unfold sWill wOk gwl sAdd
 cases okP 16 u.props<;>cases okT u.topic<;>cases okB u.payload<;>simp
theorem pass_eq (s:ByteArray) (t:List Int):sPass s t=if okB s then some (t++tx s) else none:=rfl
theorem con1_eq {ws:List Wl} (h:ws.length<=1):con1 ws=((ws.all fun u=>mq u.qos)&&ws.all wOk):=by
 match ws,h with
 | [],_=>rfl
 | [u],_ =>
  show mwB u=_
  rw[List.all_cons,List.all_cons,List.all_nil,List.all_nil,Bool.and_true,Bool.and_true]
  unfold mwB wOk mq
  cases okT u.topic<;>cases okB u.payload<;>cases okP 16 u.props<;>simp
theorem con2_eq {us:List ByteArray} (h:us.length<=1):con2 us=us.all okT:=by
 match us,h with
 | [],_=>rfl
 | [u],_=>simp[con2]
theorem con3_eq {us:List ByteArray} (h:us.length<=1):con3 us=us.all okB:=by
 match us,h with
 | [],_=>rfl
 | [u],_=>simp[con3]
theorem cfl0_eq {nu np:Nat} (c:Bool) (h1:nu<=1) (h2:np<=1):cfl0 nu np c=gcf nu np c:=by
 obtain rfl|rfl:nu=0\/nu=1:=by omega
 all_goals obtain rfl|rfl:np=0\/np=1:=by omega
 all_goals cases c<;>decide
theorem cfl1_eq {nu np:Nat} (c:Bool) (h1:nu<=1) (h2:np<=1) (u:Wl) (h:mq u.qos=true):cstepA (cfl0 nu np c) u=gcf nu np c+(fv u.retain 32+8*u.qos+4):=by
 unfold mq at h
 simp only[Bool.and_eq_true,decide_eq_true_eq]at h
 unfold cstepA
 generalize u.retain=r
 generalize u.qos=q at h |-
 obtain⟨h3,h4⟩:=h
 obtain rfl|rfl|rfl:q=0\/q=1\/q=2:=by omega
 all_goals obtain rfl|rfl:nu=0\/nu=1:=by omega
 all_goals obtain rfl|rfl:np=0\/np=1:=by omega
 all_goals cases c<;>cases r<;>decide
theorem cflA_eq {P:Pa} (h0:P.wills.length<=1) (h1:P.user.length<=1) (h2:P.pass.length<=1) (h:(P.wills.all fun u=>mq u.qos)=true):cflA P=gcf P.user.length P.pass.length P.clean+gwf P.wills/\in8 (gcf P.user.length P.pass.length P.clean+gwf P.wills)=true:=by
 unfold cflA
 have hr:=gcf_range P.user.length P.pass.length P.clean
 generalize P.wills=ws at h0 h
 match ws,h0,h with
 | [],_,_ =>
  refine⟨by rw[gwf,Int.add_zero];exact cfl0_eq _ h1 h2,?_⟩
  rw[gwf,Int.add_zero]
  unfold in8
  rw[decide_eq_true (by omega),decide_eq_true (by omega)]
  rfl
 | [u],_,h =>
  have hq:mq u.qos=true:=by simpa using h
  refine⟨cfl1_eq _ h1 h2 u hq,?_⟩
  have r:=fv_range u.retain 32 (by omega)
  unfold mq at hq
  simp only[Bool.and_eq_true,decide_eq_true_eq]at hq
  unfold gwf in8
  dsimp only
  rw[decide_eq_true (by omega),decide_eq_true (by omega)]
  rfl
theorem in16_keep (n:Int):in16 n=(decide (0<=n)&&decide (n<=65535)):=by
 unfold in16
 rw[show decide (n<65536)=decide (n<=65535) from decide_eq_decide.2 (by omega)]
theorem eb_1 {P:Pa} (h:P.kind=1):eb P=if mayA P then some (gbd P) else none:=by
 rw[br_eb_1 h _ rfl,br_may_1 h _ rfl,br_gb_1 h _ rfl,tlB_eq]
 generalize empA P.no_clean.no_keep.no_props.no_client.no_wills.no_user.no_pass=E
 unfold conO con0 cokA cok0 sConn sCon0
 by_cases hn:P.wills.length<=1/\P.user.length<=1/\P.pass.length<=1
 ·obtain⟨n1,n2,n3⟩:=hn
  rw[con1_eq n1,con2_eq n2,con3_eq n3,decide_eq_true n1,decide_eq_true n2,decide_eq_true n3,in16_keep,show okT mqtt=true from by decide,show in8 5=true from rfl]
  cases hq:P.wills.all fun u=>mq u.qos
  ·simp[sMust]
  ·obtain⟨f1,f2⟩:=cflA_eq n1 n2 n3 hq
   rw[f1,f2]
   generalize gcf P.user.length P.pass.length P.clean+gwf P.wills=F
   simp only[sMust,sAdd,Bool.and_true,Bool.true_and,if_true,Option.bind_some]
   cases h1:decide (0<=P.keep)&&decide (P.keep<=65535)
   ·simp
   ·cases okP P.kind P.props
    ·simp[sAdd]
    cases okT P.client
    ·simp[sAdd]
    simp only[sAdd,Bool.and_true,Bool.true_and,if_true,Option.bind_some,each_eq sWill wOk gwl will_eq]
    cases P.wills.all wOk
    ·simp
    simp only[Bool.true_and,if_true,Option.bind_some,each_eq sTx okT tx tx_eq]
    cases P.user.all okT
    ·simp
    simp only[Bool.true_and,if_true,Option.bind_some,each_eq sPass okB tx pass_eq]
    cases P.pass.all okB
    ·simp
    cases E
    ·simp[sMust]
    simp[sMust]
    rfl
 ·have e1:(decide (P.wills.length<=1)&&decide (P.user.length<=1)&&decide (P.pass.length<=1))=false:=by
   rw[Bool.eq_false_iff]
   intro k
   simp only[Bool.and_eq_true,decide_eq_true_eq]at k
   exact hn ⟨k.1.1,k.1.2,k.2⟩
  have e2:(decide (P.wills.length<=1)&&(decide (P.user.length<=1)&&decide (P.pass.length<=1)))=false:=by rw[<- Bool.and_assoc];exact e1
  rw[e1,e2]
  simp[sMust]
theorem fk_of {P:Pa} (hM:mayA P=true):(fkA P).2=true:=by
 unfold fkA
 by_cases h:P.kind=3
 ·rw[if_pos h]
  exact pok_of h hM
 ·rw[if_neg h]
  obtain⟨h1,h2,-⟩:=mayA_kind hM
  by_cases h6:P.kind=6\/P.kind=8\/P.kind=10
  ·rw[if_pos h6]
  ·rw[if_neg h6]
   show (decide _&&decide _)=true
   rw[decide_eq_true h1,decide_eq_true h2]
   rfl
theorem fb_eq {P:Pa} (hM:mayA P=true):fb P.kind (fkA P).1=16*P.kind+gfl P.kind P.dup P.qos P.retain:=by
 obtain⟨h1,h2,h3⟩:=mayA_kind hM
 unfold fkA gfl
 generalize P.dup=d
 generalize P.retain=r
 generalize P.qos=q at h3
 generalize P.kind=k at h1 h2 h3
 by_cases hk:k=3
 ·subst hk
  have h3:0<=q/\q<=2:=by rcases h3 with h|h;(· exact h);(· exact absurd rfl h)
  obtain⟨h4,h5⟩:=h3
  obtain rfl|rfl|rfl:q=0\/q=1\/q=2:=by omega
  all_goals cases d<;>cases r<;>decide +kernel
 ·rw[if_neg hk]
  by_cases h6:k=6\/k=8\/k=10
  ·rw[if_pos h6,if_pos h6]
   rcases h6 with rfl|rfl|rfl<;>decide +kernel
  ·rw[if_neg h6,if_neg h6,if_neg hk]
   clear h3 hM
   obtain rfl|rfl|rfl|rfl|rfl|rfl|rfl|rfl|rfl|rfl|rfl:k=1\/k=2\/k=4\/k=5\/k=7\/k=9\/k=11\/k=12\/k=13\/k=14\/k=15:=by omega
   all_goals decide +kernel
theorem ebytes_eq {P:Pa} (hM:mayA P=true):ebytes P.kind (fkA P).1 (gbd P)=gbytes P.kind (gfl P.kind P.dup P.qos P.retain) (gbd P):=by
 unfold ebytes gbytes
 rw[fb_eq hM]
def pby (P:Pa):List Int:=gbytes P.kind (gfl P.kind P.dup P.qos P.retain) (gbd P)
def EncR (P:Pa) (w:World) (e:Ending) (w':World):Prop:=Below w.heap.size w w' /\
 ((mayA P=false/\∃ x,e=.returned (.tuple #[.slice none 0 0,.iface 125 x])/\Hid (ErP w' (.iface 125 x) 1)) \/
  (mayA P=true/\65536<(pby P).length/\∃ x,e=.returned (.tuple #[.slice none 0 0,.iface 125 x])/\Hid (ErP w' (.iface 125 x) 2)) \/
  (mayA P=true/\(pby P).length<=65536/\∃ v,e=.returned (.tuple #[v,.nilIface])/\Hid (Rwb w' w.heap.size v (pby P))))
theorem num4 (v:Value) (n:Int) (w:World) (hg:Laid w) (hv:ErrX w v n):Calls Tryz.prog 9 #[v] w fun e w'=>e=.returned (.int .i64 n)/\Below w.heap.size w w':=by
 have HG:=zh hg
 have HV:=zh hv
 clear hg hv
 go_enter Tryz.func9,Tryz.ntmps9
 go_wp2_with (go_at_call 31;refine (numx v n _ (uh HG) (uh HV)).mono ?_;rintro e w' ⟨rfl,hb⟩)
 go_ret
 exact⟨rfl,hb⟩
theorem num4_nil (w:World):Calls Tryz.prog 9 #[.nilIface] w fun e w'=>e=.returned (.int .i64 0)/\w'=w:=by
 go_enter Tryz.func9,Tryz.ntmps9
 go_wp2_with (go_at_call 31;refine (num_nil _).mono ?_;rintro e w' ⟨rfl,rfl⟩)
 go_ret
 exact⟨rfl,rfl⟩
theorem two_byt (w:World):Byt (w.alloc (.cells #[.int .u8 192,.int .u8 0] 5)) (.slice (some ⟨w.heap.size,0,none⟩) 2 2) [192,0]:=by
 refine⟨_,2,rfl,⟨by simp,by unfold maxLen;simp⟩,?_,.inr ⟨w.heap.size,0,rfl,?_⟩⟩
 ·intro j;rcases j with _|_|j<;>simp
 ·intro j hj;rcases j with _|_|j
  ·simp
  ·simp
  ·simp at hj;omega
theorem wakes4 (w:World):Calls Tryz.prog 15 #[] w fun e w'=>e=.returned (.bool true)/\Below w.heap.size w w':=by
 have HEN:Hid (∀ W:World,Calls Tryz.prog 7 #[.agg #[.int .i64 12,.bool false,.int .i64 0,.bool false,.string ⟨#[]⟩,.int .i64 0,.string ⟨#[]⟩,.slice none 0 0,.string ⟨#[]⟩,.bool false,.int .i64 0,.slice none 0 0,.slice none 0 0,.slice none 0 0,.int .i64 0,.bool false,.slice none 0 0,.slice none 0 0,.slice none 0 0]] W fun e w'=>∃ v,e=.returned (.tuple #[v,.nilIface])/\Hid (Byt w' v [192,0])/\Below W.heap.size W w'):=fun W=>enc_ping W
 go_enter Tryz.func15,Tryz.ntmps15
 go_wp2_with fail
 refine ((uh HEN) w).mono ?_
 rintro e w1 ⟨v,rfl,hy,hb1⟩
 have ha:Hid (Byt (w1.alloc (.cells #[.int .u8 192,.int .u8 0] 5)) v [192,0]):=(uh hy).below (bal _ _)
 have hbb:=zh (two_byt w1)
 have HB1:=zh hb1
 clear hb1 hy
 go_wp2_with (first|(go_at_call 9;refine (num4_nil _).mono ?_;rintro e w' ⟨rfl,hw⟩;obtain rfl:=hw.symm;clear hw)|(go_at_call 10;refine (eq_any _ _ [192,0] [192,0] _ (uh ha) (uh hbb)).mono ?_;rintro e w' ⟨rfl,q,rfl⟩))
 go_ret
 exact⟨rfl,below_drewN ((uh HB1).alloc (uh HB1).size _) _⟩
structure SF (B:Nat) (T:Nat->TypeId->Prop) (w w':World):Prop where
 os:w'.os=w.os
 tape:w'.tape=w.tape
 output:w'.output=w.output
 size:w.heap.size<=w'.heap.size
 low:∀ k:Nat,k<B->w'.heap[k]?=w.heap[k]?
 same:∀ (k:Nat) (cur:Array Value) (e:TypeId),w.heap[k]?=some (Obj.cells cur e (0,0))->¬ T k e->w'.heap[k]?=some (Obj.cells cur e (0,0))
 shp:∀ (k:Nat) (cur:Array Value) (e:TypeId),w.heap[k]?=some (Obj.cells cur e (0,0))->∃ cur',w'.heap[k]?=some (Obj.cells cur' e (0,0))/\cur'.size=cur.size
def OwnE (w:World) (B:Nat) (e:TypeId) (s:Nat) (v:Value) (n:Nat):Prop:=∃ xs,w.ownsRow B e s v n xs
theorem dec_flag (bl off cap:Nat) (l:List Int) (w:World) (h:Byt w (.slice (some ⟨bl,off,none⟩) l.length cap) l) (hl:l≠[]) (hok:bok (l.getD 0 0)=false):Calls Tryz.prog 11 #[.slice (some ⟨bl,off,none⟩) l.length cap] w (DecPost l w):=by
 have HPN:=zh (pk_new w pkz)
 have HBN:Hid (Below w.heap.size w (w.alloc (.cells pkz.cells.toArray 31))):=bal _ _
 have hl1:1<=l.length:=List.length_pos_iff.2 hl
 obtain⟨hc1,hc2⟩:l.length<=cap/\cap<=maxLen:=by
  obtain⟨ao',cap',e,k1,k2⟩:=h.form
  simp only[Value.slice.injEq]at e
  obtain⟨_,_,rfl⟩:=e
  exact⟨k1,k2⟩
 unfold maxLen at hc2
 have hr0:=h.range 0
 have hbl:w.cell? ⟨bl,off,none⟩=some (.int .u8 (l.getD 0 0)):=by
  obtain⟨ao',cap',e',_,_,hcase⟩:=h
  simp only[Value.slice.injEq]at e'
  obtain⟨rfl,_,rfl⟩:=e'
  rcases hcase with h0|⟨b',off',e2,hc⟩
  ·exact absurd h0 hl
  ·simp only[Option.some.injEq,Addr.mk.injEq]at e2
   obtain⟨rfl,rfl,_⟩:=e2
   exact hc 0 (by omega)
 have hcl:=cell_lt hbl
 have HH:=zh h
 have HL:=zh hl
 generalize hn:l.length=n at hc1 hl1 HH
 have HN:=zh hn
 obtain⟨b,hb⟩:∃ b,l.getD 0 0=b:=⟨_,rfl⟩
 rw[hb]at hr0 hbl hok
 have HB0:=zh hb
 clear h hl hn hb
 have HDN:Hid (dnum l=1):=by
  show _=_
  unfold dnum
  rw[if_neg (uh HL),uh HB0,if_pos hok]
 go_enter Tryz.func11,Tryz.ntmps11
 go_wp2_with fail
 refine (begin_any b hr0.1 hr0.2 _).mono ?_
 rintro e w1 ⟨rfl,hb1⟩
 have HP1:=zh ((uh HPN).below hb1)
 have HB1:Hid (Below w.heap.size w w1):=(uh HBN).trans (hb1.mono (uh HBN).size)
 clear hb1 HPN HBN hbl hcl
 dsimp only
 iterate 10 go_step
 refine wpList_store_mid rfl 31 _ _ rfl w.heap.size 0 (bpk b).cells.toArray rfl rfl ((uh HP1).there _) packet_size (Pkv.ones' _) ?_
 simp only[Act.put]
 have HP2:=zh ((uh HP1).stored (bpk b))
 have HB2:Hid (Below w.heap.size w (w1.setCells w.heap.size 0 (bpk b).cells)):=setCells_below (uh HB1) (Nat.le_refl _)
 generalize w1.setCells w.heap.size 0 (bpk b).cells=w2 at HP2 HB2 |-
 clear HP1 HB1
 rw[hok]
 go_wp2_with fail
 refine (pf_use 1 _).mono ?_
 rintro e w3 ⟨x,rfl,hE,hb3⟩
 have HP3:=zh ((uh HP2).below hb3)
 have HB3:Hid (Below w.heap.size w w3):=(uh HB2).trans (hb3.mono (uh HB2).size)
 clear hb3 HP2 HB2
 dsimp only
 go_step
 refine wpList_store_mid rfl 31 _ _ rfl w.heap.size 0 pkz.cells.toArray rfl rfl ((uh HP3).there _) packet_size (Pkv.ones' _) ?_
 simp only[Act.put]
 have HPS:=zh ((uh HP3).stored pkz)
 have HBS:Hid (Below w.heap.size w (w3.setCells w.heap.size 0 pkz.cells)):=setCells_below (uh HB3) (Nat.le_refl _)
 have HES:Hid (ErP (w3.setCells w.heap.size 0 pkz.cells) (.iface 125 x) 1):=erp_cells (uh hE) (uh HP3).dup
 generalize w3.setCells w.heap.size 0 pkz.cells=wS at HPS HBS HES |-
 go_wp2
 refine bodyPost_ret (res_pk3 (B:=w.heap.size) (q:=pkz) rfl rfl (uh HPS)) rfl ?_
 exact dec_bad l w _ x 1 (uh HDN) (by decide) HES (uh HBS)
theorem dec_meas (bl off cap:Nat) (l:List Int) (w:World) (h:Byt w (.slice (some ⟨bl,off,none⟩) l.length cap) l) (hl:l≠[]) (hok:bok (l.getD 0 0)=true) (hm:(meas l).2.2≠0):Calls Tryz.prog 11 #[.slice (some ⟨bl,off,none⟩) l.length cap] w (DecPost l w):=by
 have HPN:=zh (pk_new w pkz)
 have HBN:Hid (Below w.heap.size w (w.alloc (.cells pkz.cells.toArray 31))):=bal _ _
 have hl1:1<=l.length:=List.length_pos_iff.2 hl
 obtain⟨hc1,hc2⟩:l.length<=cap/\cap<=maxLen:=by
  obtain⟨ao',cap',e,k1,k2⟩:=h.form
  simp only[Value.slice.injEq]at e
  obtain⟨_,_,rfl⟩:=e
  exact⟨k1,k2⟩
 unfold maxLen at hc2
 have hr0:=h.range 0
 have hbl:w.cell? ⟨bl,off,none⟩=some (.int .u8 (l.getD 0 0)):=by
  obtain⟨ao',cap',e',_,_,hcase⟩:=h
  simp only[Value.slice.injEq]at e'
  obtain⟨rfl,_,rfl⟩:=e'
  rcases hcase with h0|⟨b',off',e2,hc⟩
  ·exact absurd h0 hl
  ·simp only[Option.some.injEq,Addr.mk.injEq]at e2
   obtain⟨rfl,rfl,_⟩:=e2
   exact hc 0 (by omega)
 have hcl:=cell_lt hbl
 have HH:=zh h
 have HL:=zh hl
 generalize hn:l.length=n at hc1 hl1 HH
 have HN:=zh hn
 obtain⟨b,hb⟩:∃ b,l.getD 0 0=b:=⟨_,rfl⟩
 rw[hb]at hr0 hbl hok
 have HB0:=zh hb
 clear h hl hn hb
 have HDN:Hid (dnum l=(meas l).2.2):=by
  show _=_
  unfold dnum
  rw[if_neg (uh HL),uh HB0,if_neg (by rw[hok];decide),if_pos hm]
 generalize hmm:(meas l).2.2=m at hm HDN
 have HMM:=zh hmm
 clear hmm
 go_enter Tryz.func11,Tryz.ntmps11
 go_wp2_with fail
 refine (begin_any b hr0.1 hr0.2 _).mono ?_
 rintro e w1 ⟨rfl,hb1⟩
 have HP1:=zh ((uh HPN).below hb1)
 have HB1:Hid (Below w.heap.size w w1):=(uh HBN).trans (hb1.mono (uh HBN).size)
 clear hb1 HPN HBN hbl hcl
 dsimp only
 iterate 10 go_step
 refine wpList_store_mid rfl 31 _ _ rfl w.heap.size 0 (bpk b).cells.toArray rfl rfl ((uh HP1).there _) packet_size (Pkv.ones' _) ?_
 simp only[Act.put]
 have HP2:=zh ((uh HP1).stored (bpk b))
 have HB2:Hid (Below w.heap.size w (w1.setCells w.heap.size 0 (bpk b).cells)):=setCells_below (uh HB1) (Nat.le_refl _)
 generalize w1.setCells w.heap.size 0 (bpk b).cells=w2 at HP2 HB2 |-
 clear HP1 HB1
 rw[hok]
 have HMS:=zh (measure_any (.slice (some ⟨bl,off,none⟩) n cap) l w2 ((uh HH).below (uh HB2)) (uh HL))
 go_wp2_with fail
 refine (uh HMS).mono ?_
 rintro e w3 ⟨E,rfl,hE,hb3⟩
 have HP3:=zh ((uh HP2).below hb3)
 have HB3:Hid (Below w.heap.size w w3):=(uh HB2).trans (hb3.mono (uh HB2).size)
 clear hb3 HP2 HB2 HMS
 rw[uh HMM]at hE
 rcases uh hE with⟨h0,_⟩|⟨_,x,d,hx,hd,he⟩
 ·exact absurd h0 hm
 ·subst hx
  have HE:Hid (ErP w3 (.iface 125 x) m):=⟨x,d,rfl,hd,he⟩
  clear he hE
  go_upto_region 8 with fail
  iterate 7 go_step
  refine wpList_store_mid rfl 31 _ _ rfl w.heap.size 0 pkz.cells.toArray rfl rfl ((uh HP3).there _) packet_size (Pkv.ones' _) ?_
  simp only[Act.put]
  have HPS:=zh ((uh HP3).stored pkz)
  have HBS:Hid (Below w.heap.size w (w3.setCells w.heap.size 0 pkz.cells)):=setCells_below (uh HB3) (Nat.le_refl _)
  have HES:Hid (ErP (w3.setCells w.heap.size 0 pkz.cells) (.iface 125 x) m):=erp_cells (uh HE) (uh HP3).dup
  generalize w3.setCells w.heap.size 0 pkz.cells=wS at HPS HBS HES |-
  go_wp2
  refine bodyPost_ret (res_pk3 (B:=w.heap.size) (q:=pkz) rfl rfl (uh HPS)) rfl ?_
  exact dec_bad l w _ x m (uh HDN) hm HES (uh HBS)
theorem meas_le (l:List Int) (h:(meas l).2.2=0):1<=(meas l).1/\(meas l).1<=(meas l).2.1/\(meas l).2.1<=l.length/\(meas l).2.1<=65536:=by
 unfold meas at h |-
 split at h
 ·contradiction
 ·split at h
  ·simp at h
  ·split at h
   ·simp at h
   ·rename_i h1 h2 h3
    rw[if_neg h1,if_neg h2,if_neg h3]
    simp only
    omega
theorem stp_none {α:Type} {f:List Int->Option (α×List Int)} {l:List Int} {x:α} (h:Stp f (some l) x none):f l=none:=by
 unfold Stp at h
 simp only at h
 cases hq:f l with
 | none=>rfl
 | some r=>rw[hq]at h;cases h.2
theorem stp_some {α:Type} {f:List Int->Option (α×List Int)} {l l':List Int} {x:α} (h:Stp f (some l) x (some l')):f l=some (x,l'):=by
 unfold Stp at h
 simp only at h
 cases hq:f l with
 | none=>rw[hq]at h;cases h
 | some r =>
  rw[hq]at h
  obtain⟨rfl,e⟩:=h
  cases e
  rfl
theorem Pk.lt {w:World} {A:Nat} {q:Pkv} (h:Pk w A q):A<w.heap.size:=cell_lt (h 0 (by omega)).1
theorem dec_body (bl off cap:Nat) (l:List Int) (w:World) (h:Byt w (.slice (some ⟨bl,off,none⟩) l.length cap) l) (hl:l≠[]) (hok:bok (l.getD 0 0)=true) (hm:(meas l).2.2=0) (HPA:Hid (PkAt (l.getD 0 0))):Calls Tryz.prog 11 #[.slice (some ⟨bl,off,none⟩) l.length cap] w (DecPost l w):=by
 have HPN:=zh (pk_new w pkz)
 have HBN:Hid (Below w.heap.size w (w.alloc (.cells pkz.cells.toArray 31))):=bal _ _
 have hl1:1<=l.length:=List.length_pos_iff.2 hl
 obtain⟨hc1,hc2⟩:l.length<=cap/\cap<=maxLen:=by
  obtain⟨ao',cap',e,k1,k2⟩:=h.form
  simp only[Value.slice.injEq]at e
  obtain⟨_,_,rfl⟩:=e
  exact⟨k1,k2⟩
 unfold maxLen at hc2
 have hr0:=h.range 0
 have hbl:w.cell? ⟨bl,off,none⟩=some (.int .u8 (l.getD 0 0)):=by
  obtain⟨ao',cap',e',_,_,hcase⟩:=h
  simp only[Value.slice.injEq]at e'
  obtain⟨rfl,_,rfl⟩:=e'
  rcases hcase with h0|⟨b',off',e2,hc⟩
  ·exact absurd h0 hl
  ·simp only[Option.some.injEq,Addr.mk.injEq]at e2
   obtain⟨rfl,rfl,_⟩:=e2
   exact hc 0 (by omega)
 have hcl:=cell_lt hbl
 have HH:=zh h
 have HL:=zh hl
 generalize hn:l.length=n at hc1 hl1 HH
 have HN:=zh hn
 obtain⟨b,hb⟩:∃ b,l.getD 0 0=b:=⟨_,rfl⟩
 rw[hb]at hr0 hbl hok HPA
 have HB0:=zh hb
 clear h hl hn hb
 obtain⟨hd,hhd⟩:∃ hd,hd=(meas l).1:=⟨_,rfl⟩
 obtain⟨sz,hsz⟩:∃ sz,sz=(meas l).2.1:=⟨_,rfl⟩
 have hms:=meas_le l hm
 rw[<- hhd,<- hsz]at hms
 obtain⟨hh1,hh2,hh3,hh4⟩:=hms
 have HDB:Hid (dbody l=packet? (bpa b) ((l.drop hd).take (sz-hd))):=by
  show dbody l=_
  unfold dbody
  rw[<- hhd,<- hsz,uh HB0]
 have HD1:Hid (packet? (bpa b) ((l.drop hd).take (sz-hd))=none->dnum l=1):=fun e=>by
  unfold dnum
  rw[if_neg (uh HL),uh HB0,if_neg (by rw[hok];decide),if_neg (by rw[hm];decide),uh HDB,e]
  rfl
 have HD0:Hid (∀ {P':Pa} {l':List Int},packet? (bpa b) ((l.drop hd).take (sz-hd))=some (P',l')->dnum l=0):=fun e=>by
  unfold dnum
  rw[if_neg (uh HL),uh HB0,if_neg (by rw[hok];decide),if_neg (by rw[hm];decide),uh HDB,e]
  rfl
 have HSZ:Hid (sz=(meas l).2.1):=hsz
 rw[uh HN]at hh3
 go_enter Tryz.func11,Tryz.ntmps11
 go_wp2_with fail
 refine (begin_any b hr0.1 hr0.2 _).mono ?_
 rintro e w1 ⟨rfl,hb1⟩
 have HP1:=zh ((uh HPN).below hb1)
 have HB1:Hid (Below w.heap.size w w1):=(uh HBN).trans (hb1.mono (uh HBN).size)
 clear hb1 HPN HBN hbl hcl
 dsimp only
 iterate 10 go_step
 refine wpList_store_mid rfl 31 _ _ rfl w.heap.size 0 (bpk b).cells.toArray rfl rfl ((uh HP1).there _) packet_size (Pkv.ones' _) ?_
 simp only[Act.put]
 have HP2:=zh ((uh HP1).stored (bpk b))
 have HB2:Hid (Below w.heap.size w (w1.setCells w.heap.size 0 (bpk b).cells)):=setCells_below (uh HB1) (Nat.le_refl _)
 generalize w1.setCells w.heap.size 0 (bpk b).cells=w2 at HP2 HB2 |-
 clear HP1 HB1
 rw[hok]
 have HMS:=zh (measure_any (.slice (some ⟨bl,off,none⟩) n cap) l w2 ((uh HH).below (uh HB2)) (uh HL))
 go_wp2_with fail
 refine (uh HMS).mono ?_
 rintro e w3 ⟨E,rfl,hE,hb3⟩
 have HP3:=zh ((uh HP2).below hb3)
 have HB3:Hid (Below w.heap.size w w3):=(uh HB2).trans (hb3.mono (uh HB2).size)
 clear hb3 HP2 HB2 HMS
 obtain⟨q,hq⟩:∃ q,q=bpk b:=⟨_,rfl⟩
 have HPK:Hid (∀ w4:World,RS w3 w4 w3.heap.size (some ((l.drop hd).take (sz-hd)))->Pk w4 w3.heap.size q->Calls Tryz.prog 34 #[.pointer (some ⟨w3.heap.size,0,none⟩)] w4 (PackPost w3 w3.heap.size (bpa b) (some ((l.drop hd).take (sz-hd))) w4)):=fun w4 k1 k2=>by
  rw[hq]at k2
  exact (uh HPA) _ _ _ _ k1 k2 (fun l2 e=>by
   cases e
   rw[List.length_take]
   omega)
 clear HPA
 rw[<- hq]at HP3
 rw[<- hhd,<- hsz]
 clear hq hhd hsz
 have HMID:=zh (((uh HH).below (uh HB3)).mid hd (sz-hd) (by omega))
 by_cases hcap:cap=hd
 ·have e1:hd=cap:=hcap.symm
  clear hcap
  subst e1
  have e2:hd=n:=by omega
  have e3:sz=hd:=by omega
  subst e3
  have HBY:Hid (Byt w3 (.slice (some ⟨bl,off,none⟩) 0 0) ((l.drop sz).take (sz-sz))):=by
   show Byt _ _ _
   have k:=uh HMID
   rw[if_pos rfl,Nat.sub_self]at k
   rw[Nat.sub_self]
   exact k
  clear HMID
  subst e2
  obtain⟨hE0,rfl⟩:(meas l).2.2=0/\E=.nilIface:=by
   rcases uh hE with h|⟨h,_⟩
   ·exact h
   ·exact absurd hm h
  clear hE hE0
  have hbd3:=bel_drew w3
  have HPd:=zh ((uh HP3).below hbd3)
  have HBd:Hid (Below w.heap.size w w3.drew):=(uh HB3).trans (hbd3.mono (uh HB3).size)
  clear hbd3
  go_wp2_with fail
  refine wp_region_noPanic ?_
  refine wp_region_held_drew (S:=(fun w'=>w'.rangeAt w.heap.size 0 q.cells)) (by kernel_rfl) (uh HPd).range (fun hHeld=>?_)
  refine wpAnyH_take (i:=0) (oi:={ dst:=some 35,op:=Op.load 31 (Operand.tmp 2),type:=31,pos := "packet.go:81",after:=#[],guard:=none }) (v:=q.val) rfl (by kernel_rfl) (by kernel_rfl) (by kernel_rfl) (fun _ _ _ h=>h) (yieldsIf_load_mid (by rfl) 31 _ rfl w.heap.size 0 rfl q.cells _ (fun _ h=>h) Tryz.underlying31 rfl packet_size) (by assumption) ?_
  simp only[sp]
  refine rtk 1 (h:=?_)
  refine rtk 2 (h:=?_)
  refine rtk 3 (h:=?_)
  refine rtk 4 (h:=?_)
  refine wpAnyH_take (i:=5) (oi:={ dst:=some 40,op:=Op.build 74 #[(0,Operand.tmp 35),(1,Operand.tmp 39)],type:=74,pos := "packet.go:81",after:=#[{ on:=0,ground:=Ground.data },{ on:=4,ground:=Ground.data }],guard:=none }) (v:=.agg (rdc q (some ⟨bl,off,none⟩) 0 0)) rfl (by kernel_rfl) (by kernel_rfl) (by kernel_rfl) (fun _ _ _ h=>h) (Or.inl ⟨by rfl,fun w _=>reader_build _ _ _ _ _ _ _ q (some ⟨bl,off,none⟩) 0 0 rfl rfl w⟩) (by assumption) ?_
  simp only[sp]
  refine rcl 6 (h:=fun K hK=>?_)
  refine step_value rfl (reader_alloc _ _ _ _ _ _) ?_
  refine hK.out _ _ ((uh HPd).below (bal _ _)).range (fun hHeld=>?_)
  clear hK K
  simp only[sp]
  refine rcl 7 (h:=fun K hK=>?_)
  refine step_skip rfl (reader_store _ _ _ _ _ _ _ q (some ⟨bl,off,none⟩) 0 0 w3.drew rfl rfl) ?_
  refine hK.out _ _ ((uh HPd).below (bal _ _)).range (fun hHeld=>?_)
  clear hK K
  simp only[Act.put]
  refine wpAnyH_done (by kernel_rfl) ?_ _
  refine NoPanic.normal ?_
  have hR:w3.drew.heap.size=w3.heap.size:=rfl
  have HPR:=zh (rdc_pk w3.drew q (some ⟨bl,off,none⟩) 0 0)
  have HRS:=zh (rdc_rs w3 w3.drew q (some ⟨bl,off,none⟩) 0 0 ((l.drop sz).take (sz-sz)) (uh HBY) (bel_drew w3))
  have HPA:Hid (Pk (w3.drew.alloc (.cells (rdc q (some ⟨bl,off,none⟩) 0 0) 74)) w.heap.size q):=(uh HPd).below (bal _ _)
  have HBA:Hid (Below w.heap.size w (w3.drew.alloc (.cells (rdc q (some ⟨bl,off,none⟩) 0 0) 74))):=(uh HBd).trans ((bal _ _).mono (uh HBd).size)
  have hAR:w.heap.size<w3.heap.size:=(uh HP3).lt
  have hWs:w3.heap.size<(w3.drew.alloc (.cells (rdc q (some ⟨bl,off,none⟩) 0 0) 74)).heap.size:=by simp
  rw[hR]at HPR HRS
  generalize w3.drew.alloc (.cells (rdc q (some ⟨bl,off,none⟩) 0 0) 74)=w4 at HPR HRS HPA HBA hWs |-
  clear HPd HBd hHeld hR HP3
  go_wp2_with fail
  refine ((uh HPK) _ (uh HRS) (uh HPR)).mono ?_
  rintro e w5 ⟨rfl,p',P',st',hp5,hM5,hs5,h5,hx5⟩
  have HP5:=zh hp5
  have HS5:=zh h5
  have HST5:=zh hs5
  have HA5:=zh ((uh HPA).far hx5 (Nat.ne_of_lt hAR))
  have HB5:Hid (Below w.heap.size w w5):=(uh HBA).trans (hx5.below (Nat.le_of_lt hAR) (uh HBA).size)
  have hR5:w3.heap.size<w5.heap.size:=Nat.lt_of_lt_of_le hWs hx5.size
  have HM5:Hid (Mean w5 w3.heap.size.succ p' P'):=(uh hM5).base hWs
  clear hp5 h5 hs5 hx5 hM5 HPA HBA HPR HRS HPK
  cases st' with
  | none =>
   obtain⟨t,x,d,k,c20,hd2,he⟩:=(uh HS5).bad
   have HE5:=zh he
   clear he
   have HDN:Hid (dnum l=1):=(uh HD1) (stp_none (uh HST5))
   go_wp2_with fail
   refine (pbroken d hd2 _ k _ (uh HE5)).mono ?_
   rintro e w6 ⟨y,rfl,hE,hb6⟩
   have HP6:=zh ((uh HA5).below hb6)
   have HB6:Hid (Below w.heap.size w w6):=(uh HB5).trans (hb6.mono (uh HB5).size)
   clear hb6
   dsimp only
   go_step
   refine wpList_store_mid rfl 31 _ _ rfl w.heap.size 0 pkz.cells.toArray rfl rfl ((uh HP6).there _) packet_size (Pkv.ones' _) ?_
   simp only[Act.put]
   have HPS:=zh ((uh HP6).stored pkz)
   have HBS:Hid (Below w.heap.size w (w6.setCells w.heap.size 0 pkz.cells)):=setCells_below (uh HB6) (Nat.le_refl _)
   have HES:Hid (ErP (w6.setCells w.heap.size 0 pkz.cells) (.iface 125 y) 1):=erp_cells (uh hE) (uh HP6).dup
   generalize w6.setCells w.heap.size 0 pkz.cells=wS at HPS HBS HES |-
   go_wp2
   refine bodyPost_ret (res_pk3 (B:=w.heap.size) (q:=pkz) rfl rfl (uh HPS)) rfl ?_
   exact dec_bad l w _ y 1 (uh HDN) (by decide) HES (uh HBS)
  | some l' =>
   have hds:=stp_some (uh HST5)
   have HDN:Hid (dnum l=0):=(uh HD0) hds
   have HDS:=zh hds
   clear hds
   obtain⟨_,_,c20⟩|⟨hno,_⟩:=(uh HS5).err
   ·go_upto_region 13 with fail
    iterate 4 go_step
    refine wpList_load_mid rfl 31 _ rfl w3.heap.size 0 rfl p'.cells _ (uh HP5).range Tryz.underlying31 rfl packet_size ?_
    simp only[sp]
    iterate 3 go_step
    refine wpList_store_mid rfl 31 _ _ rfl w.heap.size 0 p'.cells.toArray rfl rfl ((uh HA5).there _) packet_size (Pkv.ones' _) ?_
    simp only[Act.put]
    have HPS:=zh ((uh HA5).stored p')
    have HBS:Hid (Below w.heap.size w (w5.setCells w.heap.size 0 p'.cells)):=setCells_below (uh HB5) (Nat.le_refl _)
    have HMS:Hid (Mean (w5.setCells w.heap.size 0 p'.cells) w.heap.size p' P'):=((uh HM5).cells (Nat.lt_succ_of_lt hAR)).base (Nat.le_succ_of_le (Nat.le_of_lt hAR))
    generalize w5.setCells w.heap.size 0 p'.cells=w6 at HPS HBS HMS |-
    clear c20
    go_wp2
    refine bodyPost_ret (res_pk3 (B:=w.heap.size) (q:=p') rfl rfl (uh HPS)) rfl ?_
    exact⟨p',sz,.nilIface,rfl,.inr ⟨uh HDN,(uh HSZ),rfl,P',l',(uh HDB).trans (uh HDS),HMS⟩,uh HBS⟩
   ·cases hno
 ·have HBY:Hid (Byt w3 (.slice (some ⟨bl,off+hd,none⟩) (sz-hd) (cap-hd)) ((l.drop hd).take (sz-hd))):=by
   show Byt _ _ _
   have k:=uh HMID
   rw[if_neg hcap]at k
   exact k
  clear HMID
  obtain⟨hE0,rfl⟩:(meas l).2.2=0/\E=.nilIface:=by
   rcases uh hE with h|⟨h,_⟩
   ·exact h
   ·exact absurd hm h
  clear hE hE0
  have hbd3:=bel_drew w3
  have HPd:=zh ((uh HP3).below hbd3)
  have HBd:Hid (Below w.heap.size w w3.drew):=(uh HB3).trans (hbd3.mono (uh HB3).size)
  clear hbd3
  go_wp2_with fail
  refine wp_region_noPanic ?_
  refine wp_region_held_drew (S:=(fun w'=>w'.rangeAt w.heap.size 0 q.cells)) (by kernel_rfl) (uh HPd).range (fun hHeld=>?_)
  refine wpAnyH_take (i:=0) (oi:={ dst:=some 35,op:=Op.load 31 (Operand.tmp 2),type:=31,pos := "packet.go:81",after:=#[],guard:=none }) (v:=q.val) rfl (by kernel_rfl) (by kernel_rfl) (by kernel_rfl) (fun _ _ _ h=>h) (yieldsIf_load_mid (by rfl) 31 _ rfl w.heap.size 0 rfl q.cells _ (fun _ h=>h) Tryz.underlying31 rfl packet_size) (by assumption) ?_
  simp only[sp]
  refine rtk 1 (h:=?_)
  refine rtk 2 (h:=?_)
  refine rtk 3 (h:=?_)
  refine rtk 4 (h:=?_)
  refine wpAnyH_take (i:=5) (oi:={ dst:=some 40,op:=Op.build 74 #[(0,Operand.tmp 35),(1,Operand.tmp 39)],type:=74,pos := "packet.go:81",after:=#[{ on:=0,ground:=Ground.data },{ on:=4,ground:=Ground.data }],guard:=none }) (v:=.agg (rdc q (some ⟨bl,off+hd,none⟩) (sz-hd) (cap-hd))) rfl (by kernel_rfl) (by kernel_rfl) (by kernel_rfl) (fun _ _ _ h=>h) (Or.inl ⟨by rfl,fun w _=>reader_build _ _ _ _ _ _ _ q (some ⟨bl,off+hd,none⟩) (sz-hd) (cap-hd) rfl rfl w⟩) (by assumption) ?_
  simp only[sp]
  refine rcl 6 (h:=fun K hK=>?_)
  refine step_value rfl (reader_alloc _ _ _ _ _ _) ?_
  refine hK.out _ _ ((uh HPd).below (bal _ _)).range (fun hHeld=>?_)
  clear hK K
  simp only[sp]
  refine rcl 7 (h:=fun K hK=>?_)
  refine step_skip rfl (reader_store _ _ _ _ _ _ _ q (some ⟨bl,off+hd,none⟩) (sz-hd) (cap-hd) w3.drew rfl rfl) ?_
  refine hK.out _ _ ((uh HPd).below (bal _ _)).range (fun hHeld=>?_)
  clear hK K
  simp only[Act.put]
  refine wpAnyH_done (by kernel_rfl) ?_ _
  refine NoPanic.normal ?_
  have hR:w3.drew.heap.size=w3.heap.size:=rfl
  have HPR:=zh (rdc_pk w3.drew q (some ⟨bl,off+hd,none⟩) (sz-hd) (cap-hd))
  have HRS:=zh (rdc_rs w3 w3.drew q (some ⟨bl,off+hd,none⟩) (sz-hd) (cap-hd) ((l.drop hd).take (sz-hd)) (uh HBY) (bel_drew w3))
  have HPA:Hid (Pk (w3.drew.alloc (.cells (rdc q (some ⟨bl,off+hd,none⟩) (sz-hd) (cap-hd)) 74)) w.heap.size q):=(uh HPd).below (bal _ _)
  have HBA:Hid (Below w.heap.size w (w3.drew.alloc (.cells (rdc q (some ⟨bl,off+hd,none⟩) (sz-hd) (cap-hd)) 74))):=(uh HBd).trans ((bal _ _).mono (uh HBd).size)
  have hAR:w.heap.size<w3.heap.size:=(uh HP3).lt
  have hWs:w3.heap.size<(w3.drew.alloc (.cells (rdc q (some ⟨bl,off+hd,none⟩) (sz-hd) (cap-hd)) 74)).heap.size:=by simp
  rw[hR]at HPR HRS
  generalize w3.drew.alloc (.cells (rdc q (some ⟨bl,off+hd,none⟩) (sz-hd) (cap-hd)) 74)=w4 at HPR HRS HPA HBA hWs |-
  clear HPd HBd hHeld hR HP3
  go_wp2_with fail
  refine ((uh HPK) _ (uh HRS) (uh HPR)).mono ?_
  rintro e w5 ⟨rfl,p',P',st',hp5,hM5,hs5,h5,hx5⟩
  have HP5:=zh hp5
  have HS5:=zh h5
  have HST5:=zh hs5
  have HA5:=zh ((uh HPA).far hx5 (Nat.ne_of_lt hAR))
  have HB5:Hid (Below w.heap.size w w5):=(uh HBA).trans (hx5.below (Nat.le_of_lt hAR) (uh HBA).size)
  have hR5:w3.heap.size<w5.heap.size:=Nat.lt_of_lt_of_le hWs hx5.size
  have HM5:Hid (Mean w5 w3.heap.size.succ p' P'):=(uh hM5).base hWs
  clear hp5 h5 hs5 hx5 hM5 HPA HBA HPR HRS HPK
  cases st' with
  | none =>
   obtain⟨t,x,d,k,c20,hd2,he⟩:=(uh HS5).bad
   have HE5:=zh he
   clear he
   have HDN:Hid (dnum l=1):=(uh HD1) (stp_none (uh HST5))
   go_wp2_with fail
   refine (pbroken d hd2 _ k _ (uh HE5)).mono ?_
   rintro e w6 ⟨y,rfl,hE,hb6⟩
   have HP6:=zh ((uh HA5).below hb6)
   have HB6:Hid (Below w.heap.size w w6):=(uh HB5).trans (hb6.mono (uh HB5).size)
   clear hb6
   dsimp only
   go_step
   refine wpList_store_mid rfl 31 _ _ rfl w.heap.size 0 pkz.cells.toArray rfl rfl ((uh HP6).there _) packet_size (Pkv.ones' _) ?_
   simp only[Act.put]
   have HPS:=zh ((uh HP6).stored pkz)
   have HBS:Hid (Below w.heap.size w (w6.setCells w.heap.size 0 pkz.cells)):=setCells_below (uh HB6) (Nat.le_refl _)
   have HES:Hid (ErP (w6.setCells w.heap.size 0 pkz.cells) (.iface 125 y) 1):=erp_cells (uh hE) (uh HP6).dup
   generalize w6.setCells w.heap.size 0 pkz.cells=wS at HPS HBS HES |-
   go_wp2
   refine bodyPost_ret (res_pk3 (B:=w.heap.size) (q:=pkz) rfl rfl (uh HPS)) rfl ?_
   exact dec_bad l w _ y 1 (uh HDN) (by decide) HES (uh HBS)
  | some l' =>
   have hds:=stp_some (uh HST5)
   have HDN:Hid (dnum l=0):=(uh HD0) hds
   have HDS:=zh hds
   clear hds
   obtain⟨_,_,c20⟩|⟨hno,_⟩:=(uh HS5).err
   ·go_upto_region 13 with fail
    iterate 4 go_step
    refine wpList_load_mid rfl 31 _ rfl w3.heap.size 0 rfl p'.cells _ (uh HP5).range Tryz.underlying31 rfl packet_size ?_
    simp only[sp]
    iterate 3 go_step
    refine wpList_store_mid rfl 31 _ _ rfl w.heap.size 0 p'.cells.toArray rfl rfl ((uh HA5).there _) packet_size (Pkv.ones' _) ?_
    simp only[Act.put]
    have HPS:=zh ((uh HA5).stored p')
    have HBS:Hid (Below w.heap.size w (w5.setCells w.heap.size 0 p'.cells)):=setCells_below (uh HB5) (Nat.le_refl _)
    have HMS:Hid (Mean (w5.setCells w.heap.size 0 p'.cells) w.heap.size p' P'):=((uh HM5).cells (Nat.lt_succ_of_lt hAR)).base (Nat.le_succ_of_le (Nat.le_of_lt hAR))
    generalize w5.setCells w.heap.size 0 p'.cells=w6 at HPS HBS HMS |-
    clear c20
    go_wp2
    refine bodyPost_ret (res_pk3 (B:=w.heap.size) (q:=p') rfl rfl (uh HPS)) rfl ?_
    exact⟨p',sz,.nilIface,rfl,.inr ⟨uh HDN,(uh HSZ),rfl,P',l',(uh HDB).trans (uh HDS),HMS⟩,uh HBS⟩
   ·cases hno
theorem decode_k (v:Value) (l:List Int) (w:World) (h:Byt w v l) (HP:bok (l.getD 0 0)=true->PkAt (l.getD 0 0)):Calls Tryz.prog 11 #[v] w (DecPost l w):=by
 by_cases hl:l=[]
 ·subst hl
  obtain⟨ao,cap,rfl,_⟩:=h.form
  exact dec_nil ao cap w
 ·obtain⟨b,off,cap,rfl,_⟩:=h.form1 (List.length_pos_iff.2 hl)
  cases hok:bok (l.getD 0 0)
  ·exact dec_flag b off cap l w h hl hok
  ·by_cases hm:(meas l).2.2=0
   ·exact dec_body b off cap l w h hl hok hm (HP hok)
   ·exact dec_meas b off cap l w h hl hok hm
structure Lts (P:Pa):Prop where
 props:P.props.length<=32
 wills:P.wills.length<=1
 wp:∀ u∈P.wills,u.props.length<=32
 user:P.user.length<=1
 pass:P.pass.length<=1
 subs:P.subs.length<=16
 filters:P.filters.length<=16
 codes:P.codes.length<=16
structure SpOk (w:World) (B:Nat) (q:Pkv):Prop where
 props:∃ n,n<=1000000/\OwnE w B 88 4 q.props.val n
 wills:∃ ws n,n<=1000000/\w.ownsRow B 90 5 q.wills.val n (wcs ws)/\∀ (i:Nat) (u:Wv),ws[i]?=some u->∃ m,m<=1000000/\OwnE w B 88 4 u.props.val m
 user:∃ n,n<=1000000/\OwnE w B 9 1 q.user.val n
 pass:∃ n,n<=1000000/\OwnE w B 9 1 q.pass.val n
 subs:∃ n,n<=1000000/\OwnE w B 93 5 q.subs.val n
 filters:∃ n,n<=1000000/\OwnE w B 9 1 q.filters.val n
 codes:∃ n,n<=1000000/\OwnE w B 3 1 q.codes.val n
theorem bind_inv {α β:Type} {f:List Int->Option (α×List Int)} {g:α->List Int->Option (β×List Int)} {l l':List Int} {y:β} (h:bindR f g l=some (y,l')):∃ x l1,f l=some (x,l1)/\g x l1=some (y,l'):=by
 unfold bindR at h
 cases hf:f l with
 | none=>rw[hf]at h;cases h
 | some r=>rw[hf]at h;exact⟨r.1,r.2,rfl,h⟩
theorem pure_inv {α:Type} {x y:α} {l l':List Int} (h:pureR x l=some (y,l')):y=x:=by
 unfold pureR at h
 cases h
 rfl
theorem must_inv {b:Bool} {l l':List Int} {u:Unit} (h:mustR b l=some (u,l')):b=true:=by
 unfold mustR at h
 cases b
 ·cases h
 ·rfl
theorem props_len {k:Int} {l l':List Int} {x:List Pr} (h:props? k l=some (x,l')):x.length<=32:=by
 unfold props? at h
 split at h
 next h0 =>
  simp only[Option.some.injEq,Prod.mk.injEq]at h
  obtain⟨rfl,_⟩:=h
  unfold plist
  rw[if_pos h0]
  cases hp:parse (pbd l) with
  | none=>simp
  | some q =>
   show q.length<=32
   unfold pgt at h0
   split at h0
   ·contradiction
   ·split at h0
    ·cases h0
    ·rw[rdn_some k _ q hp]at h0
     unfold chkP at h0
     split at h0
     ·split at h0
      ·assumption
      ·cases h0
     ·cases h0
 next=>cases h
theorem reason_len {k:Int} {l l':List Int} {r:Int×List Pr} (h:reason? k l=some (r,l')):r.2.length<=32:=by
 unfold reason? at h
 cases l with
 | nil=>cases h;simp
 | cons c t =>
  simp only at h
  split at h
  ·cases h;simp
  ·cases hp:props? k t with
   | none=>rw[hp]at h;cases h
   | some q =>
    rw[hp]at h
    simp only[Option.map_some,Option.some.injEq,Prod.mk.injEq]at h
    obtain⟨rfl,_⟩:=h
    obtain⟨q1,q2⟩:=q
    exact props_len hp
theorem list_len {α:Type} {f:List Int->Option (α×List Int)} {l l':List Int} {d:List α} (h:list? f l=some (d,l')):d.length<=16:=by
 unfold list? at h
 obtain⟨x,l1,_,h⟩:=bind_inv h
 obtain⟨_,l2,h1,h⟩:=bind_inv h
 have e:=must_inv h1
 obtain rfl:=pure_inv h
 unfold mc at e
 simp only[Bool.and_eq_true,decide_eq_true_eq]at e
 omega
theorem opt_len {α:Type} (o:Option α):o.toList.length<=1:=by cases o<;>simp
theorem body_lts {k:Int} {d:Bool} {q:Int} {r:Bool} {l l':List Int} {P:Pa} (h:body? (pa0 k d q r) l=some (P,l')):Lts P:=by
 unfold body? at h
 by_cases h20:(pa0 k d q r).kind=1
 ·rw[if_pos h20]at h
  obtain⟨n,l1,h1,h⟩:=bind_inv h
  obtain rfl:=pure_inv h
  unfold connect? at h1
  obtain⟨_,_,_,h1⟩:=bind_inv h1
  obtain⟨_,_,_,h1⟩:=bind_inv h1
  obtain⟨_,_,_,h1⟩:=bind_inv h1
  obtain⟨_,_,_,h1⟩:=bind_inv h1
  obtain⟨x,_,_,h1⟩:=bind_inv h1
  obtain⟨kk,_,_,h1⟩:=bind_inv h1
  obtain⟨pr,_,hpr,h1⟩:=bind_inv h1
  obtain⟨c,_,_,h1⟩:=bind_inv h1
  obtain⟨wl,_,hwl,h1⟩:=bind_inv h1
  obtain⟨us,_,_,h1⟩:=bind_inv h1
  obtain⟨pa,_,_,h1⟩:=bind_inv h1
  obtain rfl:=pure_inv h1
  refine⟨props_len hpr,?_,?_,opt_len _,opt_len _,by simp[ofCn,pa0],by simp[ofCn,pa0],by simp[ofCn,pa0]⟩
  ·show (wlOf x wl).length<=1
   unfold wlOf
   split<;>simp
  ·intro u hu
   replace hu:u∈wlOf x wl:=hu
   unfold will? at hwl
   by_cases h4:btest x 4=true
   ·rw[if_pos h4]at hwl
    obtain⟨q2,_,hq,hwl⟩:=bind_inv hwl
    obtain⟨t,_,_,hwl⟩:=bind_inv hwl
    obtain⟨y,_,_,hwl⟩:=bind_inv hwl
    obtain rfl:=pure_inv hwl
    simp[wlOf]at hu
    subst hu
    exact props_len hq
   ·rw[if_neg h4]at hwl
    obtain rfl:=pure_inv hwl
    simp[wlOf]at hu
 ·rw[if_neg h20]at h
  by_cases h21:(pa0 k d q r).kind=2
  ·rw[if_pos h21]at h
   obtain⟨f,_,_,h⟩:=bind_inv h
   obtain⟨_,_,_,h⟩:=bind_inv h
   obtain⟨c,_,_,h⟩:=bind_inv h
   obtain⟨x,_,hx,h⟩:=bind_inv h
   obtain rfl:=pure_inv h
   exact⟨props_len hx,by simp[pa0],by simp[pa0],by simp[pa0],by simp[pa0],by simp[pa0],by simp[pa0],by simp[pa0]⟩
  ·rw[if_neg h21]at h
   by_cases h22:(pa0 k d q r).kind=3
   ·rw[if_pos h22]at h
    obtain⟨r',_,h1,h⟩:=bind_inv h
    obtain rfl:=pure_inv h
    unfold publish? at h1
    obtain⟨t,_,_,h1⟩:=bind_inv h1
    obtain⟨i,_,_,h1⟩:=bind_inv h1
    obtain⟨x,_,hx,h1⟩:=bind_inv h1
    obtain⟨y,_,_,h1⟩:=bind_inv h1
    obtain rfl:=pure_inv h1
    exact⟨props_len hx,by simp[pa0],by simp[pa0],by simp[pa0],by simp[pa0],by simp[pa0],by simp[pa0],by simp[pa0]⟩
   ·rw[if_neg h22]at h
    by_cases h23:(pa0 k d q r).kind=8
    ·rw[if_pos h23]at h
     obtain⟨i,_,_,h⟩:=bind_inv h
     obtain⟨x,_,hx,h⟩:=bind_inv h
     obtain⟨dd,_,hd,h⟩:=bind_inv h
     obtain rfl:=pure_inv h
     exact⟨props_len hx,by simp[pa0],by simp[pa0],by simp[pa0],by simp[pa0],list_len hd,by simp[pa0],by simp[pa0]⟩
    ·rw[if_neg h23]at h
     by_cases h24:(pa0 k d q r).kind=10
     ·rw[if_pos h24]at h
      obtain⟨i,_,_,h⟩:=bind_inv h
      obtain⟨x,_,hx,h⟩:=bind_inv h
      obtain⟨dd,_,hd,h⟩:=bind_inv h
      obtain rfl:=pure_inv h
      exact⟨props_len hx,by simp[pa0],by simp[pa0],by simp[pa0],by simp[pa0],by simp[pa0],list_len hd,by simp[pa0]⟩
     ·rw[if_neg h24]at h
      by_cases h25:(pa0 k d q r).kind=9\/(pa0 k d q r).kind=11
      ·rw[if_pos h25]at h
       obtain⟨i,_,_,h⟩:=bind_inv h
       obtain⟨x,_,hx,h⟩:=bind_inv h
       obtain⟨dd,_,hd,h⟩:=bind_inv h
       obtain rfl:=pure_inv h
       exact⟨props_len hx,by simp[pa0],by simp[pa0],by simp[pa0],by simp[pa0],by simp[pa0],by simp[pa0],list_len hd⟩
      ·rw[if_neg h25]at h
       by_cases h26:(pa0 k d q r).kind=4\/(pa0 k d q r).kind=5\/(pa0 k d q r).kind=6\/(pa0 k d q r).kind=7
       ·rw[if_pos h26]at h
        obtain⟨i,_,_,h⟩:=bind_inv h
        obtain⟨r',_,hr,h⟩:=bind_inv h
        obtain rfl:=pure_inv h
        exact⟨reason_len hr,by simp[pa0],by simp[pa0],by simp[pa0],by simp[pa0],by simp[pa0],by simp[pa0],by simp[pa0]⟩
       ·rw[if_neg h26]at h
        by_cases h27:(pa0 k d q r).kind=14\/(pa0 k d q r).kind=15
        ·rw[if_pos h27]at h
         obtain⟨r',_,hr,h⟩:=bind_inv h
         obtain rfl:=pure_inv h
         exact⟨reason_len hr,by simp[pa0],by simp[pa0],by simp[pa0],by simp[pa0],by simp[pa0],by simp[pa0],by simp[pa0]⟩
        ·rw[if_neg h27]at h
         obtain rfl:=pure_inv h
         exact⟨by simp[pa0],by simp[pa0],by simp[pa0],by simp[pa0],by simp[pa0],by simp[pa0],by simp[pa0],by simp[pa0]⟩
theorem dbody_lts {l l':List Int} {P:Pa} (h:dbody l=some (P,l')):Lts P:=by
 unfold dbody packet? at h
 obtain⟨P',_,h1,h⟩:=bind_inv h
 obtain⟨_,_,_,h⟩:=bind_inv h
 obtain rfl:=pure_inv h
 unfold bpa at h1
 split at h1
 ·exact body_lts h1
 ·exact body_lts h1
structure GW extends World where
 N:Nat
instance :Coe GW World:=⟨GW.toWorld⟩
def RPc (w:World) (R:Nat) (ao:Option Addr) (n cap k:Nat) (bad:Bool):Prop :=
 w.cell? ⟨R,0,none⟩=some (.slice ao n cap)/\(w.cell? ⟨R,1,none⟩=some (.int .i64 k)/\w.frozen? ⟨R,1,none⟩=false)/\w.cell? ⟨R,2,none⟩=some (.bool bad)/\w.frozen? ⟨R,2,none⟩=false
def RP (w0:GW) (w:World) (R:Nat) (st:Option (List Int)):Prop :=
 ∃ ao n cap k bad L,RPc w R ao n cap k bad/\Byt w0 (.slice ao n cap) L/\k<=n/\(n<=140737488355328/\Hid (n=w0.N))/\Below w0.heap.size w0 w/\w0.heap.size<=R/\st=if bad then none else some (L.drop k)
theorem RPc.setBad {w:World} {R:Nat} {ao:Option Addr} {n cap k:Nat} {bad:Bool} (h:RPc w R ao n cap k bad) (b:Bool):RPc (w.setCell ⟨R,2,none⟩ (.bool b)) R ao n cap k b:=by
 obtain⟨h1,⟨h2,h3⟩,h4,h5⟩:=h
 exact⟨(World.cell?_setCell_other _ _ _ _ (by intro e;simp at e)).trans h1,⟨(World.cell?_setCell_other _ _ _ _ (by intro e;simp at e)).trans h2,by simpa using h3⟩,World.cell?_setCell_same _ _ _ h4,by simpa using h5⟩
theorem RPc.setAt {w:World} {R:Nat} {ao:Option Addr} {n cap k:Nat} {bad:Bool} (h:RPc w R ao n cap k bad) (j:Nat):RPc (w.setCell ⟨R,1,none⟩ (.int .i64 j)) R ao n cap j bad:=by
 obtain⟨h1,⟨h2,h3⟩,h4,h5⟩:=h
 exact⟨(World.cell?_setCell_other _ _ _ _ (by intro e;simp at e)).trans h1,⟨World.cell?_setCell_same _ _ _ h2,by simpa using h3⟩,(World.cell?_setCell_other _ _ _ _ (by intro e;simp at e)).trans h4,by simpa using h5⟩
theorem RPc.lt {w:World} {R:Nat} {ao:Option Addr} {n cap k:Nat} {bad:Bool} (h:RPc w R ao n cap k bad):R<w.heap.size:=cell_lt h.1
theorem RPc.far {w w':World} {R:Nat} {ao:Option Addr} {n cap k:Nat} {bad:Bool} (h:RPc w R ao n cap k bad) (hb:w'.heap[R]?=w.heap[R]?):RPc w' R ao n cap k bad:=by
 obtain⟨h1,⟨h2,h3⟩,h4,h5⟩:=h
 exact⟨(World.cell?_of_block (a:=⟨R,0,none⟩) hb).trans h1,⟨(World.cell?_of_block (a:=⟨R,1,none⟩) hb).trans h2,(World.frozen?_of_block (a:=⟨R,1,none⟩) hb).trans h3⟩,(World.cell?_of_block (a:=⟨R,2,none⟩) hb).trans h4,(World.frozen?_of_block (a:=⟨R,2,none⟩) hb).trans h5⟩
theorem RP.lt {w0:GW} {w:World} {R:Nat} {st:Option (List Int)} (h:RP w0 w R st):R<w.heap.size:=by
 obtain⟨_,_,_,_,_,_,h,_⟩:=h
 exact h.lt
theorem RP.below {w0:GW} {w w':World} {R:Nat} {st:Option (List Int)} (h:RP w0 w R st) (hb:Below w.heap.size w w'):RP w0 w' R st:=by
 obtain⟨ao,n,cap,k,bad,L,hc,hy,hk,hn,hw,hR,hst⟩:=h
 exact⟨ao,n,cap,k,bad,L,hc.far (hb.block R hc.lt),hy,hk,hn,hw.trans (hb.mono hw.size),hR,hst⟩
theorem byt_len {w:World} {ao:Option Addr} {n cap:Nat} {L:List Int} (h:Byt w (.slice ao n cap) L):L.length=n/\n<=cap/\cap<=maxLen:=by
 obtain⟨ao',cap',e,k1,k2⟩:=h.form
 simp only[Value.slice.injEq]at e
 obtain⟨_,rfl,rfl⟩:=e
 exact⟨rfl,k1,k2⟩
theorem byt_at {w:World} {ao:Option Addr} {n cap:Nat} {L:List Int} (h:Byt w (.slice ao n cap) L) (k:Nat) (hk:k<n):∃ b off,ao=some ⟨b,off,none⟩/\w.cell? ⟨b,off+k,none⟩=some (.int .u8 (L.getD k 0)):=by
 have hl:=(byt_len h).1
 obtain⟨ao',cap',e,_,_,hcase⟩:=h
 simp only[Value.slice.injEq]at e
 obtain⟨rfl,_,rfl⟩:=e
 rcases hcase with rfl|⟨b,off,e2,hc⟩
 ·simp at hl;omega
 ·exact⟨b,off,e2,hc k (by omega)⟩
def PgI (w0:GW) (R hi:Nat) (f:List Int->Option (Int×List Int)) (st:Option (List Int)) (w:World) (e:Ending) (w':World):Prop :=
 ∃ x st',e=.returned (.int .i64 x)/\(0<=x/\x<=hi)/\Stp f st x st'/\RP w0 w' R st'/\BX R isAny w w'
theorem drop_cons (L:List Int) (k:Nat) (hk:k<L.length):L.drop k=L.getD k 0::L.drop (k+1):=by
 rw[List.drop_eq_getElem_cons hk,List.getD_eq_getElem?_getD,List.getElem?_eq_getElem hk]
 rfl
theorem byte_pg (R:Nat) (st:Option (List Int)) (w0:GW) (w:World) (h:RP w0 w R st):Calls Tryz.prog 88 #[.pointer (some ⟨R,0,none⟩)] w (PgI w0 R 255 one? st w):=by
 obtain⟨ao,n,cap,k,bad,L,hc,hy,hk,hn,hw,hR,hst⟩:=h
 obtain⟨hl,hc1,hc2⟩:=byt_len hy
 unfold maxLen at hc2
 have HC:=zh hc
 have HY:=zh hy
 have HW:=zh hw
 have HST:=zh hst
 have HD:=zh (bel_drew w)
 have hlt:=hc.lt
 obtain⟨h0,⟨h1,f1⟩,h2,f2⟩:=hc
 have hr:=hy.range
 have hat:=byt_at hy
 have HL:=zh hl
 clear hy hw hst hl
 cases bad
 ·by_cases hkn:k=n
  ·subst hkn
   clear hr hat
   have hkk:((k:Int)==(k:Int))=true:=by simp
   go_enter Tryz.func88,Tryz.ntmps88
   go_wp2_with fail
   refine wp_region_noPanic ?_
   refine wp_region_held_drew (S:=(fun w'=>w'.cell? ⟨R,0,none⟩=some (.slice ao k cap)/\w'.cell? ⟨R,1,none⟩=some (.int .i64 (k:Nat))/\w'.cell? ⟨R,2,none⟩=some (.bool false))) (by kernel_rfl) ⟨by simpa using h0,by simpa using h1,by simpa using h2⟩ (fun hHeld=>?_)
   refine rtk 0 (h:=?_)
   refine rtk 1 (h:=?_)
   refine rtk 2 (h:=?_)
   refine rtk 3 (h:=?_)
   refine rtk 4 (h:=?_)
   refine rtk 5 (h:=?_)
   refine rtk 6 (h:=?_)
   refine rtk 7 (h:=?_)
   refine rtk 8 (h:=?_)
   refine rtk 9 (h:=?_)
   refine rtk 10 (h:=?_)
   refine rtk 11 (h:=?_)
   refine rtk 12 (h:=?_)
   refine rtk 13 (h:=?_)
   refine rtk 14 (h:=?_)
   refine rtk 15 (h:=?_)
   refine wpAnyH_done (by kernel_rfl) ?_ _
   refine NoPanic.normal ?_
   go_wp2
   go_ret
   have hx:BX R isAny w (w.drew.setCell ⟨R,2,none⟩ (.bool true)):=(BX.of_below (uh HD) hlt).set 2 _ trivial
   refine⟨0,none,rfl,by omega,?_,⟨ao,k,cap,k,true,L,((uh HC).far rfl).setBad true,uh HY,Nat.le_refl _,hn,hx.keep (uh HW) hR,hR,rfl⟩,hx⟩
   have est:st=some (L.drop k):=uh HST
   rw[est]
   have e:L.drop k=[]:=List.drop_of_length_le (by rw[uh HL];exact Nat.le_refl _)
   rw[e]
   rfl
  ·have hkl:k<n:=by omega
   obtain⟨b,off,rfl,hcell⟩:=hat k hkl
   have hcw:w.cell? ⟨b,off+k,none⟩=some (.int .u8 (L.getD k 0)):=((uh HW).cell (p:=⟨b,off+k,none⟩) (cell_lt hcell)).trans hcell
   have hbR:b≠R:=fun e=>by have:=cell_lt hcell;simp only at this;omega
   have hv:=hr k
   have HDC:=zh (drop_cons L k (by rw[uh HL];exact hkl))
   have hkk:((k:Int)==(n:Int))=false:=by simp;omega
   have hwk:IntKind.i64.wrap (k:Int)=k:=by rw[IntKind.wrap_i64];omega
   clear hr hat hcell
   generalize L.getD k 0=v at hcw hv HDC
   have hwv:IntKind.i64.wrap v=v:=by rw[IntKind.wrap_i64];omega
   go_enter Tryz.func88,Tryz.ntmps88
   go_wp2_with fail
   refine wp_region_noPanic ?_
   refine wp_region_held_drew (S:=(fun w'=>w'.cell? ⟨R,0,none⟩=some (.slice (some ⟨b,off,none⟩) n cap)/\w'.cell? ⟨R,1,none⟩=some (.int .i64 (k:Nat))/\w'.cell? ⟨R,2,none⟩=some (.bool false))) (by kernel_rfl) ⟨by simpa using h0,by simpa using h1,by simpa using h2⟩ (fun hHeld=>?_)
   refine rtk 0 (h:=?_)
   refine rtk 1 (h:=?_)
   refine rtk 2 (h:=?_)
   refine rtk 3 (h:=?_)
   refine rtk 4 (h:=?_)
   refine rtk 5 (h:=?_)
   refine rtk 6 (h:=?_)
   refine rtk 7 (h:=?_)
   refine rtk 8 (h:=?_)
   refine rtk 9 (h:=?_)
   refine rtk 10 (h:=?_)
   refine rtk 11 (h:=?_)
   refine rtk 12 (h:=?_)
   refine rtk 13 (h:=?_)
   refine rtk 14 (h:=?_)
   refine rtk 15 (h:=?_)
   refine wpAnyH_done (by kernel_rfl) ?_ _
   refine NoPanic.normal ?_
   go_wp2_with fail
   refine wp_region_noPanic ?_
   refine wp_region_held_drew (S:=(fun w'=>w'.cell? ⟨R,0,none⟩=some (.slice (some ⟨b,off,none⟩) n cap)/\w'.cell? ⟨R,1,none⟩=some (.int .i64 (k+1:Nat))/\w'.cell? ⟨b,off+k,none⟩=some (.int .u8 v))) (by kernel_rfl) ⟨by simp (maxDischargeDepth:=12) [cell_set,h0],by simp (maxDischargeDepth:=12) [cell_set,h1],by simp (maxDischargeDepth:=12) [cell_set,hcw]⟩ (fun hHeld=>?_)
   refine rtk 0 (h:=?_)
   refine rtk 1 (h:=?_)
   refine rtk 2 (h:=?_)
   refine rtk 3 (h:=?_)
   refine rtk 4 (h:=?_)
   refine rtk 5 (h:=?_)
   refine rtk 6 (h:=?_)
   refine rtk 7 (h:=?_)
   refine rtk 8 (h:=?_)
   refine rtk 9 (h:=?_)
   refine rtk 10 (h:=?_)
   refine rtk 11 (h:=?_)
   refine rcl 12 (h:=fun K hK=>?_)
   go_simp
   refine hK.out _ _ ⟨by simp (maxDischargeDepth:=12) [cell_set,h0],by simp (maxDischargeDepth:=12) [cell_set,h1],by simp (maxDischargeDepth:=12) [cell_set,hcw]⟩ (fun hHeld=>?_)
   clear hK K
   refine wpAnyH_done (by kernel_rfl) ?_ _
   refine NoPanic.normal ?_
   go_wp2
   go_ret
   have hx:BX R isAny w ((w.drew.setCell ⟨R,1,none⟩ (.int .i64 (k+1:Nat))).drew):=((BX.of_below (uh HD) hlt).set 1 _ trivial).trans (BX.of_below (bel_drew _) (by simpa [World.setCell] using hlt))
   have HC2:=((((uh HC).far (w':=w.drew) rfl).setAt (k+1)).far (w':=(w.drew.setCell ⟨R,1,none⟩ (.int .i64 (k+1:Nat))).drew) rfl)
   refine⟨v,some (L.drop (k+1)),rfl,hv,?_,⟨_,n,cap,k+1,false,L,HC2,uh HY,by omega,hn,hx.keep (uh HW) hR,hR,rfl⟩,hx⟩
   have est:st=some (L.drop k):=uh HST
   rw[est,uh HDC]
   exact⟨rfl,rfl⟩
 ·go_enter Tryz.func88,Tryz.ntmps88
  go_wp2_with fail
  refine wp_region_noPanic ?_
  refine wp_region_held_drew (S:=(fun w'=>w'.cell? ⟨R,0,none⟩=some (.slice ao n cap)/\w'.cell? ⟨R,1,none⟩=some (.int .i64 (k:Nat))/\w'.cell? ⟨R,2,none⟩=some (.bool true))) (by kernel_rfl) ⟨by simpa using h0,by simpa using h1,by simpa using h2⟩ (fun hHeld=>?_)
  refine rtk 0 (h:=?_)
  refine rtk 1 (h:=?_)
  refine rtk 2 (h:=?_)
  refine rtk 3 (h:=?_)
  refine rtk 4 (h:=?_)
  refine rsk 5 (h:=?_)
  refine rsk 6 (h:=?_)
  refine rsk 7 (h:=?_)
  refine rsk 8 (h:=?_)
  refine rsk 9 (h:=?_)
  refine rsk 10 (h:=?_)
  refine rsk 11 (h:=?_)
  refine rsk 12 (h:=?_)
  refine rsk 13 (h:=?_)
  refine rsk 14 (h:=?_)
  refine rtk 15 (h:=?_)
  refine wpAnyH_done (by kernel_rfl) ?_ _
  refine NoPanic.normal ?_
  go_wp2
  go_ret
  have hx:BX R isAny w (w.drew.setCell ⟨R,2,none⟩ (.bool true)):=(BX.of_below (uh HD) hlt).set 2 _ trivial
  exact⟨0,none,rfl,by omega,(by have est:st=none:=uh HST;rw[est];rfl),⟨ao,n,cap,k,true,L,((uh HC).far rfl).setBad true,uh HY,hk,hn,hx.keep (uh HW) hR,hR,rfl⟩,hx⟩
theorem left_pg (R:Nat) (st:Option (List Int)) (w0:GW) (w:World) (h:RP w0 w R st):Calls Tryz.prog 92 #[.pointer (some ⟨R,0,none⟩)] w fun e w'=>∃ v l,e=.returned v/\Hid (Byt w0 v l)/\(∀ l',st=some l'->l'=l)/\(st=none->l=[])/\Below w.heap.size w w':=by
 obtain⟨ao,n,cap,k,bad,L,hc,hy,hk,hn,hw,hR,hst⟩:=h
 obtain⟨hl,hc1,hc2⟩:=byt_len hy
 unfold maxLen at hc2
 obtain⟨h0,⟨h1,f1⟩,h2,f2⟩:=hc
 have HST:=zh hst
 have HD0:=zh (bel_drew w)
 clear hw hst
 cases bad
 ·have est:Hid (st=some (L.drop k)):=uh HST
  by_cases hn0:n=0
  ·subst hn0
   obtain rfl:k=0:=by omega
   obtain rfl:L=[]:=List.length_eq_zero_iff.1 hl
   have HY:=zh hy
   clear hy hl HST
   go_enter Tryz.func92,Tryz.ntmps92
   go_wp2_with fail
   refine wp_region_noPanic ?_
   refine wp_region_held_drew (S:=(fun w'=>w'.cell? ⟨R,0,none⟩=some (.slice ao 0 cap)/\w'.cell? ⟨R,1,none⟩=some (.int .i64 (0:Nat)))) (by kernel_rfl) ⟨by simpa using h0,by simpa using h1⟩ (fun hHeld=>?_)
   refine rtk 0 (h:=?_)
   refine rtk 1 (h:=?_)
   refine rtk 2 (h:=?_)
   refine rtk 3 (h:=?_)
   refine rtk 4 (h:=?_)
   refine rtk 5 (h:=?_)
   refine rtk 6 (h:=?_)
   refine rtk 7 (h:=?_)
   refine rtk 8 (h:=?_)
   refine rcl 9 (h:=fun K hK=>?_)
   go_simp
   refine hK.out _ _ ⟨by simpa using h0,by simpa using h1⟩ (fun hHeld=>?_)
   clear hK K
   refine wpAnyH_done (by kernel_rfl) ?_ _
   refine NoPanic.normal ?_
   go_wp2
   go_ret
   exact⟨_,[],rfl,HY,(fun l' e=>(Option.some.inj ((uh est).symm.trans e)).symm),(fun e=>absurd ((uh est).symm.trans e) (by simp)),uh HD0⟩
  ·obtain⟨b,off,rfl,_⟩:=byt_at hy 0 (by omega)
   have HDR:=zh (hy.drop' k hk)
   clear hy hl HST
   by_cases hcap:cap=k
   ·have e1:k=cap:=hcap.symm
    clear hcap
    subst e1
    obtain rfl:n=k:=by omega
    have HD:Hid (Byt w0 (.slice (some ⟨b,off,none⟩) 0 0) (L.drop n)):=by
     show Byt _ _ _
     have q:=uh HDR
     rw[if_pos rfl,Nat.sub_self]at q
     exact q
    clear HDR
    go_enter Tryz.func92,Tryz.ntmps92
    go_wp2_with fail
    refine wp_region_noPanic ?_
    refine wp_region_held_drew (S:=(fun w'=>w'.cell? ⟨R,0,none⟩=some (.slice (some ⟨b,off,none⟩) n n)/\w'.cell? ⟨R,1,none⟩=some (.int .i64 (n:Nat)))) (by kernel_rfl) ⟨by simpa using h0,by simpa using h1⟩ (fun hHeld=>?_)
    refine rtk 0 (h:=?_)
    refine rtk 1 (h:=?_)
    refine rtk 2 (h:=?_)
    refine rtk 3 (h:=?_)
    refine rtk 4 (h:=?_)
    refine rtk 5 (h:=?_)
    refine rtk 6 (h:=?_)
    refine rtk 7 (h:=?_)
    refine rtk 8 (h:=?_)
    refine rcl 9 (h:=fun K hK=>?_)
    go_simp
    refine hK.out _ _ ⟨by simpa using h0,by simpa using h1⟩ (fun hHeld=>?_)
    clear hK K
    refine wpAnyH_done (by kernel_rfl) ?_ _
    refine NoPanic.normal ?_
    go_wp2
    go_ret
    exact⟨_,_,rfl,HD,(fun l' e=>(Option.some.inj ((uh est).symm.trans e)).symm),(fun e=>absurd ((uh est).symm.trans e) (by simp)),uh HD0⟩
   ·have HD:Hid (Byt w0 (.slice (some ⟨b,off+k,none⟩) (n-k) (cap-k)) (L.drop k)):=by
     show Byt _ _ _
     have q:=uh HDR
     rw[if_neg hcap]at q
     exact q
    clear HDR
    go_enter Tryz.func92,Tryz.ntmps92
    go_wp2_with fail
    refine wp_region_noPanic ?_
    refine wp_region_held_drew (S:=(fun w'=>w'.cell? ⟨R,0,none⟩=some (.slice (some ⟨b,off,none⟩) n cap)/\w'.cell? ⟨R,1,none⟩=some (.int .i64 (k:Nat)))) (by kernel_rfl) ⟨by simpa using h0,by simpa using h1⟩ (fun hHeld=>?_)
    refine rtk 0 (h:=?_)
    refine rtk 1 (h:=?_)
    refine rtk 2 (h:=?_)
    refine rtk 3 (h:=?_)
    refine rtk 4 (h:=?_)
    refine rtk 5 (h:=?_)
    refine rtk 6 (h:=?_)
    refine rtk 7 (h:=?_)
    refine rtk 8 (h:=?_)
    refine rcl 9 (h:=fun K hK=>?_)
    go_simp
    refine hK.out _ _ ⟨by simpa using h0,by simpa using h1⟩ (fun hHeld=>?_)
    clear hK K
    refine wpAnyH_done (by kernel_rfl) ?_ _
    refine NoPanic.normal ?_
    go_wp2
    go_ret
    exact⟨_,_,rfl,HD,(fun l' e=>(Option.some.inj ((uh est).symm.trans e)).symm),(fun e=>absurd ((uh est).symm.trans e) (by simp)),uh HD0⟩
 ·have est:Hid (st=none):=uh HST
  clear hy hl HST
  go_enter Tryz.func92,Tryz.ntmps92
  go_wp2
  go_ret
  exact⟨_,[],rfl,(⟨none,0,rfl,⟨by simp,by simp⟩,by intro j;simp,.inl rfl⟩:Byt w0 (.slice none 0 0) []),(fun l' e=>by rw[uh est]at e;cases e),(fun _=>rfl),Below.refl _ _⟩
theorem took_pg (R:Nat) (st:Option (List Int)) (n:Nat) (m:Int) (w0:GW) (w:World) (h:RP w0 w R st) (hn:∀ l,st=some l->n<=l.length):Calls Tryz.prog 131 #[.pointer (some ⟨R,0,none⟩),.int .i64 n,.int .i64 m] w fun e w'=>e=.returned (.tuple #[])/\RP w0 w' R (if m=0 then st.map (fun l=>l.drop n) else none)/\BX R isAny w w':=by
 obtain⟨ao,N,cap,k,bad,L,hc,hy,hk,hN,hw,hR,hst⟩:=h
 obtain⟨hl,hc1,hc2⟩:=byt_len hy
 have hlt:=hc.lt
 have HC:=zh hc
 have HY:=zh hy
 have HW:=zh hw
 obtain⟨h0,⟨h1,f1⟩,h2,f2⟩:=hc
 cases bad
 ·have est:st=some (L.drop k):=hst
  have hnk:k+n<=N:=by
   have:=hn _ est
   rw[List.length_drop,hl]at this
   omega
  subst est
  clear hn hy hw hst
  by_cases hm:m=0
  ·subst hm
   have HL:=zh hl
   clear hl
   go_enter Tryz.func131,Tryz.ntmps131
   go_wp2
   go_end0
   have hx:BX R isAny w (w.setCell ⟨R,1,none⟩ (.int .i64 ((k+n:Nat):Int))):=(BX.refl _ _ _).set 1 _ trivial
   refine⟨rfl,⟨ao,N,cap,k+n,false,L,(uh HC).setAt (k+n),uh HY,hnk,hN,hx.keep (uh HW) hR,hR,?_⟩,hx⟩
   simp
  ·have hm2:(m != 0)=true:=by simpa using hm
   go_enter Tryz.func131,Tryz.ntmps131
   go_wp2
   go_end0
   have hx:BX R isAny w (w.setCell ⟨R,2,none⟩ (.bool true)):=(BX.refl _ _ _).set 2 _ trivial
   refine⟨rfl,⟨ao,N,cap,k,true,L,(uh HC).setBad true,uh HY,hk,hN,hx.keep (uh HW) hR,hR,?_⟩,hx⟩
   rfl
 ·have est:st=none:=hst
  subst est
  clear hn hy hw hst
  by_cases hm:m=0
  ·subst hm
   go_enter Tryz.func131,Tryz.ntmps131
   go_wp2
   go_end0
   exact⟨rfl,⟨ao,N,cap,k,true,L,uh HC,uh HY,hk,hN,uh HW,hR,rfl⟩,BX.refl _ _ _⟩
  ·have hm2:(m != 0)=true:=by simpa using hm
   go_enter Tryz.func131,Tryz.ntmps131
   go_wp2
   go_end0
   have hx:BX R isAny w (w.setCell ⟨R,2,none⟩ (.bool true)):=(BX.refl _ _ _).set 2 _ trivial
   refine⟨rfl,⟨ao,N,cap,k,true,L,(uh HC).setBad true,uh HY,hk,hN,hx.keep (uh HW) hR,hR,?_⟩,hx⟩
   rfl
def PgS (w0:GW) (R:Nat) (f:List Int->Option (ByteArray×List Int)) (st:Option (List Int)) (w:World) (e:Ending) (w':World):Prop :=
 ∃ x st',e=.returned (.string x)/\Stp f st x st'/\RP w0 w' R st'/\BX R isAny w w'
theorem text_pg (R:Nat) (st:Option (List Int)) (w0:GW) (w:World) (h:RP w0 w R st):Calls Tryz.prog 90 #[.pointer (some ⟨R,0,none⟩)] w (PgS w0 R text? st w):=by
 have hlt:=h.lt
 have hR0:w0.heap.size<=R:=by obtain⟨_,_,_,_,_,_,_,_,_,_,_,h,_⟩:=h;exact h
 have hw0:Below w0.heap.size w0 w:=by obtain⟨_,_,_,_,_,_,_,_,_,_,h,_⟩:=h;exact h
 have HS:=zh h
 have HW0:=zh hw0
 clear h hw0
 go_enter Tryz.func90,Tryz.ntmps90
 go_wp2_with fail
 refine (left_pg R st w0 w (uh HS)).mono ?_
 rintro e w1 ⟨v,l,rfl,hv,he1,he2,hb1⟩
 have HW1:Hid (Below w0.heap.size w0 w1):=(uh HW0).trans (hb1.mono (uh HW0).size)
 obtain⟨n,hN,hn,_⟩:=gt_len l (uh hv).range
 have HG:=zh (rget_any v l w1 ((uh hv).below (uh HW1)))
 rw[hN]at HG
 have HS1:=zh ((uh HS).below hb1)
 have HB1:=zh hb1
 have HE1:=zh he1
 have HQ:Hid (text? l=if (gt l).2.2=0 then some ((gt l).1,l.drop n) else none):=by
  show text? l=_
  unfold text?
  rw[hN,Int.toNat_natCast]
 clear hb1 he1 he2 hN
 generalize (gt l).1=x at HG HQ
 generalize (gt l).2.2=m at HG HQ
 go_wp2_with fail
 refine (uh HG).mono ?_
 rintro e w2 ⟨rfl,hb2⟩
 have HS2:=zh ((uh HS1).below hb2)
 have HB2:Hid (Below w.heap.size w w2):=(uh HB1).trans (hb2.mono (uh HB1).size)
 clear hb2
 go_wp2_with fail
 refine (took_pg R st n m w0 w2 (uh HS2) (fun l' e=>by rw[(uh HE1) l' e];exact hn)).mono ?_
 rintro e w3 ⟨rfl,h3,hx3⟩
 have HS3:=zh h3
 have HX3:=zh hx3
 clear h3 hx3
 go_wp2
 go_ret
 refine⟨x,_,rfl,?_,uh HS3,(BX.of_below (uh HB2) hlt).trans (uh HX3)⟩
 cases st with
 | none =>
  show (if m=0 then _ else _)=none
  split<;>rfl
 | some l' =>
  have e:=(uh HE1) l' rfl
  subst e
  exact stp_get text? (some l') l' x n m (.inl rfl) (uh HQ)
theorem bin_pg (R:Nat) (st:Option (List Int)) (w0:GW) (w:World) (h:RP w0 w R st):Calls Tryz.prog 129 #[.pointer (some ⟨R,0,none⟩)] w (PgS w0 R bin? st w):=by
 have hlt:=h.lt
 have hR0:w0.heap.size<=R:=by obtain⟨_,_,_,_,_,_,_,_,_,_,_,h,_⟩:=h;exact h
 have hw0:Below w0.heap.size w0 w:=by obtain⟨_,_,_,_,_,_,_,_,_,_,h,_⟩:=h;exact h
 have HS:=zh h
 have HW0:=zh hw0
 clear h hw0
 go_enter Tryz.func129,Tryz.ntmps129
 go_wp2_with fail
 refine (left_pg R st w0 w (uh HS)).mono ?_
 rintro e w1 ⟨v,l,rfl,hv,he1,he2,hb1⟩
 have HW1:Hid (Below w0.heap.size w0 w1):=(uh HW0).trans (hb1.mono (uh HW0).size)
 obtain⟨n,hN,hn,_⟩:=gbn_len l (uh hv).range
 have HG:=zh (rgetBin_any v l w1 ((uh hv).below (uh HW1)))
 rw[hN]at HG
 have HS1:=zh ((uh HS).below hb1)
 have HB1:=zh hb1
 have HE1:=zh he1
 have HQ:Hid (bin? l=if (gbn l).2.2=0 then some ((gbn l).1,l.drop n) else none):=by
  show bin? l=_
  unfold bin?
  rw[hN,Int.toNat_natCast]
 clear hb1 he1 he2 hN
 generalize (gbn l).1=x at HG HQ
 generalize (gbn l).2.2=m at HG HQ
 go_wp2_with fail
 refine (uh HG).mono ?_
 rintro e w2 ⟨rfl,hb2⟩
 have HS2:=zh ((uh HS1).below hb2)
 have HB2:Hid (Below w.heap.size w w2):=(uh HB1).trans (hb2.mono (uh HB1).size)
 clear hb2
 go_wp2_with fail
 refine (took_pg R st n m w0 w2 (uh HS2) (fun l' e=>by rw[(uh HE1) l' e];exact hn)).mono ?_
 rintro e w3 ⟨rfl,h3,hx3⟩
 have HS3:=zh h3
 have HX3:=zh hx3
 clear h3 hx3
 go_wp2
 go_ret
 refine⟨x,_,rfl,?_,uh HS3,(BX.of_below (uh HB2) hlt).trans (uh HX3)⟩
 cases st with
 | none =>
  show (if m=0 then _ else _)=none
  split<;>rfl
 | some l' =>
  have e:=(uh HE1) l' rfl
  subst e
  exact stp_get bin? (some l') l' x n m (.inl rfl) (uh HQ)
theorem pair_pg (R:Nat) (st:Option (List Int)) (w0:GW) (w:World) (h:RP w0 w R st):Calls Tryz.prog 91 #[.pointer (some ⟨R,0,none⟩)] w (PgI w0 R 65535 two? st w):=by
 have HS:=zh h
 clear h
 go_enter Tryz.func91,Tryz.ntmps91
 go_wp2_with fail
 refine (byte_pg R st w0 w (uh HS)).mono ?_
 rintro e w1 ⟨x,st1,rfl,hx,hs1,h1,hx1⟩
 have HS1:=zh h1
 have HX1:=zh hx1
 have HST1:=zh hs1
 clear h1 hx1 hs1
 go_wp2_with fail
 refine (byte_pg R st1 w0 w1 (uh HS1)).mono ?_
 rintro e w2 ⟨y,st2,rfl,hy,hs2,h2,hx2⟩
 have HS2:=zh h2
 have HX2:=zh hx2
 have HST2:=zh hs2
 have e1:=K.or_256 x y hx.1 (by omega) hy.1 (by omega)
 clear h2 hx2 hs2
 go_wp2
 go_ret
 refine⟨x*256+y,st2,rfl,by omega,?_,uh HS2,(uh HX1).trans (uh HX2)⟩
 have k:Stp (bindR one? fun x=>bindR one? fun y=>pureR (x*256+y)) st (x*256+y) st2:=(uh HST1).bind ((uh HST2).bind (Stp.pure _ _))
 refine Stp.congr (fun l=>?_) k
 match l with
 | []=>rfl
 | [_]=>rfl
 | _::_::_=>rfl
end Go.Proofs.YtmpijpjlbhfccaaGreatDoor.K
