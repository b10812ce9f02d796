/- Proved here: helpers, one text behind the other. -/
import Derived.Test.YtpheelbbpiieiaaGreatDoorZC10
import Derived.Test.YtpheelbbpiieiaaGreatDoorZC9
import Derived.Test.YtpheelbbpiieiaaGreatDoorZC12
import Derived.Laws.StructEq
set_option maxHeartbeats 20000000
namespace Go.Proofs.YtpheelbbpiieiaaGreatDoor
open Go.RowKit
set_option maxRecDepth 100000
def ValOk (l:List Int) (w:World) (e:Ending) (w':World):Prop:=∃ v,e=.returned (.tuple #[v,.nilIface])/\Hid (Byt w' v l)/\Below w.heap.size w w'
def ValBad (w:World) (e:Ending) (w':World):Prop:=∃ t x n,e=.returned (.tuple #[.slice none 0 0,.iface t x])/\Hid (Inn w' (.iface t x) n)/\Below w.heap.size w w'
theorem range_app {xs ys:List Int} (hx:∀ j,0<=xs.getD j 0/\xs.getD j 0<=255) (hy:∀ j,0<=ys.getD j 0/\ys.getD j 0<=255):∀ j,0<=(xs++ys).getD j 0/\(xs++ys).getD j 0<=255:=by
 intro j
 rcases Nat.lt_or_ge j xs.length with h | h
 ·rw[List.getD_eq_getElem?_getD,List.getElem?_append_left h,<- List.getD_eq_getElem?_getD];exact hx j
 ·rw[List.getD_eq_getElem?_getD,List.getElem?_append_right h,<- List.getD_eq_getElem?_getD];exact hy _
theorem tput_ok (s:ByteArray) (w:World) (hc:chk (sb s)=0):Calls Tryz.prog 152 #[.string s] w (fun e w'=>∃ v,e=.returned (.tuple #[v,.nilIface])/\Hid (w'.ownsRow w.heap.size 5 1 v (2+s.size) ((tx s).map (Value.int .u8)))/\Hid (Byt w' v (tx s))/\Below w.heap.size w w'):=by
 refine (put_ok s w hc).mono ?_
 rintro e w' ⟨v,rfl,hown,hb⟩
 exact⟨v,rfl,hown,byt_of_owns (uh hown) (tx_range s (by have:=chk_0 hc;rw[sb_length]at this;exact this)),hb⟩
theorem tput_bad (s:ByteArray) (w:World) (hs:s.size<=4611686018427387904) (hc:chk (sb s)≠0):Calls Tryz.prog 152 #[.string s] w (fun e w'=>∃ x n,e=.returned (.tuple #[.slice none 0 0,.iface 118 x])/\Hid (Inn w' (.iface 118 x) n)/\Below w.heap.size w w'):=by
 refine (put_bad s _ w hs rfl hc).mono ?_
 rintro e w' ⟨rfl,rfl⟩
 exact⟨_,chk (sb s),rfl,.inr ⟨_,rfl,by simp⟩,fault_below _ _⟩
theorem pair_ok (s t:ByteArray) (w:World) (hs:chk (sb s)=0) (ht:chk (sb t)=0):Calls Tryz.prog 176 #[.string s,.string t] w (ValOk (tx s++tx t) w):=by
 have ls:s.size<=65535:=by have:=chk_0 hs;rw[sb_length]at this;exact this
 have lt:t.size<=65535:=by have:=chk_0 ht;rw[sb_length]at this;exact this
 have HS:=zh hs
 have HT:=zh ht
 clear hs ht
 go_enter Tryz.func176,Tryz.ntmps176
 go_wp2_with fail
 refine (tput_ok s _ (uh HS)).mono ?_
 rintro e w1 ⟨v1,rfl,hown1,-,hb1⟩
 have HB1:=zh hb1
 clear hb1
 go_wp2_with fail
 refine (tput_ok t _ (uh HT)).mono ?_
 rintro e w2 ⟨v2,rfl,-,hy2,hb2⟩
 have HO2:Hid (w2.ownsRow w.heap.size 5 1 v1 (2+s.size) ((tx s).map (Value.int .u8))):=owns_below (uh hown1) hb2
 have HB2:Hid (Below w.heap.size w w2):=(uh HB1).trans (hb2.mono (uh HB1).size)
 clear hb2 HB1 hown1
 go_wp2_with (first
  | (at_builtin;refine wpList_append_byt _ rfl _ _ rfl w.heap.size _ (2+s.size) (tx s) rfl (uh HO2) v2 (tx t) rfl (uh hy2) (by rw[tx_length];omega) (uh HB2).size ?_)
  | go_in)
 intro v3 w3 hown3 hgrow3
 have hb3:Below w.heap.size w w3:=(uh HB2).grown hgrow3 (uh HB2).size (fun k hk=>((uh HO2).lt k hk).1)
 have HY3:Hid (Byt w3 v3 (tx s++tx t)):=byt_of_owns (by rw[List.map_append];exact hown3) (range_app (tx_range s ls) (tx_range t lt))
 clear hown3 hgrow3
 go_wp2
 go_ret2
 exact⟨_,rfl,HY3,hb3⟩
theorem pair_bad1 (s t:ByteArray) (w:World) (hl:s.size<=4611686018427387904) (hs:chk (sb s)≠0):Calls Tryz.prog 176 #[.string s,.string t] w (ValBad w):=by
 have HS:=zh hs
 clear hs
 go_enter Tryz.func176,Tryz.ntmps176
 go_wp2_with fail
 refine (tput_bad s _ hl (uh HS)).mono ?_
 rintro e w1 ⟨x,n,rfl,hi,hb1⟩
 go_wp2
 go_ret2
 exact⟨_,_,_,rfl,hi,hb1⟩
theorem pair_bad2 (s t:ByteArray) (w:World) (hl:t.size<=4611686018427387904) (hs:chk (sb s)=0) (ht:chk (sb t)≠0):Calls Tryz.prog 176 #[.string s,.string t] w (ValBad w):=by
 have HS:=zh hs
 have HT:=zh ht
 clear hs ht
 go_enter Tryz.func176,Tryz.ntmps176
 go_wp2_with fail
 refine (tput_ok s _ (uh HS)).mono ?_
 rintro e w1 ⟨v1,rfl,-,-,hb1⟩
 have HB1:=zh hb1
 clear hb1
 go_wp2_with fail
 refine (tput_bad t _ hl (uh HT)).mono ?_
 rintro e w2 ⟨x,n,rfl,hi,hb2⟩
 go_wp2
 go_ret2
 exact⟨_,_,_,rfl,hi,(uh HB1).trans (hb2.mono (uh HB1).size)⟩
theorem vput_use (n:Int) (w:World) (h0:0<=n) (h1:n<=268435455):Calls Tryz.prog 72 #[.int .i64 n] w (fun e w'=>∃ v,e=.returned (.tuple #[v,.nilIface])/\Hid (w'.ownsRow w.heap.size 5 1 v (V.put n).length ((V.put n).map (Value.int .u8)))/\Hid (Byt w' v (V.put n))/\Below w.heap.size w w'):=by
 refine (V.put_use n w h0 h1).mono ?_
 rintro e w' ⟨m,rfl,rfl,hown,hb⟩
 exact⟨_,rfl,hown,byt_of_owns (uh hown) (V.put_range n h0 h1),hb⟩
theorem nbs_range (k n:Int) (hk:k=1/\n<=1\/k=2/\n<=65535\/k=4/\n<=4294967295) (h0:0<=n):∀ j,0<=(nbs k n).getD j 0/\(nbs k n).getD j 0<=255:=by
 intro j
 unfold nbs
 rcases hk with⟨rfl,h⟩ | ⟨rfl,h⟩ | ⟨rfl,h⟩
 ·rw[if_pos rfl]
  rcases j with _ | j <;> simp <;> omega
 ·rw[if_neg (by omega),if_pos rfl]
  rcases j with _ | _ | j <;> simp <;> omega
 ·rw[if_neg (by omega),if_neg (by omega)]
  rcases j with _ | _ | _ | _ | j <;> simp <;> omega
theorem number_use (k n:Int) (w:World) (hk:k=1/\n<=1\/k=2/\n<=65535\/k=4/\n<=4294967295) (h0:0<=n):Calls Tryz.prog 175 #[.int .i64 n,.int .i64 k] w (fun e w'=>∃ v,e=.returned v/\Hid (Byt w' v (nbs k n))/\Below w.heap.size w w'):=by
 have hr:=nbs_range k n hk h0
 have key:∀ e w',NumPost k n w e w'->∃ v,e=.returned v/\Hid (Byt w' v (nbs k n))/\Below w.heap.size w w':=by
  rintro e w' ⟨v,rfl,hown,hb⟩
  exact⟨v,rfl,byt_of_owns (uh hown) hr,hb⟩
 rcases hk with⟨rfl,h⟩ | ⟨rfl,h⟩ | ⟨rfl,h⟩
 ·exact (num_1 n w h0 h).mono key
 ·exact (num_2 n w h0 h).mono key
 ·exact (num_4 n w h0 h).mono key
def numK (k n:Int):Prop:=k=1/\n<=1\/k=2/\n<=65535\/k=4/\n<=4294967295
theorem value_num (id n k:Int) (s t:ByteArray) (w:World) (lo hi:Int) (hsh:shv id=.agg #[.int .i64 1,.int .i64 k,.int .i64 lo,.int .i64 hi]) (hk:numK k n) (h0:0<=n) :
  Calls Tryz.prog 172 #[.agg #[.int .i64 id,.int .i64 n,.string s,.string t]] w (ValOk (nbs k n) w):=by
 have HSH:=zh hsh
 have HK:=zh hk
 clear hsh hk
 go_enter Tryz.func172,Tryz.ntmps172
 go_wp2_with fail
 refine (shape_use id 1 k lo hi (uh HSH) _).mono ?_
 rintro e w1 ⟨rfl,hb1⟩
 have HB1:=bal1 hb1
 have c1:w1.cell? ⟨w.heap.size,1,none⟩=some (.int .i64 n):=(hb1.cell (p:=⟨w.heap.size,1,none⟩) (by simp)).trans (by simp)
 have c2:w1.cell? ⟨w.heap.size,2,none⟩=some (.string s):=(hb1.cell (p:=⟨w.heap.size,2,none⟩) (by simp)).trans (by simp)
 have c3:w1.cell? ⟨w.heap.size,3,none⟩=some (.string t):=(hb1.cell (p:=⟨w.heap.size,3,none⟩) (by simp)).trans (by simp)
 have hlt:w.heap.size < w1.heap.size:=cell_lt c1
 clear hb1
 go_wp2_with fail
 refine (number_use k n _ (uh HK) h0).mono ?_
 rintro e w2 ⟨v,rfl,hy,hb2⟩
 go_wp2
 go_ret2
 exact⟨_,rfl,hy,(((uh HB1).alloc (uh HB1).size _).trans (hb2.mono (by simp;omega)))⟩
theorem value_var (id n:Int) (s t:ByteArray) (w:World) (wd lo hi:Int) (hsh:shv id=.agg #[.int .i64 2,.int .i64 wd,.int .i64 lo,.int .i64 hi]) (h0:0<=n) (h1:n<=268435455) :
  Calls Tryz.prog 172 #[.agg #[.int .i64 id,.int .i64 n,.string s,.string t]] w (ValOk (V.put n) w):=by
 have HSH:=zh hsh
 clear hsh
 go_enter Tryz.func172,Tryz.ntmps172
 go_wp2_with fail
 refine (shape_use id 2 wd lo hi (uh HSH) _).mono ?_
 rintro e w1 ⟨rfl,hb1⟩
 have HB1:=bal1 hb1
 have c1:w1.cell? ⟨w.heap.size,1,none⟩=some (.int .i64 n):=(hb1.cell (p:=⟨w.heap.size,1,none⟩) (by simp)).trans (by simp)
 have c2:w1.cell? ⟨w.heap.size,2,none⟩=some (.string s):=(hb1.cell (p:=⟨w.heap.size,2,none⟩) (by simp)).trans (by simp)
 have c3:w1.cell? ⟨w.heap.size,3,none⟩=some (.string t):=(hb1.cell (p:=⟨w.heap.size,3,none⟩) (by simp)).trans (by simp)
 have hlt:w.heap.size < w1.heap.size:=cell_lt c1
 clear hb1
 go_wp2_with fail
 refine (vput_use n _ h0 h1).mono ?_
 rintro e w2 ⟨v,rfl,-,hy,hb2⟩
 go_wp2
 go_ret2
 exact⟨_,rfl,hy,(((uh HB1).alloc (uh HB1).size _).trans (hb2.mono (by simp;omega)))⟩
theorem value_text (id n:Int) (s t:ByteArray) (w:World) (wd lo hi:Int) (hsh:shv id=.agg #[.int .i64 3,.int .i64 wd,.int .i64 lo,.int .i64 hi]) (hc:chk (sb s)=0) :
  Calls Tryz.prog 172 #[.agg #[.int .i64 id,.int .i64 n,.string s,.string t]] w (ValOk (tx s) w):=by
 have HSH:=zh hsh
 clear hsh
 have Hhc:=zh hc
 clear hc
 go_enter Tryz.func172,Tryz.ntmps172
 go_wp2_with fail
 refine (shape_use id 3 wd lo hi (uh HSH) _).mono ?_
 rintro e w1 ⟨rfl,hb1⟩
 have HB1:=bal1 hb1
 have c1:w1.cell? ⟨w.heap.size,1,none⟩=some (.int .i64 n):=(hb1.cell (p:=⟨w.heap.size,1,none⟩) (by simp)).trans (by simp)
 have c2:w1.cell? ⟨w.heap.size,2,none⟩=some (.string s):=(hb1.cell (p:=⟨w.heap.size,2,none⟩) (by simp)).trans (by simp)
 have c3:w1.cell? ⟨w.heap.size,3,none⟩=some (.string t):=(hb1.cell (p:=⟨w.heap.size,3,none⟩) (by simp)).trans (by simp)
 have hlt:w.heap.size < w1.heap.size:=cell_lt c1
 clear hb1
 go_wp2_with fail
 refine (tput_ok s _ (uh Hhc)).mono ?_
 rintro e w2 ⟨v,rfl,-,hy,hb2⟩
 go_wp2
 go_ret2
 exact⟨_,rfl,hy,(((uh HB1).alloc (uh HB1).size _).trans (hb2.mono (by simp;omega)))⟩
theorem value_text_bad (id n:Int) (s t:ByteArray) (w:World) (wd lo hi:Int) (hsh:shv id=.agg #[.int .i64 3,.int .i64 wd,.int .i64 lo,.int .i64 hi]) (hl:s.size<=4611686018427387904) (hc:chk (sb s)≠0) :
  Calls Tryz.prog 172 #[.agg #[.int .i64 id,.int .i64 n,.string s,.string t]] w (ValBad w):=by
 have HSH:=zh hsh
 clear hsh
 have Hhc:=zh hc
 clear hc
 go_enter Tryz.func172,Tryz.ntmps172
 go_wp2_with fail
 refine (shape_use id 3 wd lo hi (uh HSH) _).mono ?_
 rintro e w1 ⟨rfl,hb1⟩
 have HB1:=bal1 hb1
 have c1:w1.cell? ⟨w.heap.size,1,none⟩=some (.int .i64 n):=(hb1.cell (p:=⟨w.heap.size,1,none⟩) (by simp)).trans (by simp)
 have c2:w1.cell? ⟨w.heap.size,2,none⟩=some (.string s):=(hb1.cell (p:=⟨w.heap.size,2,none⟩) (by simp)).trans (by simp)
 have c3:w1.cell? ⟨w.heap.size,3,none⟩=some (.string t):=(hb1.cell (p:=⟨w.heap.size,3,none⟩) (by simp)).trans (by simp)
 have hlt:w.heap.size < w1.heap.size:=cell_lt c1
 clear hb1
 go_wp2_with fail
 refine (tput_bad s _ hl (uh Hhc)).mono ?_
 rintro e w2 ⟨x,m,rfl,hy,hb2⟩
 go_wp2
 go_ret2
 exact⟨_,_,_,rfl,hy,(((uh HB1).alloc (uh HB1).size _).trans (hb2.mono (by simp;omega)))⟩
theorem value_bin (id n:Int) (s t:ByteArray) (w:World) (wd lo hi:Int) (hsh:shv id=.agg #[.int .i64 4,.int .i64 wd,.int .i64 lo,.int .i64 hi]) (hc:s.size<=65535) :
  Calls Tryz.prog 172 #[.agg #[.int .i64 id,.int .i64 n,.string s,.string t]] w (ValOk (tx s) w):=by
 have HSH:=zh hsh
 clear hsh
 go_enter Tryz.func172,Tryz.ntmps172
 go_wp2_with fail
 refine (shape_use id 4 wd lo hi (uh HSH) _).mono ?_
 rintro e w1 ⟨rfl,hb1⟩
 have HB1:=bal1 hb1
 have c1:w1.cell? ⟨w.heap.size,1,none⟩=some (.int .i64 n):=(hb1.cell (p:=⟨w.heap.size,1,none⟩) (by simp)).trans (by simp)
 have c2:w1.cell? ⟨w.heap.size,2,none⟩=some (.string s):=(hb1.cell (p:=⟨w.heap.size,2,none⟩) (by simp)).trans (by simp)
 have c3:w1.cell? ⟨w.heap.size,3,none⟩=some (.string t):=(hb1.cell (p:=⟨w.heap.size,3,none⟩) (by simp)).trans (by simp)
 have hlt:w.heap.size < w1.heap.size:=cell_lt c1
 clear hb1
 go_wp2_with fail
 refine (putBin_ok s _ hc).mono ?_
 rintro e w2 ⟨v,rfl,hown,hb2⟩
 have hy:Hid (Byt w2 v (tx s)):=byt_of_owns (uh hown) (tx_range s hc)
 go_wp2
 go_ret2
 exact⟨_,rfl,hy,(((uh HB1).alloc (uh HB1).size _).trans (hb2.mono (by simp;omega)))⟩
theorem value_bin_bad (id n:Int) (s t:ByteArray) (w:World) (wd lo hi:Int) (hsh:shv id=.agg #[.int .i64 4,.int .i64 wd,.int .i64 lo,.int .i64 hi]) (hc:65535 < s.size) :
  Calls Tryz.prog 172 #[.agg #[.int .i64 id,.int .i64 n,.string s,.string t]] w (ValBad w):=by
 have HSH:=zh hsh
 clear hsh
 go_enter Tryz.func172,Tryz.ntmps172
 go_wp2_with fail
 refine (shape_use id 4 wd lo hi (uh HSH) _).mono ?_
 rintro e w1 ⟨rfl,hb1⟩
 have HB1:=bal1 hb1
 have c1:w1.cell? ⟨w.heap.size,1,none⟩=some (.int .i64 n):=(hb1.cell (p:=⟨w.heap.size,1,none⟩) (by simp)).trans (by simp)
 have c2:w1.cell? ⟨w.heap.size,2,none⟩=some (.string s):=(hb1.cell (p:=⟨w.heap.size,2,none⟩) (by simp)).trans (by simp)
 have c3:w1.cell? ⟨w.heap.size,3,none⟩=some (.string t):=(hb1.cell (p:=⟨w.heap.size,3,none⟩) (by simp)).trans (by simp)
 have hlt:w.heap.size < w1.heap.size:=cell_lt c1
 clear hb1
 go_wp2_with fail
 refine (putBin_bad s _ hc).mono ?_
 rintro e w2 ⟨rfl,hw2⟩
 have hb2:Below _ _ w2:=hw2 ▸ fault_below 2 _
 have hy:Hid (Inn w2 (.iface 118 (.pointer (some ⟨w1.heap.size+1,0,none⟩))) 2):=.inr ⟨_,rfl,by rw[hw2];simp⟩
 clear hw2
 go_wp2
 go_ret2
 exact⟨_,_,_,rfl,hy,(((uh HB1).alloc (uh HB1).size _).trans (hb2.mono (by simp;omega)))⟩
theorem value_pair (id n:Int) (s t:ByteArray) (w:World) (wd lo hi:Int) (hsh:shv id=.agg #[.int .i64 5,.int .i64 wd,.int .i64 lo,.int .i64 hi]) (hc:chk (sb s)=0) (hd:chk (sb t)=0) :
  Calls Tryz.prog 172 #[.agg #[.int .i64 id,.int .i64 n,.string s,.string t]] w (ValOk (tx s++tx t) w):=by
 have HSH:=zh hsh
 clear hsh
 have Hhc:=zh hc
 clear hc
 have Hhd:=zh hd
 clear hd
 go_enter Tryz.func172,Tryz.ntmps172
 go_wp2_with fail
 refine (shape_use id 5 wd lo hi (uh HSH) _).mono ?_
 rintro e w1 ⟨rfl,hb1⟩
 have HB1:=bal1 hb1
 have c1:w1.cell? ⟨w.heap.size,1,none⟩=some (.int .i64 n):=(hb1.cell (p:=⟨w.heap.size,1,none⟩) (by simp)).trans (by simp)
 have c2:w1.cell? ⟨w.heap.size,2,none⟩=some (.string s):=(hb1.cell (p:=⟨w.heap.size,2,none⟩) (by simp)).trans (by simp)
 have c3:w1.cell? ⟨w.heap.size,3,none⟩=some (.string t):=(hb1.cell (p:=⟨w.heap.size,3,none⟩) (by simp)).trans (by simp)
 have hlt:w.heap.size < w1.heap.size:=cell_lt c1
 clear hb1
 go_wp2_with fail
 refine (pair_ok s t _ (uh Hhc) (uh Hhd)).mono ?_
 rintro e w2 ⟨v,rfl,hy,hb2⟩
 go_wp2
 go_ret2
 exact⟨_,rfl,hy,(((uh HB1).alloc (uh HB1).size _).trans (hb2.mono (by simp;omega)))⟩
theorem value_pair_bad1 (id n:Int) (s t:ByteArray) (w:World) (wd lo hi:Int) (hsh:shv id=.agg #[.int .i64 5,.int .i64 wd,.int .i64 lo,.int .i64 hi]) (hl:s.size<=4611686018427387904) (hc:chk (sb s)≠0) :
  Calls Tryz.prog 172 #[.agg #[.int .i64 id,.int .i64 n,.string s,.string t]] w (ValBad w):=by
 have HSH:=zh hsh
 clear hsh
 have Hhc:=zh hc
 clear hc
 go_enter Tryz.func172,Tryz.ntmps172
 go_wp2_with fail
 refine (shape_use id 5 wd lo hi (uh HSH) _).mono ?_
 rintro e w1 ⟨rfl,hb1⟩
 have HB1:=bal1 hb1
 have c1:w1.cell? ⟨w.heap.size,1,none⟩=some (.int .i64 n):=(hb1.cell (p:=⟨w.heap.size,1,none⟩) (by simp)).trans (by simp)
 have c2:w1.cell? ⟨w.heap.size,2,none⟩=some (.string s):=(hb1.cell (p:=⟨w.heap.size,2,none⟩) (by simp)).trans (by simp)
 have c3:w1.cell? ⟨w.heap.size,3,none⟩=some (.string t):=(hb1.cell (p:=⟨w.heap.size,3,none⟩) (by simp)).trans (by simp)
 have hlt:w.heap.size < w1.heap.size:=cell_lt c1
 clear hb1
 go_wp2_with fail
 refine (pair_bad1 s t _ hl (uh Hhc)).mono ?_
 rintro e w2 ⟨t',x,m,rfl,hy,hb2⟩
 go_wp2
 go_ret2
 exact⟨_,_,_,rfl,hy,(((uh HB1).alloc (uh HB1).size _).trans (hb2.mono (by simp;omega)))⟩
theorem value_pair_bad2 (id n:Int) (s t:ByteArray) (w:World) (wd lo hi:Int) (hsh:shv id=.agg #[.int .i64 5,.int .i64 wd,.int .i64 lo,.int .i64 hi]) (hl:t.size<=4611686018427387904) (hc:chk (sb s)=0) (hd:chk (sb t)≠0) :
  Calls Tryz.prog 172 #[.agg #[.int .i64 id,.int .i64 n,.string s,.string t]] w (ValBad w):=by
 have HSH:=zh hsh
 clear hsh
 have Hhc:=zh hc
 clear hc
 have Hhd:=zh hd
 clear hd
 go_enter Tryz.func172,Tryz.ntmps172
 go_wp2_with fail
 refine (shape_use id 5 wd lo hi (uh HSH) _).mono ?_
 rintro e w1 ⟨rfl,hb1⟩
 have HB1:=bal1 hb1
 have c1:w1.cell? ⟨w.heap.size,1,none⟩=some (.int .i64 n):=(hb1.cell (p:=⟨w.heap.size,1,none⟩) (by simp)).trans (by simp)
 have c2:w1.cell? ⟨w.heap.size,2,none⟩=some (.string s):=(hb1.cell (p:=⟨w.heap.size,2,none⟩) (by simp)).trans (by simp)
 have c3:w1.cell? ⟨w.heap.size,3,none⟩=some (.string t):=(hb1.cell (p:=⟨w.heap.size,3,none⟩) (by simp)).trans (by simp)
 have hlt:w.heap.size < w1.heap.size:=cell_lt c1
 clear hb1
 go_wp2_with fail
 refine (pair_bad2 s t _ hl (uh Hhc) (uh Hhd)).mono ?_
 rintro e w2 ⟨t',x,m,rfl,hy,hb2⟩
 go_wp2
 go_ret2
 exact⟨_,_,_,rfl,hy,(((uh HB1).alloc (uh HB1).size _).trans (hb2.mono (by simp;omega)))⟩
theorem lst_pos (id:Int):0<=lst id:=by unfold lst;split <;> omega
theorem fit_num {id n:Int} {s t:ByteArray} (h:fit (id,n,s,t)=true):0<=n/\lst id<=n/\n<=mx id:=by
 unfold fit at h
 rw[Bool.and_eq_true,Bool.and_eq_true,decide_eq_true_eq,decide_eq_true_eq]at h
 have:=lst_pos id
 have h1:=h.1
 simp only at h1
 omega
theorem shv_of (id k f wd m:Int) (hk:kd id=k) (hf:(if k=1\/k=2\/k=4 then 1 else if k=5 then 2 else if k=6 then 3 else if k=7 then 4 else if k=8 then 5 else 0)=f) (hw:(if k=1\/k=2\/k=4 then k else 0)=wd) (hm:mx id=m):shv id=.agg #[.int .i64 f,.int .i64 wd,.int .i64 (lst id),.int .i64 m]:=by
 unfold shv frm wid
 rw[hk,hf,hw,hm]
theorem pvb_num (id n:Int) (s t:ByteArray) (k:Int) (hk:kd id=k) (h:k=1\/k=2\/k=4):pvb (id,n,s,t)=nbs k n:=by
 unfold pvb nbs
 rcases h with rfl | rfl | rfl <;> simp[hk]
theorem value_ok (id n:Int) (s t:ByteArray) (w:World) (hm:may (id,n,s,t)=true):Calls Tryz.prog 172 #[.agg #[.int .i64 id,.int .i64 n,.string s,.string t]] w (ValOk (pvb (id,n,s,t)) w):=by
 unfold may at hm
 rw[Bool.and_eq_true]at hm
 obtain⟨hf,ht⟩:=hm
 obtain⟨h0,h1,h2⟩:=fit_num hf
 have hx:mx id=(if kd id=1 then 1 else if kd id=2 then 65535 else if kd id=4 then 4294967295 else if kd id=5 then 268435455 else 0):=rfl
 rcases kd_cases id with h | h | h | h | h | h | h | h
 ·unfold txo at ht;simp[h]at ht
 ·rw[pvb_num id n s t 1 h (by omega)]
  rw[if_pos h]at hx
  exact value_num id n 1 s t w _ _ (shv_of id 1 1 1 1 h rfl rfl hx) (.inl ⟨rfl,by omega⟩) h0
 ·rw[pvb_num id n s t 2 h (by omega)]
  rw[if_neg (by omega),if_pos h]at hx
  exact value_num id n 2 s t w _ _ (shv_of id 2 1 2 65535 h rfl rfl hx) (.inr (.inl ⟨rfl,by omega⟩)) h0
 ·rw[pvb_num id n s t 4 h (by omega)]
  rw[if_neg (by omega),if_neg (by omega),if_pos h]at hx
  exact value_num id n 4 s t w _ _ (shv_of id 4 1 4 4294967295 h rfl rfl hx) (.inr (.inr ⟨rfl,by omega⟩)) h0
 ·rw[show pvb (id,n,s,t)=V.put n from by unfold pvb;simp[h]]
  rw[if_neg (by omega),if_neg (by omega),if_neg (by omega),if_pos h]at hx
  exact value_var id n s t w _ _ _ (shv_of id 5 2 0 _ h rfl rfl hx) h0 (by omega)
 ·rw[show pvb (id,n,s,t)=tx s from by unfold pvb;simp[h]]
  rw[if_neg (by omega),if_neg (by omega),if_neg (by omega),if_neg (by omega)]at hx
  exact value_text id n s t w _ _ _ (shv_of id 6 3 0 _ h rfl rfl hx) (by unfold txo at ht;simpa [h] using ht)
 ·rw[show pvb (id,n,s,t)=tx s from by unfold pvb;simp[h]]
  rw[if_neg (by omega),if_neg (by omega),if_neg (by omega),if_neg (by omega)]at hx
  exact value_bin id n s t w _ _ _ (shv_of id 7 4 0 _ h rfl rfl hx) (by unfold txo at ht;simpa [h] using ht)
 ·rw[show pvb (id,n,s,t)=tx s++tx t from by unfold pvb;simp[h]]
  rw[if_neg (by omega),if_neg (by omega),if_neg (by omega),if_neg (by omega)]at hx
  have hc:chk (sb s)=0/\chk (sb t)=0:=by unfold txo at ht;simpa [h] using ht
  exact value_pair id n s t w _ _ _ (shv_of id 8 5 0 _ h rfl rfl hx) hc.1 hc.2
theorem value_bad (id n:Int) (s t:ByteArray) (w:World) (hls:s.size<=4611686018427387904) (hlt:t.size<=4611686018427387904) (hk:kd id≠0) (ht:txo (id,n,s,t)=false):Calls Tryz.prog 172 #[.agg #[.int .i64 id,.int .i64 n,.string s,.string t]] w (ValBad w):=by
 have hx:mx id=(if kd id=1 then 1 else if kd id=2 then 65535 else if kd id=4 then 4294967295 else if kd id=5 then 268435455 else 0):=rfl
 rcases kd_cases id with h | h | h | h | h | h | h | h
 ·exact absurd h hk
 ·unfold txo at ht;simp[h]at ht
 ·unfold txo at ht;simp[h]at ht
 ·unfold txo at ht;simp[h]at ht
 ·unfold txo at ht;simp[h]at ht
 ·rw[if_neg (by omega),if_neg (by omega),if_neg (by omega),if_neg (by omega)]at hx
  exact value_text_bad id n s t w _ _ _ (shv_of id 6 3 0 _ h rfl rfl hx) hls (by unfold txo at ht;simpa [h] using ht)
 ·rw[if_neg (by omega),if_neg (by omega),if_neg (by omega),if_neg (by omega)]at hx
  exact value_bin_bad id n s t w _ _ _ (shv_of id 7 4 0 _ h rfl rfl hx) (by unfold txo at ht;simpa [h] using ht)
 ·rw[if_neg (by omega),if_neg (by omega),if_neg (by omega),if_neg (by omega)]at hx
  have hc:chk (sb s)=0->¬ chk (sb t)=0:=by unfold txo at ht;simpa [h] using ht
  by_cases hs:chk (sb s)=0
  ·exact value_pair_bad2 id n s t w _ _ _ (shv_of id 8 5 0 _ h rfl rfl hx) hlt hs (hc hs)
  ·exact value_pair_bad1 id n s t w _ _ _ (shv_of id 8 5 0 _ h rfl rfl hx) hls hs
theorem one_ok (id n:Int) (s t:ByteArray) (w:World) (hi:1<=id/\id<=42) (hm:may (id,n,s,t)=true):Calls Tryz.prog 165 #[.agg #[.int .i64 id,.int .i64 n,.string s,.string t]] w (ValOk (pb (id,n,s,t)) w):=by
 have hle:=pvb_le _ hm
 have HM:=zh hm
 have HV:=zh (fun W=>value_ok id n s t W hm)
 have HL:=zh (V.put_len id)
 have HP:Hid (pb (id,n,s,t)=V.put id++pvb (id,n,s,t)):=rfl
 generalize pb (id,n,s,t)=l at HP |-
 generalize pvb (id,n,s,t)=l2 at HP HV hle
 clear hm HM
 go_enter Tryz.func165,Tryz.ntmps165
 go_wp2_with fail
 refine (vput_use id _ (by omega) (by omega)).mono ?_
 rintro e w1 ⟨v1,rfl,hown1,hy1,hb1⟩
 have HR:=zh (uh hy1).range
 have HB1:=bal1 hb1
 have c0:w1.cell? ⟨w.heap.size,0,none⟩=some (.int .i64 id):=(hb1.cell (p:=⟨w.heap.size,0,none⟩) (by simp)).trans (by simp)
 have c1:w1.cell? ⟨w.heap.size,1,none⟩=some (.int .i64 n):=(hb1.cell (p:=⟨w.heap.size,1,none⟩) (by simp)).trans (by simp)
 have c2:w1.cell? ⟨w.heap.size,2,none⟩=some (.string s):=(hb1.cell (p:=⟨w.heap.size,2,none⟩) (by simp)).trans (by simp)
 have c3:w1.cell? ⟨w.heap.size,3,none⟩=some (.string t):=(hb1.cell (p:=⟨w.heap.size,3,none⟩) (by simp)).trans (by simp)
 have HO1:Hid (w1.ownsRow w.heap.size 5 1 v1 (V.put id).length ((V.put id).map (Value.int .u8))):=owns_mono (uh hown1) (by simp)
 clear hb1 hown1 hy1
 go_wp2_with fail
 refine ((uh HV) _).mono ?_
 rintro e w2 ⟨v2,rfl,hy2,hb2⟩
 have HO2:Hid (w2.ownsRow w.heap.size 5 1 v1 (V.put id).length ((V.put id).map (Value.int .u8))):=owns_below (uh HO1) hb2
 have HB2:Hid (Below w.heap.size w w2):=(uh HB1).trans (hb2.mono (uh HB1).size)
 clear hb2 HB1 HO1 c0 c1 c2 c3
 go_wp2_with (first
  | (at_builtin;refine wpList_append_byt _ rfl _ _ rfl w.heap.size _ (V.put id).length (V.put id) rfl (uh HO2) v2 l2 rfl (uh hy2) (by have:=uh HL;omega) (uh HB2).size ?_)
  | go_in)
 intro v3 w3 hown3 hgrow3
 have hb3:Below w.heap.size w w3:=(uh HB2).grown hgrow3 (uh HB2).size (fun k hk=>((uh HO2).lt k hk).1)
 have HY3:Hid (Byt w3 v3 l):=by
  show Byt _ _ _
  rw[uh HP]
  exact byt_of_owns (by rw[List.map_append];exact hown3) (range_app (uh HR) (uh hy2).range)
 clear hown3 hgrow3
 go_wp2
 go_ret2
 exact⟨_,rfl,HY3,hb3⟩
theorem one_bad (id n:Int) (s t:ByteArray) (w:World) (hi:1<=id/\id<=42) (hls:s.size<=4611686018427387904) (hlt:t.size<=4611686018427387904) (hk:kd id≠0) (ht:txo (id,n,s,t)=false):Calls Tryz.prog 165 #[.agg #[.int .i64 id,.int .i64 n,.string s,.string t]] w (ValBad w):=by
 have HV:=zh (fun W=>value_bad id n s t W hls hlt hk ht)
 clear hls hlt hk ht
 go_enter Tryz.func165,Tryz.ntmps165
 go_wp2_with fail
 refine (vput_use id _ (by omega) (by omega)).mono ?_
 rintro e w1 ⟨v1,rfl,-,-,hb1⟩
 have HB1:=bal1 hb1
 have c0:w1.cell? ⟨w.heap.size,0,none⟩=some (.int .i64 id):=(hb1.cell (p:=⟨w.heap.size,0,none⟩) (by simp)).trans (by simp)
 have c1:w1.cell? ⟨w.heap.size,1,none⟩=some (.int .i64 n):=(hb1.cell (p:=⟨w.heap.size,1,none⟩) (by simp)).trans (by simp)
 have c2:w1.cell? ⟨w.heap.size,2,none⟩=some (.string s):=(hb1.cell (p:=⟨w.heap.size,2,none⟩) (by simp)).trans (by simp)
 have c3:w1.cell? ⟨w.heap.size,3,none⟩=some (.string t):=(hb1.cell (p:=⟨w.heap.size,3,none⟩) (by simp)).trans (by simp)
 clear hb1
 go_wp2_with fail
 refine ((uh HV) _).mono ?_
 rintro e w2 ⟨t2,x2,m,rfl,hi2,hb2⟩
 go_wp2
 go_ret2
 exact⟨_,_,_,rfl,hi2,(uh HB1).trans (hb2.mono (uh HB1).size)⟩
def RowAt (w:World) (R:Nat) (place:Int) (f:Nat->Bool):Prop :=
 w.cell? ⟨R,0,none⟩=some (.int .i64 place)/\∀ j,j<=42->w.cell? ⟨R,1+j,none⟩=some (.bool (f j))/\w.frozen? ⟨R,1+j,none⟩=false
theorem RowAt.lt {w:World} {R:Nat} {place:Int} {f:Nat->Bool} (h:RowAt w R place f):R < w.heap.size:=cell_lt h.1
theorem RowAt.below {w w':World} {R:Nat} {place:Int} {f:Nat->Bool} (h:RowAt w R place f) (hb:Below w.heap.size w w'):RowAt w' R place f:=by
 have hl:=h.lt
 exact⟨(hb.cell (p:=⟨R,0,none⟩) hl).trans h.1,fun j hj=>⟨(hb.cell (p:=⟨R,1+j,none⟩) hl).trans (h.2 j hj).1,(hb.frozen (p:=⟨R,1+j,none⟩) hl).trans (h.2 j hj).2⟩⟩
theorem RowAt.set {w:World} {R:Nat} {place:Int} {f:Nat->Bool} (h:RowAt w R place f) (k:Nat) (hk:k<=42):RowAt (w.setCell ⟨R,1+k,none⟩ (.bool true)) R place (fun j=>f j || decide (k=j)):=by
 refine⟨?_,fun j hj=>⟨?_,?_⟩⟩
 ·rw[World.cell?_setCell_other _ _ _ _ (by intro e;simp at e)];exact h.1
 ·by_cases e:k=j
  ·subst e
   rw[World.cell?_setCell_same _ _ _ (h.2 k hj).1];simp
  ·rw[World.cell?_setCell_other _ _ _ _ (fun e'=>e (by injection e' with _ h2;omega)),(h.2 j hj).1];simp[e]
 ·rw[World.frozen?_setCell];exact (h.2 j hj).2
theorem RowAt.congr {w:World} {R:Nat} {place:Int} {f g:Nat->Bool} (h:RowAt w R place f) (e:∀ j,j<=42->f j=g j):RowAt w R place g:=⟨h.1,fun j hj=>by rw[<- e j hj];exact h.2 j hj⟩
theorem rowAt_new (w:World) (place:Int):RowAt (w.alloc (.cells (rowA place) 204)) w.heap.size place (fun _=>false):=by
 refine⟨by simp[rowA],fun j hj=>⟨?_,by simp⟩⟩
 rw[World.cell?_alloc_at _ _ _ _ rfl]
 unfold rowA
 rw[Array.getElem?_append_right (by simp)]
 rw[Array.getElem?_replicate,if_pos (show 1+j - #[Value.int IntKind.i64 place].size < 43 from by simp;omega)]
theorem owns_set {w:World} {B:Nat} {e:TypeId} {s:Nat} {v:Value} {n:Nat} {xs:List Value} (h:w.ownsRow B e s v n xs) (p:Addr) (u:Value) (hp:p.block < B):(w.setCell p u).ownsRow B e s v n xs:=by
 refine⟨h.1,?_⟩
 rcases h.2 with h1 | ⟨g,cap,cur,hv,hB,hg,rest⟩
 ·exact .inl h1
 ·exact .inr ⟨g,cap,cur,hv,hB,by rw[Below.heap_setCell w p u g (by omega)];exact hg,rest⟩
theorem row_grown {w w':World} {R:Nat} {place:Int} {f:Nat->Bool} {o:Option Nat} (h:RowAt w R place f) (hg:w.grownBy w' o) (ho:∀ g,o=some g->g≠R):RowAt w' R place f:=by
 have hb:w'.heap[R]?=w.heap[R]?:=hg.block R h.lt (fun e=>ho R e.symm rfl)
 exact⟨(World.cell?_of_block (w:=w) (a:=⟨R,0,none⟩) hb).trans h.1,fun j hj=>⟨(World.cell?_of_block (w:=w) (a:=⟨R,1+j,none⟩) hb).trans (h.2 j hj).1,(World.frozen?_of_block (w:=w) (a:=⟨R,1+j,none⟩) hb).trans (h.2 j hj).2⟩⟩
def tk (place id n:Int) (s t:ByteArray) (sn:Bool):Bool:=mst id place && fit (id,n,s,t) && (rep id place || !sn)
theorem take_bad (R:Nat) (place id n:Int) (s t:ByteArray) (f:Nat->Bool) (w:World) (hR:RowAt w R place f) (h:tk place id n s t (f id.toNat)=false) :
  Calls Tryz.prog 146 #[.pointer (some ⟨R,0,none⟩),.agg #[.int .i64 id,.int .i64 n,.string s,.string t]] w (TakeNo w):=by
 unfold tk at h
 by_cases hm:mst id place=true
 ·by_cases hf:fit (id,n,s,t)=true
  ·obtain⟨h1,h2⟩:=id_range id place hm
   obtain⟨k,rfl⟩:∃ k:Nat,id=k:=⟨id.toNat,by omega⟩
   rw[hm,hf]at h
   simp only[Bool.and_true,Bool.true_and,Int.toNat_natCast,Bool.or_eq_false_iff,Bool.not_eq_false']at h
   exact take_no3 R k place n s t w (by omega) hR.1 (by rw[(hR.2 k (by omega)).1,h.2]) hm hf h.1
  ·exact take_no2 R place id n s t w hR.1 hm (by simpa using hf)
 ·exact take_no1 R place id n s t w hR.1 (by simpa using hm)
theorem take_good (R k:Nat) (place n:Int) (s t:ByteArray) (f:Nat->Bool) (w:World) (hk:k<=42) (hR:RowAt w R place f) (h:tk place k n s t (f k)=true) :
  Calls Tryz.prog 146 #[.pointer (some ⟨R,0,none⟩),.agg #[.int .i64 (k:Int),.int .i64 n,.string s,.string t]] w fun e w'=>e=.returned .nilIface/\∃ w1,Below w.heap.size w w1/\w'=w1.setCell ⟨R,1+k,none⟩ (.bool true):=by
 unfold tk at h
 rw[Bool.and_eq_true,Bool.and_eq_true]at h
 obtain⟨⟨hm,hf⟩,hr⟩:=h
 have hc:=(hR.2 k hk).1
 have hz:=(hR.2 k hk).2
 cases hs:f k
 ·rw[hs]at hc
  exact take_ok0 R k place n s t w hk hR.1 hc hz hm hf
 ·rw[hs]at hc hr
  exact take_ok1 R k place n s t w hk hR.1 hc hz hm hf (by simpa using hr)
theorem take_use (R k:Nat) (place n:Int) (s t:ByteArray) (f g:Nat->Bool) (w:World) (hk:k<=42) (hR:RowAt w R place f) (h:tk place k n s t (f k)=true) (hg:∀ j,j<=42->(f j || decide (k=j))=g j) (B:Nat) (hB:B<=R) :
  Calls Tryz.prog 146 #[.pointer (some ⟨R,0,none⟩),.agg #[.int .i64 (k:Int),.int .i64 n,.string s,.string t]] w fun e w'=>e=.returned .nilIface/\Hid (RowAt w' R place g)/\Below B w w'/\Hid (∀ (B':Nat) (v:Value) (m:Nat) (xs:List Value) (e:TypeId) (q:Nat),R < B'->w.ownsRow B' e q v m xs->w'.ownsRow B' e q v m xs)/\Hid (∀ (b i:Nat),b≠R->b < w.heap.size->w'.cell? ⟨b,i,none⟩=w.cell? ⟨b,i,none⟩):=by
 refine (take_good R k place n s t f w hk hR h).mono ?_
 rintro e w' ⟨rfl,w1,hb,rfl⟩
 have hl:=hR.lt
 refine⟨rfl,((hR.below hb).set k hk).congr hg,(hb.mono (by omega)).setCell hB _,?_,?_⟩
 ·intro B' v m xs e q hB' ho
  exact owns_set (owns_below ho hb) _ _ hB'
 ·intro b i hbR hbw
  rw[World.cell?_setCell_far _ _ _ _ (by simpa using Ne.symm hbR)]
  exact hb.cell (p:=⟨b,i,none⟩) hbw
def PrAt (w:World) (b off:Nat) (l:List Pr):Prop:=∀ k,k < l.length->w.cell? ⟨b,off+k * 4,none⟩=some (.int .i64 (at0 l k).1)/\w.cell? ⟨b,off+k * 4+1,none⟩=some (.int .i64 (at0 l k).2.1)/\w.cell? ⟨b,off+k * 4+2,none⟩=some (.string (at0 l k).2.2.1)/\w.cell? ⟨b,off+k * 4+3,none⟩=some (.string (at0 l k).2.2.2)
theorem PrAt.below {w w':World} {b off:Nat} {l:List Pr} (h:PrAt w b off l) (hb:Below w.heap.size w w'):PrAt w' b off l:=fun k hk=>by
 obtain⟨h0,h1,h2,h3⟩:=h k hk
 have hl:=cell_lt h0
 exact⟨(hb.cell (p:=⟨b,off+k * 4,none⟩) hl).trans h0,(hb.cell (p:=⟨b,off+k * 4+1,none⟩) hl).trans h1,(hb.cell (p:=⟨b,off+k * 4+2,none⟩) hl).trans h2,(hb.cell (p:=⟨b,off+k * 4+3,none⟩) hl).trans h3⟩
def Small (l:List Pr):Prop:=∀ k,k < l.length->(at0 l k).2.2.1.size<=4611686018427387904/\(at0 l k).2.2.2.size<=4611686018427387904
theorem okAt_tk (place:Int) (l:List Pr) (k:Nat):okAt place l k=(tk place (at0 l k).1 (at0 l k).2.1 (at0 l k).2.2.1 (at0 l k).2.2.2 (seen l k (at0 l k).1) && txo (at0 l k)):=by
 unfold okAt tk may
 rw[show ((at0 l k).1,(at0 l k).2.1,(at0 l k).2.2.1,(at0 l k).2.2.2)=at0 l k from rfl]
 cases mst (at0 l k).1 place <;> cases fit (at0 l k) <;> cases txo (at0 l k) <;> cases (rep (at0 l k).1 place || !seen l k (at0 l k).1) <;> rfl
theorem tk_toNat {place id n:Int} {s t:ByteArray} {b:Bool} (f:Int->Bool) (h:tk place id n s t (f id)=b):tk place id n s t (f (id.toNat:Int))=b:=by
 subst h
 by_cases hm:mst id place=true
 ·have:=id_range id place hm
  rw[show (id.toNat:Int)=id from by omega]
 ·have hm':mst id place=false:=by simpa using hm
  unfold tk
  rw[hm'];rfl
theorem tk_mst {place id n:Int} {s t:ByteArray} {sn:Bool} (h:tk place id n s t sn=true):mst id place=true/\fit (id,n,s,t)=true:=by
 unfold tk at h
 rw[Bool.and_eq_true,Bool.and_eq_true]at h
 exact h.1
def Prp (w:World) (v:Value) (l:List Pr):Prop:=∃ ao cap,v=.slice ao l.length cap/\(l=[]\/∃ b off,ao=some ⟨b,off,none⟩/\PrAt w b off l)
theorem Prp.below {w w':World} {v:Value} {l:List Pr} (h:Prp w v l) (hb:Below w.heap.size w w'):Prp w' v l:=by
 obtain⟨ao,cap,h1,h2⟩:=h
 refine⟨ao,cap,h1,?_⟩
 rcases h2 with h2 | ⟨b,off,e,hc⟩
 ·exact .inl h2
 ·exact .inr ⟨b,off,e,hc.below hb⟩
theorem Prp.form {w:World} {v:Value} {l:List Pr} (h:Prp w v l):∃ ao cap,v=.slice ao l.length cap:=by
 obtain⟨ao,cap,h1,_⟩:=h
 exact⟨ao,cap,h1⟩
def pcs (l:List Pr):List Value:=l.flatMap fun p=>[.int .i64 p.1,.int .i64 p.2.1,.string p.2.2.1,.string p.2.2.2]
theorem Tryz.infoProp:(Tryz.prog.info? 109).map (fun i=>(i.zero,i.size,i.bytes))=some (some (.agg #[.int .i64 0,.int .i64 0,.string ⟨#[]⟩,.string ⟨#[]⟩]),4,48):=by kernel_rfl
theorem pcs_get (l:List Pr):∀ k,k < l.length->(pcs l)[k * 4]?=some (.int .i64 (at0 l k).1)/\(pcs l)[k * 4+1]?=some (.int .i64 (at0 l k).2.1)/\(pcs l)[k * 4+2]?=some (.string (at0 l k).2.2.1)/\(pcs l)[k * 4+3]?=some (.string (at0 l k).2.2.2):=by
 induction l with
 | nil=>intro k hk;simp at hk
 | cons p l ih =>
  intro k hk
  have e:pcs (p :: l)=[.int .i64 p.1,.int .i64 p.2.1,.string p.2.2.1,.string p.2.2.2]++pcs l:=rfl
  rw[e]
  rcases k with _ | k
  ·exact⟨rfl,rfl,rfl,rfl⟩
  ·have h:=ih k (by simpa using hk)
   have ea:at0 (p :: l) (k+1)=at0 l k:=by unfold at0;rw[List.getD_cons_succ]
   rw[ea]
   refine⟨?_,?_,?_,?_⟩
   ·rw[List.getElem?_append_right (by simp;omega)];rw[show (k+1) * 4 - [Value.int .i64 p.1,.int .i64 p.2.1,.string p.2.2.1,.string p.2.2.2].length=k * 4 from by simp;omega];exact h.1
   ·rw[List.getElem?_append_right (by simp;omega)];rw[show (k+1) * 4+1 - [Value.int .i64 p.1,.int .i64 p.2.1,.string p.2.2.1,.string p.2.2.2].length=k * 4+1 from by simp;omega];exact h.2.1
   ·rw[List.getElem?_append_right (by simp;omega)];rw[show (k+1) * 4+2 - [Value.int .i64 p.1,.int .i64 p.2.1,.string p.2.2.1,.string p.2.2.2].length=k * 4+2 from by simp;omega];exact h.2.2.1
   ·rw[List.getElem?_append_right (by simp;omega)];rw[show (k+1) * 4+3 - [Value.int .i64 p.1,.int .i64 p.2.1,.string p.2.2.1,.string p.2.2.2].length=k * 4+3 from by simp;omega];exact h.2.2.2
theorem prp_of_owns {w:World} {B:Nat} {e:TypeId} {v:Value} {l:List Pr} (h:w.ownsRow B e 4 v l.length (pcs l)):Prp w v l:=by
 rcases h.2 with⟨rfl,h1⟩ | ⟨g,cap,cur,rfl,hB,hg,rest⟩
 ·have:l=[]:=List.length_eq_zero_iff.1 h1
  subst this
  exact⟨none,0,rfl,.inl rfl⟩
 ·refine⟨_,cap,rfl,.inr ⟨g,0,rfl,fun k hk=>?_⟩⟩
  obtain⟨h0,h1,h2,h3⟩:=pcs_get l k hk
  refine⟨?_,?_,?_,?_⟩
  ·rw[Nat.zero_add,h.cellAt (k * 4) (by omega)];exact h0
  ·rw[Nat.zero_add,h.cellAt (k * 4+1) (by omega)];exact h1
  ·rw[Nat.zero_add,h.cellAt (k * 4+2) (by omega)];exact h2
  ·rw[Nat.zero_add,h.cellAt (k * 4+3) (by omega)];exact h3
theorem four_cell (w:World) (a b c d:Value) (t:TypeId):∀ j u,[a,b,c,d][j]?=some u->(w.alloc (.cells #[a,b,c,d] t)).cell? ((⟨w.heap.size,0,none⟩:Addr).add j)=some u:=by
 intro j u hj
 match j,hj with
 | 0,hj=>simp at hj;subst hj;simp[Addr.add]
 | 1,hj=>simp at hj;subst hj;simp[Addr.add]
 | 2,hj=>simp at hj;subst hj;simp[Addr.add]
 | 3,hj=>simp at hj;subst hj;simp[Addr.add]
theorem four_one (a b:Int) (c d:ByteArray):∀ u ∈ [Value.int .i64 a,.int .i64 b,.string c,.string d],u.oneCell'=true:=by
 intro u hu;simp at hu;rcases hu with rfl | rfl | rfl | rfl <;> rfl
theorem Tryz.eqgP:Tryz.prog.eqGuardType Tryz.prog.depth 109=false:=by kernel_rfl
theorem Tryz.stoodP:Tryz.prog.stoodInHeld 109=false:=by kernel_rfl
theorem Tryz.undP:Tryz.prog.underlying 109=some (.struct (Tryz.prog.fieldsOf 109)):=by kernel_rfl
def same (p q:Pr):Bool:=(p.1 == q.1 && p.2.1 == q.2.1 && p.2.2.1.toList == q.2.2.1.toList && p.2.2.2.toList == q.2.2.2.toList)
theorem neqP (id n id' n':Int) (s t s' t':ByteArray) (w:World):(binOp .neq 109 (.agg #[.int .i64 id,.int .i64 n,.string s,.string t]) (.agg #[.int .i64 id',.int .i64 n',.string s',.string t'])).run Tryz.prog w=.ok (.bool (!(same (id,n,s,t) (id',n',s',t')))) w:=by
 rw[run_neq_struct,run_equalIn_struct w 9999 109 _ _ Tryz.undP Tryz.stoodP]
 rw[show Tryz.prog.fieldsOf 109=_ from rfl]
 simp[Program.fieldsOf,Tryz.underlying109,Op.eqFields,go_sem]
 unfold same
 by_cases h1:id=id'
 ·by_cases h2:n=n'
  ·by_cases h3:s.toList=s'.toList
   ·by_cases h4:t.toList=t'.toList
    ·simp[h1,h2,h3,h4]
    ·simp[h1,h2,h3,h4]
   ·simp[h1,h2,h3]
  ·simp[h1,h2]
 ·simp[h1]
theorem toList_inj {a b:ByteArray} (h:a.toList=b.toList):a=b:=by
 rw[ByteArray.toList_eq,ByteArray.toList_eq]at h
 obtain⟨⟨x⟩⟩:=a
 obtain⟨⟨y⟩⟩:=b
 simp at h
 rw[h]
theorem same_iff (p q:Pr):same p q=true ↔ p=q:=by
 obtain⟨a,b,c,d⟩:=p
 obtain⟨a',b',c',d'⟩:=q
 unfold same
 constructor
 ·intro h
  simp only[Bool.and_eq_true,beq_iff_eq]at h
  obtain⟨⟨⟨h1,h2⟩,h3⟩,h4⟩:=h
  rw[h1,h2,toList_inj h3,toList_inj h4]
 ·rintro h
  injection h with h1 h
  injection h with h2 h
  injection h with h3 h4
  subst h1 h2 h3 h4
  simp
theorem eqp_core (ba oa bb ob ca cb:Nat) (l m:List Pr) (len:Nat) (w:World) (hl:l.length=len) (hm:m.length=len) (hmx:len<=1000000000) (ha:PrAt w ba oa l) (hb:PrAt w bb ob m) :
  Calls Tryz.prog 33 #[.slice (some ⟨ba,oa,none⟩) len ca,.slice (some ⟨bb,ob,none⟩) len cb] w fun e w'=>(∃ b,e=.returned (.bool b)/\(b=true ↔ ∀ j,j < len->at0 l j=at0 m j))/\∃ k,w'=w.drewN k:=by
 have HL:=zh hl
 have HM:=zh hm
 have HA:=zh ha
 have HB:=zh hb
 clear hl hm ha hb
 go_enter Tryz.func33,Tryz.ntmps33
 go_wp2
 go_loopw [5] (fun i wr=>∃ k q:Nat,k<=len/\i=.int .i64 k/\wr=w.drewN q/\Hid (∀ j,j < k->at0 l j=at0 m j)) (fun i _=>len - (intOf i).toNat)
 case atStart=>exact⟨0,0,Nat.zero_le _,rfl,rfl,fun j hj=>absurd hj (Nat.not_lt_zero j)⟩
 case round =>
  obtain⟨k,q,hk,rfl,rfl,HALL⟩:=hrel
  by_cases hlt:k < len
  ·obtain⟨h0,h1,h2,h3⟩:=(uh HA) k (by rw[uh HL];exact hlt)
   obtain⟨g0,g1,g2,g3⟩:=(uh HB) k (by rw[uh HM];exact hlt)
   obtain⟨id,n,s,t,hp⟩:∃ id n s t,at0 l k=(id,n,s,t):=⟨_,_,_,_,rfl⟩
   obtain⟨id',n',s',t',hp'⟩:∃ id n s t,at0 m k=(id,n,s,t):=⟨_,_,_,_,rfl⟩
   rw[hp]at h0 h1 h2 h3
   rw[hp']at g0 g1 g2 g3
   simp only at h0 h1 h2 h3 g0 g1 g2 g3
   have HP:=zh hp
   have HP':=zh hp'
   clear hp hp'
   have qg:=Tryz.eqgP
   have qn:=fun W=>neqP id n id' n' s t s' t' W
   generalize hsb:same (id,n,s,t) (id',n',s',t')=sb at qn
   have HSB:=zh hsb
   clear hsb
   cases sb
   ·have HNE:Hid (at0 l k≠at0 m k):=fun e=>by
     rw[uh HP,uh HP']at e
     have:=(same_iff _ _).2 e
     rw[uh HSB]at this
     cases this
    go_wp2
    go_quiet (fail)
    go_wp2
    go_ret
    refine⟨⟨_,rfl,?_⟩,q+nq,drewN_drewN _ _ _⟩
    constructor
    ·intro h;cases h
    ·intro h;exact absurd (h k hlt) (uh HNE)
   ·have HE:Hid (at0 l k=at0 m k):=by
     show _=_
     rw[uh HP,uh HP']
     exact (same_iff _ _).1 (uh HSB)
    go_wp2
    go_quiet (fail)
    go_wp2
    go_roundw
    case rel=>exact⟨k+1,_,by omega,by go_num,rfl,fun j hj=>by
     rcases Nat.lt_succ_iff_lt_or_eq.1 hj with h | h
     ·exact (uh HALL) j h
     ·rw[h];exact uh HE⟩
    case measure=>simp[intOf];omega
  ·go_wp2
   go_ret
   exact⟨⟨_,rfl,fun _ j hj=>(uh HALL) j (by omega),fun _=>rfl⟩,_,rfl⟩
theorem eqp_len (ao bo:Option Addr) (n m ca cb:Nat) (w:World) (h:n≠m) :
  Calls Tryz.prog 33 #[.slice ao n ca,.slice bo m cb] w fun e w'=>e=.returned (.bool false)/\w'=w:=by
 have h1:((n:Int) == (m:Int))=false:=beq_eq_false_iff_ne.2 (by omega)
 go_enter Tryz.func33,Tryz.ntmps33
 go_wp2
 go_ret
 exact⟨rfl,rfl⟩
theorem eqp_nil (ao bo:Option Addr) (ca cb:Nat) (w:World) :
  Calls Tryz.prog 33 #[.slice ao 0 ca,.slice bo 0 cb] w fun e w'=>e=.returned (.bool true)/\w'=w:=by
 go_enter Tryz.func33,Tryz.ntmps33
 go_wp2
 refine wp_loop_rounds 1 ?_
 rw[rounds_succ]
 go_wp2
 go_ret
 exact⟨rfl,rfl⟩
theorem at0_ext {l m:List Pr} (hl:l.length=m.length) (h:∀ j,j < l.length->at0 l j=at0 m j):l=m:=by
 apply List.ext_getElem hl
 intro i h1 h2
 have:=h i h1
 unfold at0 at this
 rw[List.getD_eq_getElem?_getD,List.getD_eq_getElem?_getD,List.getElem?_eq_getElem h1,List.getElem?_eq_getElem h2]at this
 exact this
end Go.Proofs.YtpheelbbpiieiaaGreatDoor
