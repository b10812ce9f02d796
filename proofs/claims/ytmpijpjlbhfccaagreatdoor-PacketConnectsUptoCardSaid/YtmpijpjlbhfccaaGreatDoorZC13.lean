/- Helpers of the proof. -/
import Derived.Test.YtmpijpjlbhfccaaGreatDoorZC10
import Derived.Test.YtmpijpjlbhfccaaGreatDoorZC9
import Derived.Test.YtmpijpjlbhfccaaGreatDoorZC12
set_option maxHeartbeats 20000000
namespace Go.Proofs.YtmpijpjlbhfccaaGreatDoor
open Go.RowKit
set_option maxRecDepth 100000
def ValOk (l:List Int) (w:World) (e:Ending) (w':World):Prop:=∃ v,e=.returned (.tuple #[v,.nilIface])/\Hid (Byt w' v l)/\Below w.heap.size w w'
def ValBad (w:World) (e:Ending) (w':World):Prop:=∃ t x n,e=.returned (.tuple #[.slice none 0 0,.iface t x])/\Hid (Inn w' (.iface t x) n)/\Below w.heap.size w w'
theorem range_app {xs ys:List Int} (hx:∀ j,0<=xs.getD j 0/\xs.getD j 0<=255) (hy:∀ j,0<=ys.getD j 0/\ys.getD j 0<=255):∀ j,0<=(xs++ys).getD j 0/\(xs++ys).getD j 0<=255:=by
 intro j
 rcases Nat.lt_or_ge j xs.length with h|h
 ·rw[List.getD_eq_getElem?_getD,List.getElem?_append_left h,<- List.getD_eq_getElem?_getD];exact hx j
 ·rw[List.getD_eq_getElem?_getD,List.getElem?_append_right h,<- List.getD_eq_getElem?_getD];exact hy _
theorem tput_ok (s:ByteArray) (w:World) (hc:chk (sb s)=0):Calls Tryz.prog 134 #[.string s] w (fun e w'=>∃ v,e=.returned (.tuple #[v,.nilIface])/\Hid (w'.ownsRow w.heap.size 5 1 v (2+s.size) ((tx s).map (Value.int .u8)))/\Hid (Byt w' v (tx s))/\Below w.heap.size w w'):=by
 refine (put_ok s w hc).mono ?_
 rintro e w' ⟨v,rfl,hown,hb⟩
 exact⟨v,rfl,hown,byt_of_owns (uh hown) (tx_range s (by have:=chk_0 hc;rw[sb_length]at this;exact this)),hb⟩
theorem tput_bad (s:ByteArray) (w:World) (hs:s.size<=4611686018427387904) (hc:chk (sb s)≠0):Calls Tryz.prog 134 #[.string s] w (fun e w'=>∃ x n,e=.returned (.tuple #[.slice none 0 0,.iface 125 x])/\Hid (Inn w' (.iface 125 x) n)/\Below w.heap.size w w'):=by
 refine (put_bad s _ w hs rfl hc).mono ?_
 rintro e w' ⟨rfl,rfl⟩
 exact⟨_,chk (sb s),rfl,.inr ⟨_,rfl,by simp⟩,fault_below _ _⟩
theorem pair_ok (s t:ByteArray) (w:World) (hs:chk (sb s)=0) (ht:chk (sb t)=0):Calls Tryz.prog 176 #[.string s,.string t] w (ValOk (tx s++tx t) w):=by
 have ls:s.size<=65535:=by have:=chk_0 hs;rw[sb_length]at this;exact this
 have lt:t.size<=65535:=by have:=chk_0 ht;rw[sb_length]at this;exact this
 have HS:=zh hs
 have HT:=zh ht
 clear hs ht
 go_enter Tryz.func176,Tryz.ntmps176
 go_wp2_with fail
 refine (tput_ok s _ (uh HS)).mono ?_
 rintro e w1 ⟨v1,rfl,hown1,-,hb1⟩
 have HB1:=zh hb1
 clear hb1
 go_wp2_with fail
 refine (tput_ok t _ (uh HT)).mono ?_
 rintro e w2 ⟨v2,rfl,-,hy2,hb2⟩
 have HO2:Hid (w2.ownsRow w.heap.size 5 1 v1 (2+s.size) ((tx s).map (Value.int .u8))):=owns_below (uh hown1) hb2
 have HB2:Hid (Below w.heap.size w w2):=(uh HB1).trans (hb2.mono (uh HB1).size)
 clear hb2 HB1 hown1
 go_wp2_with (first
  | (at_builtin;refine wpList_append_byt _ rfl _ _ rfl w.heap.size _ (2+s.size) (tx s) rfl (uh HO2) v2 (tx t) rfl (uh hy2) (by rw[tx_length];omega) (uh HB2).size ?_)
  | go_in)
 intro v3 w3 hown3 hgrow3
 have hb3:Below w.heap.size w w3:=(uh HB2).grown hgrow3 (uh HB2).size (fun k hk=>((uh HO2).lt k hk).1)
 have HY3:Hid (Byt w3 v3 (tx s++tx t)):=byt_of_owns (by rw[List.map_append];exact hown3) (range_app (tx_range s ls) (tx_range t lt))
 clear hown3 hgrow3
 go_wp2
 go_ret2
 exact⟨_,rfl,HY3,hb3⟩
theorem pair_bad1 (s t:ByteArray) (w:World) (hl:s.size<=4611686018427387904) (hs:chk (sb s)≠0):Calls Tryz.prog 176 #[.string s,.string t] w (ValBad w):=by
 have HS:=zh hs
 clear hs
 go_enter Tryz.func176,Tryz.ntmps176
 go_wp2_with fail
 refine (tput_bad s _ hl (uh HS)).mono ?_
 rintro e w1 ⟨x,n,rfl,hi,hb1⟩
 go_wp2
 go_ret2
 exact⟨_,_,_,rfl,hi,hb1⟩
theorem pair_bad2 (s t:ByteArray) (w:World) (hl:t.size<=4611686018427387904) (hs:chk (sb s)=0) (ht:chk (sb t)≠0):Calls Tryz.prog 176 #[.string s,.string t] w (ValBad w):=by
 have HS:=zh hs
 have HT:=zh ht
 clear hs ht
 go_enter Tryz.func176,Tryz.ntmps176
 go_wp2_with fail
 refine (tput_ok s _ (uh HS)).mono ?_
 rintro e w1 ⟨v1,rfl,-,-,hb1⟩
 have HB1:=zh hb1
 clear hb1
 go_wp2_with fail
 refine (tput_bad t _ hl (uh HT)).mono ?_
 rintro e w2 ⟨x,n,rfl,hi,hb2⟩
 go_wp2
 go_ret2
 exact⟨_,_,_,rfl,hi,(uh HB1).trans (hb2.mono (uh HB1).size)⟩
theorem vput_use (n:Int) (w:World) (h0:0<=n) (h1:n<=268435455):Calls Tryz.prog 26 #[.int .i64 n] w (fun e w'=>∃ v,e=.returned (.tuple #[v,.nilIface])/\Hid (w'.ownsRow w.heap.size 5 1 v (V.put n).length ((V.put n).map (Value.int .u8)))/\Hid (Byt w' v (V.put n))/\Below w.heap.size w w'):=by
 refine (V.put_use n w h0 h1).mono ?_
 rintro e w' ⟨m,rfl,rfl,hown,hb⟩
 exact⟨_,rfl,hown,byt_of_owns (uh hown) (V.put_range n h0 h1),hb⟩
theorem nbs_range (k n:Int) (hk:k=1/\n<=1\/k=2/\n<=65535\/k=4/\n<=4294967295) (h0:0<=n):∀ j,0<=(nbs k n).getD j 0/\(nbs k n).getD j 0<=255:=by
 intro j
 unfold nbs
 rcases hk with⟨rfl,h⟩|⟨rfl,h⟩|⟨rfl,h⟩
 ·rw[if_pos rfl]
  rcases j with _|j<;>simp<;>omega
 ·rw[if_neg (by omega),if_pos rfl]
  rcases j with _|_|j<;>simp<;>omega
 ·rw[if_neg (by omega),if_neg (by omega)]
  rcases j with _|_|_|_|j<;>simp<;>omega
theorem number_use (k n:Int) (w:World) (hk:k=1/\n<=1\/k=2/\n<=65535\/k=4/\n<=4294967295) (h0:0<=n):Calls Tryz.prog 175 #[.int .i64 n,.int .i64 k] w (fun e w'=>∃ v,e=.returned v/\Hid (Byt w' v (nbs k n))/\Below w.heap.size w w'):=by
 have hr:=nbs_range k n hk h0
 have key:∀ e w',NumPost k n w e w'->∃ v,e=.returned v/\Hid (Byt w' v (nbs k n))/\Below w.heap.size w w':=by
  rintro e w' ⟨v,rfl,hown,hb⟩
  exact⟨v,rfl,byt_of_owns (uh hown) hr,hb⟩
 rcases hk with⟨rfl,h⟩|⟨rfl,h⟩|⟨rfl,h⟩
 ·exact (num_1 n w h0 h).mono key
 ·exact (num_2 n w h0 h).mono key
 ·exact (num_4 n w h0 h).mono key
def numK (k n:Int):Prop:=k=1/\n<=1\/k=2/\n<=65535\/k=4/\n<=4294967295
theorem value_num (id n k:Int) (s t:ByteArray) (w:World) (lo hi:Int) (hsh:shv id=.agg #[.int .i64 1,.int .i64 k,.int .i64 lo,.int .i64 hi]) (hk:numK k n) (h0:0<=n) :
  Calls Tryz.prog 169 #[.agg #[.int .i64 id,.int .i64 n,.string s,.string t]] w (ValOk (nbs k n) w):=by
 have HSH:=zh hsh
 have HK:=zh hk
 clear hsh hk
 go_enter Tryz.func169,Tryz.ntmps169
 go_wp2_with fail
 refine (shape_use id 1 k lo hi (uh HSH) _).mono ?_
 rintro e w1 ⟨rfl,hb1⟩
 have HB1:=bal1 hb1
 have c1:w1.cell? ⟨w.heap.size,1,none⟩=some (.int .i64 n):=(hb1.cell (p:=⟨w.heap.size,1,none⟩) (by simp)).trans (by simp)
 have c2:w1.cell? ⟨w.heap.size,2,none⟩=some (.string s):=(hb1.cell (p:=⟨w.heap.size,2,none⟩) (by simp)).trans (by simp)
 have c3:w1.cell? ⟨w.heap.size,3,none⟩=some (.string t):=(hb1.cell (p:=⟨w.heap.size,3,none⟩) (by simp)).trans (by simp)
 have hlt:w.heap.size<w1.heap.size:=cell_lt c1
 clear hb1
 go_wp2_with fail
 refine (number_use k n _ (uh HK) h0).mono ?_
 rintro e w2 ⟨v,rfl,hy,hb2⟩
 go_wp2
 go_ret2
 exact⟨_,rfl,hy,(((uh HB1).alloc (uh HB1).size _).trans (hb2.mono (by simp;omega)))⟩
theorem value_var (id n:Int) (s t:ByteArray) (w:World) (wd lo hi:Int) (hsh:shv id=.agg #[.int .i64 2,.int .i64 wd,.int .i64 lo,.int .i64 hi]) (h0:0<=n) (h1:n<=268435455) :
  Calls Tryz.prog 169 #[.agg #[.int .i64 id,.int .i64 n,.string s,.string t]] w (ValOk (V.put n) w):=by
 have HSH:=zh hsh
 clear hsh
 go_enter Tryz.func169,Tryz.ntmps169
 go_wp2_with fail
 refine (shape_use id 2 wd lo hi (uh HSH) _).mono ?_
 rintro e w1 ⟨rfl,hb1⟩
 have HB1:=bal1 hb1
 have c1:w1.cell? ⟨w.heap.size,1,none⟩=some (.int .i64 n):=(hb1.cell (p:=⟨w.heap.size,1,none⟩) (by simp)).trans (by simp)
 have c2:w1.cell? ⟨w.heap.size,2,none⟩=some (.string s):=(hb1.cell (p:=⟨w.heap.size,2,none⟩) (by simp)).trans (by simp)
 have c3:w1.cell? ⟨w.heap.size,3,none⟩=some (.string t):=(hb1.cell (p:=⟨w.heap.size,3,none⟩) (by simp)).trans (by simp)
 have hlt:w.heap.size<w1.heap.size:=cell_lt c1
 clear hb1
 go_wp2_with fail
 refine (vput_use n _ h0 h1).mono ?_
 rintro e w2 ⟨v,rfl,-,hy,hb2⟩
 go_wp2
 go_ret2
 exact⟨_,rfl,hy,(((uh HB1).alloc (uh HB1).size _).trans (hb2.mono (by simp;omega)))⟩
theorem value_text (id n:Int) (s t:ByteArray) (w:World) (wd lo hi:Int) (hsh:shv id=.agg #[.int .i64 3,.int .i64 wd,.int .i64 lo,.int .i64 hi]) (hc:chk (sb s)=0) :
  Calls Tryz.prog 169 #[.agg #[.int .i64 id,.int .i64 n,.string s,.string t]] w (ValOk (tx s) w):=by
 have HSH:=zh hsh
 clear hsh
 have Hhc:=zh hc
 clear hc
 go_enter Tryz.func169,Tryz.ntmps169
 go_wp2_with fail
 refine (shape_use id 3 wd lo hi (uh HSH) _).mono ?_
 rintro e w1 ⟨rfl,hb1⟩
 have HB1:=bal1 hb1
 have c1:w1.cell? ⟨w.heap.size,1,none⟩=some (.int .i64 n):=(hb1.cell (p:=⟨w.heap.size,1,none⟩) (by simp)).trans (by simp)
 have c2:w1.cell? ⟨w.heap.size,2,none⟩=some (.string s):=(hb1.cell (p:=⟨w.heap.size,2,none⟩) (by simp)).trans (by simp)
 have c3:w1.cell? ⟨w.heap.size,3,none⟩=some (.string t):=(hb1.cell (p:=⟨w.heap.size,3,none⟩) (by simp)).trans (by simp)
 have hlt:w.heap.size<w1.heap.size:=cell_lt c1
 clear hb1
 go_wp2_with fail
 refine (tput_ok s _ (uh Hhc)).mono ?_
 rintro e w2 ⟨v,rfl,-,hy,hb2⟩
 go_wp2
 go_ret2
 exact⟨_,rfl,hy,(((uh HB1).alloc (uh HB1).size _).trans (hb2.mono (by simp;omega)))⟩
theorem value_text_bad (id n:Int) (s t:ByteArray) (w:World) (wd lo hi:Int) (hsh:shv id=.agg #[.int .i64 3,.int .i64 wd,.int .i64 lo,.int .i64 hi]) (hl:s.size<=4611686018427387904) (hc:chk (sb s)≠0) :
  Calls Tryz.prog 169 #[.agg #[.int .i64 id,.int .i64 n,.string s,.string t]] w (ValBad w):=by
 have HSH:=zh hsh
 clear hsh
 have Hhc:=zh hc
 clear hc
 go_enter Tryz.func169,Tryz.ntmps169
 go_wp2_with fail
 refine (shape_use id 3 wd lo hi (uh HSH) _).mono ?_
 rintro e w1 ⟨rfl,hb1⟩
 have HB1:=bal1 hb1
 have c1:w1.cell? ⟨w.heap.size,1,none⟩=some (.int .i64 n):=(hb1.cell (p:=⟨w.heap.size,1,none⟩) (by simp)).trans (by simp)
 have c2:w1.cell? ⟨w.heap.size,2,none⟩=some (.string s):=(hb1.cell (p:=⟨w.heap.size,2,none⟩) (by simp)).trans (by simp)
 have c3:w1.cell? ⟨w.heap.size,3,none⟩=some (.string t):=(hb1.cell (p:=⟨w.heap.size,3,none⟩) (by simp)).trans (by simp)
 have hlt:w.heap.size<w1.heap.size:=cell_lt c1
 clear hb1
 go_wp2_with fail
 refine (tput_bad s _ hl (uh Hhc)).mono ?_
 rintro e w2 ⟨x,m,rfl,hy,hb2⟩
 go_wp2
 go_ret2
 exact⟨_,_,_,rfl,hy,(((uh HB1).alloc (uh HB1).size _).trans (hb2.mono (by simp;omega)))⟩
theorem value_bin (id n:Int) (s t:ByteArray) (w:World) (wd lo hi:Int) (hsh:shv id=.agg #[.int .i64 4,.int .i64 wd,.int .i64 lo,.int .i64 hi]) (hc:s.size<=65535) :
  Calls Tryz.prog 169 #[.agg #[.int .i64 id,.int .i64 n,.string s,.string t]] w (ValOk (tx s) w):=by
 have HSH:=zh hsh
 clear hsh
 go_enter Tryz.func169,Tryz.ntmps169
 go_wp2_with fail
 refine (shape_use id 4 wd lo hi (uh HSH) _).mono ?_
 rintro e w1 ⟨rfl,hb1⟩
 have HB1:=bal1 hb1
 have c1:w1.cell? ⟨w.heap.size,1,none⟩=some (.int .i64 n):=(hb1.cell (p:=⟨w.heap.size,1,none⟩) (by simp)).trans (by simp)
 have c2:w1.cell? ⟨w.heap.size,2,none⟩=some (.string s):=(hb1.cell (p:=⟨w.heap.size,2,none⟩) (by simp)).trans (by simp)
 have c3:w1.cell? ⟨w.heap.size,3,none⟩=some (.string t):=(hb1.cell (p:=⟨w.heap.size,3,none⟩) (by simp)).trans (by simp)
 have hlt:w.heap.size<w1.heap.size:=cell_lt c1
 clear hb1
 go_wp2_with fail
 refine (putBin_ok s _ hc).mono ?_
 rintro e w2 ⟨v,rfl,hown,hb2⟩
 have hy:Hid (Byt w2 v (tx s)):=byt_of_owns (uh hown) (tx_range s hc)
 go_wp2
 go_ret2
 exact⟨_,rfl,hy,(((uh HB1).alloc (uh HB1).size _).trans (hb2.mono (by simp;omega)))⟩
theorem value_bin_bad (id n:Int) (s t:ByteArray) (w:World) (wd lo hi:Int) (hsh:shv id=.agg #[.int .i64 4,.int .i64 wd,.int .i64 lo,.int .i64 hi]) (hc:65535<s.size) :
  Calls Tryz.prog 169 #[.agg #[.int .i64 id,.int .i64 n,.string s,.string t]] w (ValBad w):=by
 have HSH:=zh hsh
 clear hsh
 go_enter Tryz.func169,Tryz.ntmps169
 go_wp2_with fail
 refine (shape_use id 4 wd lo hi (uh HSH) _).mono ?_
 rintro e w1 ⟨rfl,hb1⟩
 have HB1:=bal1 hb1
 have c1:w1.cell? ⟨w.heap.size,1,none⟩=some (.int .i64 n):=(hb1.cell (p:=⟨w.heap.size,1,none⟩) (by simp)).trans (by simp)
 have c2:w1.cell? ⟨w.heap.size,2,none⟩=some (.string s):=(hb1.cell (p:=⟨w.heap.size,2,none⟩) (by simp)).trans (by simp)
 have c3:w1.cell? ⟨w.heap.size,3,none⟩=some (.string t):=(hb1.cell (p:=⟨w.heap.size,3,none⟩) (by simp)).trans (by simp)
 have hlt:w.heap.size<w1.heap.size:=cell_lt c1
 clear hb1
 go_wp2_with fail
 refine (putBin_bad s _ hc).mono ?_
 rintro e w2 ⟨rfl,hw2⟩
 have hb2:Below _ _ w2:=hw2 ▸ fault_below 2 _
 have hy:Hid (Inn w2 (.iface 125 (.pointer (some ⟨w1.heap.size+1,0,none⟩))) 2):=.inr ⟨_,rfl,by rw[hw2];simp⟩
 clear hw2
 go_wp2
 go_ret2
 exact⟨_,_,_,rfl,hy,(((uh HB1).alloc (uh HB1).size _).trans (hb2.mono (by simp;omega)))⟩
theorem value_pair (id n:Int) (s t:ByteArray) (w:World) (wd lo hi:Int) (hsh:shv id=.agg #[.int .i64 5,.int .i64 wd,.int .i64 lo,.int .i64 hi]) (hc:chk (sb s)=0) (hd:chk (sb t)=0) :
  Calls Tryz.prog 169 #[.agg #[.int .i64 id,.int .i64 n,.string s,.string t]] w (ValOk (tx s++tx t) w):=by
 have HSH:=zh hsh
 clear hsh
 have Hhc:=zh hc
 clear hc
 have Hhd:=zh hd
 clear hd
 go_enter Tryz.func169,Tryz.ntmps169
 go_wp2_with fail
 refine (shape_use id 5 wd lo hi (uh HSH) _).mono ?_
 rintro e w1 ⟨rfl,hb1⟩
 have HB1:=bal1 hb1
 have c1:w1.cell? ⟨w.heap.size,1,none⟩=some (.int .i64 n):=(hb1.cell (p:=⟨w.heap.size,1,none⟩) (by simp)).trans (by simp)
 have c2:w1.cell? ⟨w.heap.size,2,none⟩=some (.string s):=(hb1.cell (p:=⟨w.heap.size,2,none⟩) (by simp)).trans (by simp)
 have c3:w1.cell? ⟨w.heap.size,3,none⟩=some (.string t):=(hb1.cell (p:=⟨w.heap.size,3,none⟩) (by simp)).trans (by simp)
 have hlt:w.heap.size<w1.heap.size:=cell_lt c1
 clear hb1
 go_wp2_with fail
 refine (pair_ok s t _ (uh Hhc) (uh Hhd)).mono ?_
 rintro e w2 ⟨v,rfl,hy,hb2⟩
 go_wp2
 go_ret2
 exact⟨_,rfl,hy,(((uh HB1).alloc (uh HB1).size _).trans (hb2.mono (by simp;omega)))⟩
theorem value_pair_bad1 (id n:Int) (s t:ByteArray) (w:World) (wd lo hi:Int) (hsh:shv id=.agg #[.int .i64 5,.int .i64 wd,.int .i64 lo,.int .i64 hi]) (hl:s.size<=4611686018427387904) (hc:chk (sb s)≠0) :
  Calls Tryz.prog 169 #[.agg #[.int .i64 id,.int .i64 n,.string s,.string t]] w (ValBad w):=by
 have HSH:=zh hsh
 clear hsh
 have Hhc:=zh hc
 clear hc
 go_enter Tryz.func169,Tryz.ntmps169
 go_wp2_with fail
 refine (shape_use id 5 wd lo hi (uh HSH) _).mono ?_
 rintro e w1 ⟨rfl,hb1⟩
 have HB1:=bal1 hb1
 have c1:w1.cell? ⟨w.heap.size,1,none⟩=some (.int .i64 n):=(hb1.cell (p:=⟨w.heap.size,1,none⟩) (by simp)).trans (by simp)
 have c2:w1.cell? ⟨w.heap.size,2,none⟩=some (.string s):=(hb1.cell (p:=⟨w.heap.size,2,none⟩) (by simp)).trans (by simp)
 have c3:w1.cell? ⟨w.heap.size,3,none⟩=some (.string t):=(hb1.cell (p:=⟨w.heap.size,3,none⟩) (by simp)).trans (by simp)
 have hlt:w.heap.size<w1.heap.size:=cell_lt c1
 clear hb1
 go_wp2_with fail
 refine (pair_bad1 s t _ hl (uh Hhc)).mono ?_
 rintro e w2 ⟨t',x,m,rfl,hy,hb2⟩
 go_wp2
 go_ret2
 exact⟨_,_,_,rfl,hy,(((uh HB1).alloc (uh HB1).size _).trans (hb2.mono (by simp;omega)))⟩
theorem value_pair_bad2 (id n:Int) (s t:ByteArray) (w:World) (wd lo hi:Int) (hsh:shv id=.agg #[.int .i64 5,.int .i64 wd,.int .i64 lo,.int .i64 hi]) (hl:t.size<=4611686018427387904) (hc:chk (sb s)=0) (hd:chk (sb t)≠0) :
  Calls Tryz.prog 169 #[.agg #[.int .i64 id,.int .i64 n,.string s,.string t]] w (ValBad w):=by
 have HSH:=zh hsh
 clear hsh
 have Hhc:=zh hc
 clear hc
 have Hhd:=zh hd
 clear hd
 go_enter Tryz.func169,Tryz.ntmps169
 go_wp2_with fail
 refine (shape_use id 5 wd lo hi (uh HSH) _).mono ?_
 rintro e w1 ⟨rfl,hb1⟩
 have HB1:=bal1 hb1
 have c1:w1.cell? ⟨w.heap.size,1,none⟩=some (.int .i64 n):=(hb1.cell (p:=⟨w.heap.size,1,none⟩) (by simp)).trans (by simp)
 have c2:w1.cell? ⟨w.heap.size,2,none⟩=some (.string s):=(hb1.cell (p:=⟨w.heap.size,2,none⟩) (by simp)).trans (by simp)
 have c3:w1.cell? ⟨w.heap.size,3,none⟩=some (.string t):=(hb1.cell (p:=⟨w.heap.size,3,none⟩) (by simp)).trans (by simp)
 have hlt:w.heap.size<w1.heap.size:=cell_lt c1
 clear hb1
 go_wp2_with fail
 refine (pair_bad2 s t _ hl (uh Hhc) (uh Hhd)).mono ?_
 rintro e w2 ⟨t',x,m,rfl,hy,hb2⟩
 go_wp2
 go_ret2
 exact⟨_,_,_,rfl,hy,(((uh HB1).alloc (uh HB1).size _).trans (hb2.mono (by simp;omega)))⟩
theorem lst_pos (id:Int):0<=lst id:=by unfold lst;split<;>omega
theorem fit_num {id n:Int} {s t:ByteArray} (h:fit (id,n,s,t)=true):0<=n/\lst id<=n/\n<=mx id:=by
 unfold fit at h
 rw[Bool.and_eq_true,Bool.and_eq_true,decide_eq_true_eq,decide_eq_true_eq]at h
 have:=lst_pos id
 have h1:=h.1
 simp only at h1
 omega
theorem shv_of (id k f wd m:Int) (hk:kd id=k) (hf:(if k=1\/k=2\/k=4 then 1 else if k=5 then 2 else if k=6 then 3 else if k=7 then 4 else if k=8 then 5 else 0)=f) (hw:(if k=1\/k=2\/k=4 then k else 0)=wd) (hm:mx id=m):shv id=.agg #[.int .i64 f,.int .i64 wd,.int .i64 (lst id),.int .i64 m]:=by
 unfold shv frm wid
 rw[hk,hf,hw,hm]
theorem pvb_num (id n:Int) (s t:ByteArray) (k:Int) (hk:kd id=k) (h:k=1\/k=2\/k=4):pvb (id,n,s,t)=nbs k n:=by
 unfold pvb nbs
 rcases h with rfl|rfl|rfl<;>simp[hk]
theorem value_ok (id n:Int) (s t:ByteArray) (w:World) (hm:may (id,n,s,t)=true):Calls Tryz.prog 169 #[.agg #[.int .i64 id,.int .i64 n,.string s,.string t]] w (ValOk (pvb (id,n,s,t)) w):=by
 unfold may at hm
 rw[Bool.and_eq_true]at hm
 obtain⟨hf,ht⟩:=hm
 obtain⟨h0,h1,h2⟩:=fit_num hf
 have hx:mx id=(if kd id=1 then 1 else if kd id=2 then 65535 else if kd id=4 then 4294967295 else if kd id=5 then 268435455 else 0):=rfl
 rcases kd_cases id with h|h|h|h|h|h|h|h
 ·unfold txo at ht;simp[h]at ht
 ·rw[pvb_num id n s t 1 h (by omega)]
  rw[if_pos h]at hx
  exact value_num id n 1 s t w _ _ (shv_of id 1 1 1 1 h rfl rfl hx) (.inl ⟨rfl,by omega⟩) h0
 ·rw[pvb_num id n s t 2 h (by omega)]
  rw[if_neg (by omega),if_pos h]at hx
  exact value_num id n 2 s t w _ _ (shv_of id 2 1 2 65535 h rfl rfl hx) (.inr (.inl ⟨rfl,by omega⟩)) h0
 ·rw[pvb_num id n s t 4 h (by omega)]
  rw[if_neg (by omega),if_neg (by omega),if_pos h]at hx
  exact value_num id n 4 s t w _ _ (shv_of id 4 1 4 4294967295 h rfl rfl hx) (.inr (.inr ⟨rfl,by omega⟩)) h0
 ·rw[show pvb (id,n,s,t)=V.put n from by unfold pvb;simp[h]]
  rw[if_neg (by omega),if_neg (by omega),if_neg (by omega),if_pos h]at hx
  exact value_var id n s t w _ _ _ (shv_of id 5 2 0 _ h rfl rfl hx) h0 (by omega)
 ·rw[show pvb (id,n,s,t)=tx s from by unfold pvb;simp[h]]
  rw[if_neg (by omega),if_neg (by omega),if_neg (by omega),if_neg (by omega)]at hx
  exact value_text id n s t w _ _ _ (shv_of id 6 3 0 _ h rfl rfl hx) (by unfold txo at ht;simpa [h] using ht)
 ·rw[show pvb (id,n,s,t)=tx s from by unfold pvb;simp[h]]
  rw[if_neg (by omega),if_neg (by omega),if_neg (by omega),if_neg (by omega)]at hx
  exact value_bin id n s t w _ _ _ (shv_of id 7 4 0 _ h rfl rfl hx) (by unfold txo at ht;simpa [h] using ht)
 ·rw[show pvb (id,n,s,t)=tx s++tx t from by unfold pvb;simp[h]]
  rw[if_neg (by omega),if_neg (by omega),if_neg (by omega),if_neg (by omega)]at hx
  have hc:chk (sb s)=0/\chk (sb t)=0:=by unfold txo at ht;simpa [h] using ht
  exact value_pair id n s t w _ _ _ (shv_of id 8 5 0 _ h rfl rfl hx) hc.1 hc.2
theorem value_bad (id n:Int) (s t:ByteArray) (w:World) (hls:s.size<=4611686018427387904) (hlt:t.size<=4611686018427387904) (hk:kd id≠0) (ht:txo (id,n,s,t)=false):Calls Tryz.prog 169 #[.agg #[.int .i64 id,.int .i64 n,.string s,.string t]] w (ValBad w):=by
 have hx:mx id=(if kd id=1 then 1 else if kd id=2 then 65535 else if kd id=4 then 4294967295 else if kd id=5 then 268435455 else 0):=rfl
 rcases kd_cases id with h|h|h|h|h|h|h|h
 ·exact absurd h hk
 ·unfold txo at ht;simp[h]at ht
 ·unfold txo at ht;simp[h]at ht
 ·unfold txo at ht;simp[h]at ht
 ·unfold txo at ht;simp[h]at ht
 ·rw[if_neg (by omega),if_neg (by omega),if_neg (by omega),if_neg (by omega)]at hx
  exact value_text_bad id n s t w _ _ _ (shv_of id 6 3 0 _ h rfl rfl hx) hls (by unfold txo at ht;simpa [h] using ht)
 ·rw[if_neg (by omega),if_neg (by omega),if_neg (by omega),if_neg (by omega)]at hx
  exact value_bin_bad id n s t w _ _ _ (shv_of id 7 4 0 _ h rfl rfl hx) (by unfold txo at ht;simpa [h] using ht)
 ·rw[if_neg (by omega),if_neg (by omega),if_neg (by omega),if_neg (by omega)]at hx
  have hc:chk (sb s)=0->¬ chk (sb t)=0:=by unfold txo at ht;simpa [h] using ht
  by_cases hs:chk (sb s)=0
  ·exact value_pair_bad2 id n s t w _ _ _ (shv_of id 8 5 0 _ h rfl rfl hx) hlt hs (hc hs)
  ·exact value_pair_bad1 id n s t w _ _ _ (shv_of id 8 5 0 _ h rfl rfl hx) hls hs
theorem one_ok (id n:Int) (s t:ByteArray) (w:World) (hi:1<=id/\id<=42) (hm:may (id,n,s,t)=true):Calls Tryz.prog 160 #[.agg #[.int .i64 id,.int .i64 n,.string s,.string t]] w (ValOk (pb (id,n,s,t)) w):=by
 have hle:=pvb_le _ hm
 have HM:=zh hm
 have HV:=zh (fun W=>value_ok id n s t W hm)
 have HL:=zh (V.put_len id)
 have HP:Hid (pb (id,n,s,t)=V.put id++pvb (id,n,s,t)):=rfl
 generalize pb (id,n,s,t)=l at HP |-
 generalize pvb (id,n,s,t)=l2 at HP HV hle
 clear hm HM
 go_enter Tryz.func160,Tryz.ntmps160
 go_wp2_with fail
 refine (vput_use id _ (by omega) (by omega)).mono ?_
 rintro e w1 ⟨v1,rfl,hown1,hy1,hb1⟩
 have HR:=zh (uh hy1).range
 have HB1:=bal1 hb1
 have c0:w1.cell? ⟨w.heap.size,0,none⟩=some (.int .i64 id):=(hb1.cell (p:=⟨w.heap.size,0,none⟩) (by simp)).trans (by simp)
 have c1:w1.cell? ⟨w.heap.size,1,none⟩=some (.int .i64 n):=(hb1.cell (p:=⟨w.heap.size,1,none⟩) (by simp)).trans (by simp)
 have c2:w1.cell? ⟨w.heap.size,2,none⟩=some (.string s):=(hb1.cell (p:=⟨w.heap.size,2,none⟩) (by simp)).trans (by simp)
 have c3:w1.cell? ⟨w.heap.size,3,none⟩=some (.string t):=(hb1.cell (p:=⟨w.heap.size,3,none⟩) (by simp)).trans (by simp)
 have HO1:Hid (w1.ownsRow w.heap.size 5 1 v1 (V.put id).length ((V.put id).map (Value.int .u8))):=owns_mono (uh hown1) (by simp)
 clear hb1 hown1 hy1
 go_wp2_with fail
 refine ((uh HV) _).mono ?_
 rintro e w2 ⟨v2,rfl,hy2,hb2⟩
 have HO2:Hid (w2.ownsRow w.heap.size 5 1 v1 (V.put id).length ((V.put id).map (Value.int .u8))):=owns_below (uh HO1) hb2
 have HB2:Hid (Below w.heap.size w w2):=(uh HB1).trans (hb2.mono (uh HB1).size)
 clear hb2 HB1 HO1 c0 c1 c2 c3
 go_wp2_with (first
  | (at_builtin;refine wpList_append_byt _ rfl _ _ rfl w.heap.size _ (V.put id).length (V.put id) rfl (uh HO2) v2 l2 rfl (uh hy2) (by have:=uh HL;omega) (uh HB2).size ?_)
  | go_in)
 intro v3 w3 hown3 hgrow3
 have hb3:Below w.heap.size w w3:=(uh HB2).grown hgrow3 (uh HB2).size (fun k hk=>((uh HO2).lt k hk).1)
 have HY3:Hid (Byt w3 v3 l):=by
  show Byt _ _ _
  rw[uh HP]
  exact byt_of_owns (by rw[List.map_append];exact hown3) (range_app (uh HR) (uh hy2).range)
 clear hown3 hgrow3
 go_wp2
 go_ret2
 exact⟨_,rfl,HY3,hb3⟩
theorem one_bad (id n:Int) (s t:ByteArray) (w:World) (hi:1<=id/\id<=42) (hls:s.size<=4611686018427387904) (hlt:t.size<=4611686018427387904) (hk:kd id≠0) (ht:txo (id,n,s,t)=false):Calls Tryz.prog 160 #[.agg #[.int .i64 id,.int .i64 n,.string s,.string t]] w (ValBad w):=by
 have HV:=zh (fun W=>value_bad id n s t W hls hlt hk ht)
 clear hls hlt hk ht
 go_enter Tryz.func160,Tryz.ntmps160
 go_wp2_with fail
 refine (vput_use id _ (by omega) (by omega)).mono ?_
 rintro e w1 ⟨v1,rfl,-,-,hb1⟩
 have HB1:=bal1 hb1
 have c0:w1.cell? ⟨w.heap.size,0,none⟩=some (.int .i64 id):=(hb1.cell (p:=⟨w.heap.size,0,none⟩) (by simp)).trans (by simp)
 have c1:w1.cell? ⟨w.heap.size,1,none⟩=some (.int .i64 n):=(hb1.cell (p:=⟨w.heap.size,1,none⟩) (by simp)).trans (by simp)
 have c2:w1.cell? ⟨w.heap.size,2,none⟩=some (.string s):=(hb1.cell (p:=⟨w.heap.size,2,none⟩) (by simp)).trans (by simp)
 have c3:w1.cell? ⟨w.heap.size,3,none⟩=some (.string t):=(hb1.cell (p:=⟨w.heap.size,3,none⟩) (by simp)).trans (by simp)
 clear hb1
 go_wp2_with fail
 refine ((uh HV) _).mono ?_
 rintro e w2 ⟨t2,x2,m,rfl,hi2,hb2⟩
 go_wp2
 go_ret2
 exact⟨_,_,_,rfl,hi2,(uh HB1).trans (hb2.mono (uh HB1).size)⟩
def RowAt (w:World) (R:Nat) (place:Int) (f:Nat->Bool):Prop :=
 w.cell? ⟨R,0,none⟩=some (.int .i64 place)/\∀ j,j<=42->w.cell? ⟨R,1+j,none⟩=some (.bool (f j))/\w.frozen? ⟨R,1+j,none⟩=false
theorem RowAt.lt {w:World} {R:Nat} {place:Int} {f:Nat->Bool} (h:RowAt w R place f):R<w.heap.size:=cell_lt h.1
theorem RowAt.below {w w':World} {R:Nat} {place:Int} {f:Nat->Bool} (h:RowAt w R place f) (hb:Below w.heap.size w w'):RowAt w' R place f:=by
 have hl:=h.lt
 exact⟨(hb.cell (p:=⟨R,0,none⟩) hl).trans h.1,fun j hj=>⟨(hb.cell (p:=⟨R,1+j,none⟩) hl).trans (h.2 j hj).1,(hb.frozen (p:=⟨R,1+j,none⟩) hl).trans (h.2 j hj).2⟩⟩
theorem RowAt.set {w:World} {R:Nat} {place:Int} {f:Nat->Bool} (h:RowAt w R place f) (k:Nat) (hk:k<=42):RowAt (w.setCell ⟨R,1+k,none⟩ (.bool true)) R place (fun j=>f j||decide (k=j)):=by
 refine⟨?_,fun j hj=>⟨?_,?_⟩⟩
 ·rw[World.cell?_setCell_other _ _ _ _ (by intro e;simp at e)];exact h.1
 ·by_cases e:k=j
  ·subst e
   rw[World.cell?_setCell_same _ _ _ (h.2 k hj).1];simp
  ·rw[World.cell?_setCell_other _ _ _ _ (fun e'=>e (by injection e' with _ h2;omega)),(h.2 j hj).1];simp[e]
 ·rw[World.frozen?_setCell];exact (h.2 j hj).2
theorem RowAt.congr {w:World} {R:Nat} {place:Int} {f g:Nat->Bool} (h:RowAt w R place f) (e:∀ j,j<=42->f j=g j):RowAt w R place g:=⟨h.1,fun j hj=>by rw[<- e j hj];exact h.2 j hj⟩
theorem rowAt_new (w:World) (place:Int):RowAt (w.alloc (.cells (rowA place) 209)) w.heap.size place (fun _=>false):=by
 refine⟨by simp[rowA],fun j hj=>⟨?_,by simp⟩⟩
 rw[World.cell?_alloc_at _ _ _ _ rfl]
 unfold rowA
 rw[Array.getElem?_append_right (by simp)]
 rw[Array.getElem?_replicate,if_pos (show 1+j - #[Value.int IntKind.i64 place].size<43 from by simp;omega)]
theorem owns_set {w:World} {B:Nat} {e:TypeId} {s:Nat} {v:Value} {n:Nat} {xs:List Value} (h:w.ownsRow B e s v n xs) (p:Addr) (u:Value) (hp:p.block<B):(w.setCell p u).ownsRow B e s v n xs:=by
 refine⟨h.1,?_⟩
 rcases h.2 with h1|⟨g,cap,cur,hv,hB,hg,rest⟩
 ·exact .inl h1
 ·exact .inr ⟨g,cap,cur,hv,hB,by rw[Below.heap_setCell w p u g (by omega)];exact hg,rest⟩
theorem row_grown {w w':World} {R:Nat} {place:Int} {f:Nat->Bool} {o:Option Nat} (h:RowAt w R place f) (hg:w.grownBy w' o) (ho:∀ g,o=some g->g≠R):RowAt w' R place f:=by
 have hb:w'.heap[R]?=w.heap[R]?:=hg.block R h.lt (fun e=>ho R e.symm rfl)
 exact⟨(World.cell?_of_block (w:=w) (a:=⟨R,0,none⟩) hb).trans h.1,fun j hj=>⟨(World.cell?_of_block (w:=w) (a:=⟨R,1+j,none⟩) hb).trans (h.2 j hj).1,(World.frozen?_of_block (w:=w) (a:=⟨R,1+j,none⟩) hb).trans (h.2 j hj).2⟩⟩
theorem take_min (l:List Pr) (k:Nat) (h:l.length=k):l.take 32=l.take (min k 32):=by
 rcases Nat.le_total k 32 with a|a
 ·rw[Nat.min_eq_left a,List.take_of_length_le (by omega),List.take_of_length_le (by omega)]
 ·rw[Nat.min_eq_right a]
def tk (place id n:Int) (s t:ByteArray) (sn:Bool):Bool:=mst id place&&fit (id,n,s,t)&&(rep id place || !sn)
theorem take_bad (R:Nat) (place id n:Int) (s t:ByteArray) (f:Nat->Bool) (w:World) (hR:RowAt w R place f) (h:tk place id n s t (f id.toNat)=false) :
  Calls Tryz.prog 159 #[.pointer (some ⟨R,0,none⟩),.agg #[.int .i64 id,.int .i64 n,.string s,.string t]] w (TakeNo w):=by
 unfold tk at h
 by_cases hm:mst id place=true
 ·by_cases hf:fit (id,n,s,t)=true
  ·obtain⟨h1,h2⟩:=id_range id place hm
   obtain⟨k,rfl⟩:∃ k:Nat,id=k:=⟨id.toNat,by omega⟩
   rw[hm,hf]at h
   simp only[Bool.and_true,Bool.true_and,Int.toNat_natCast,Bool.or_eq_false_iff,Bool.not_eq_false']at h
   exact take_no3 R k place n s t w (by omega) hR.1 (by rw[(hR.2 k (by omega)).1,h.2]) hm hf h.1
  ·exact take_no2 R place id n s t w hR.1 hm (by simpa using hf)
 ·exact take_no1 R place id n s t w hR.1 (by simpa using hm)
theorem take_good (R k:Nat) (place n:Int) (s t:ByteArray) (f:Nat->Bool) (w:World) (hk:k<=42) (hR:RowAt w R place f) (h:tk place k n s t (f k)=true) :
  Calls Tryz.prog 159 #[.pointer (some ⟨R,0,none⟩),.agg #[.int .i64 (k:Int),.int .i64 n,.string s,.string t]] w fun e w'=>e=.returned .nilIface/\∃ w1,Below w.heap.size w w1/\w'=w1.setCell ⟨R,1+k,none⟩ (.bool true):=by
 unfold tk at h
 rw[Bool.and_eq_true,Bool.and_eq_true]at h
 obtain⟨⟨hm,hf⟩,hr⟩:=h
 have hc:=(hR.2 k hk).1
 have hz:=(hR.2 k hk).2
 cases hs:f k
 ·rw[hs]at hc
  exact take_ok0 R k place n s t w hk hR.1 hc hz hm hf
 ·rw[hs]at hc hr
  exact take_ok1 R k place n s t w hk hR.1 hc hz hm hf (by simpa using hr)
theorem take_use (R k:Nat) (place n:Int) (s t:ByteArray) (f g:Nat->Bool) (w:World) (hk:k<=42) (hR:RowAt w R place f) (h:tk place k n s t (f k)=true) (hg:∀ j,j<=42->(f j||decide (k=j))=g j) (B:Nat) (hB:B<=R) :
  Calls Tryz.prog 159 #[.pointer (some ⟨R,0,none⟩),.agg #[.int .i64 (k:Int),.int .i64 n,.string s,.string t]] w fun e w'=>e=.returned .nilIface/\Hid (RowAt w' R place g)/\Below B w w'/\Hid (∀ (B':Nat) (v:Value) (m:Nat) (xs:List Value) (e:TypeId) (q:Nat),R<B'->w.ownsRow B' e q v m xs->w'.ownsRow B' e q v m xs)/\Hid (∀ (b i:Nat),b≠R->b<w.heap.size->w'.cell? ⟨b,i,none⟩=w.cell? ⟨b,i,none⟩):=by
 refine (take_good R k place n s t f w hk hR h).mono ?_
 rintro e w' ⟨rfl,w1,hb,rfl⟩
 have hl:=hR.lt
 refine⟨rfl,((hR.below hb).set k hk).congr hg,(hb.mono (by omega)).setCell hB _,?_,?_⟩
 ·intro B' v m xs e q hB' ho
  exact owns_set (owns_below ho hb) _ _ hB'
 ·intro b i hbR hbw
  rw[World.cell?_setCell_far _ _ _ _ (by simpa using Ne.symm hbR)]
  exact hb.cell (p:=⟨b,i,none⟩) hbw
def PrAt (w:World) (b off:Nat) (l:List Pr):Prop:=∀ k,k<l.length->w.cell? ⟨b,off+k*4,none⟩=some (.int .i64 (at0 l k).1)/\w.cell? ⟨b,off+k*4+1,none⟩=some (.int .i64 (at0 l k).2.1)/\w.cell? ⟨b,off+k*4+2,none⟩=some (.string (at0 l k).2.2.1)/\w.cell? ⟨b,off+k*4+3,none⟩=some (.string (at0 l k).2.2.2)
theorem PrAt.below {w w':World} {b off:Nat} {l:List Pr} (h:PrAt w b off l) (hb:Below w.heap.size w w'):PrAt w' b off l:=fun k hk=>by
 obtain⟨h0,h1,h2,h3⟩:=h k hk
 have hl:=cell_lt h0
 exact⟨(hb.cell (p:=⟨b,off+k*4,none⟩) hl).trans h0,(hb.cell (p:=⟨b,off+k*4+1,none⟩) hl).trans h1,(hb.cell (p:=⟨b,off+k*4+2,none⟩) hl).trans h2,(hb.cell (p:=⟨b,off+k*4+3,none⟩) hl).trans h3⟩
def Small (l:List Pr):Prop:=∀ k,k<l.length->(at0 l k).2.2.1.size<=4611686018427387904/\(at0 l k).2.2.2.size<=4611686018427387904
def TellPost (place:Int) (l:List Pr) (w:World) (e:Ending) (w':World):Prop :=
 (okTo place l l.length/\∃ v,e=.returned (.tuple #[v,.int .i64 (body l).length,.nilIface])/\Hid (Byt w' v (body (l.take 32)))/\Below w.heap.size w w') \/
 (chkP place l=1/\∃ E,e=.returned (.tuple #[.slice none 0 0,.int .i64 0,.iface 125 E])/\Hid (ErrP w' (.iface 125 E) 1)/\Below w.heap.size w w')
theorem okAt_tk (place:Int) (l:List Pr) (k:Nat):okAt place l k=(tk place (at0 l k).1 (at0 l k).2.1 (at0 l k).2.2.1 (at0 l k).2.2.2 (seen l k (at0 l k).1)&&txo (at0 l k)):=by
 unfold okAt tk may
 rw[show ((at0 l k).1,(at0 l k).2.1,(at0 l k).2.2.1,(at0 l k).2.2.2)=at0 l k from rfl]
 cases mst (at0 l k).1 place<;>cases fit (at0 l k)<;>cases txo (at0 l k)<;>cases (rep (at0 l k).1 place || !seen l k (at0 l k).1)<;>rfl
theorem kd_of_mst (id place:Int) (h:mst id place=true):kd id≠0:=by
 revert h
 refine id_cases (P:=fun id=>mst id place=true->kd id≠0) id ?_ ?_ ?_ ?_ ?_ ?_ ?_ ?_ ?_ ?_ ?_ ?_ ?_ ?_ ?_ ?_ ?_ ?_ ?_ ?_ ?_ ?_ ?_ ?_ ?_ ?_ ?_ ?none
 case none =>
  intro n1 n2 n3 n8 n9 n11 n17 n18 n19 n21 n22 n23 n24 n25 n26 n28 n31 n33 n34 n35 n36 n37 n38 n39 n40 n41 n42 h
  unfold mst at h
  rw[plc_none id n1 n2 n3 n8 n9 n11 n17 n18 n19 n21 n22 n23 n24 n25 n26 n28 n31 n33 n34 n35 n36 n37 n38 n39 n40 n41 n42]at h
  simp at h
 all_goals
  intro _
  decide
theorem tk_toNat {place id n:Int} {s t:ByteArray} {b:Bool} (f:Int->Bool) (h:tk place id n s t (f id)=b):tk place id n s t (f (id.toNat:Int))=b:=by
 subst h
 by_cases hm:mst id place=true
 ·have:=id_range id place hm
  rw[show (id.toNat:Int)=id from by omega]
 ·have hm':mst id place=false:=by simpa using hm
  unfold tk
  rw[hm'];rfl
theorem tk_mst {place id n:Int} {s t:ByteArray} {sn:Bool} (h:tk place id n s t sn=true):mst id place=true/\fit (id,n,s,t)=true:=by
 unfold tk at h
 rw[Bool.and_eq_true,Bool.and_eq_true]at h
 exact h.1
theorem tell_core (b off cap:Nat) (l:List Pr) (len:Nat) (place:Int) (w:World) (hlen:l.length=len) (h200:len<=4398046511104) (hsm:Small l) (hl:PrAt w b off l) :
  Calls Tryz.prog 136 #[.slice (some ⟨b,off,none⟩) len cap,.int .i64 place] w (TellPost place l w):=by
 have HL:=zh hl
 have HLEN:=zh hlen
 have HSM:=zh hsm
 clear hl hlen hsm
 go_enter Tryz.func136,Tryz.ntmps136
 iterate 19 go_step
 refine wpList_value rfl (row_build _ _ _ _ _ _ place rfl _) ?_
 simp only[sp]
 refine wpList_value rfl (row_alloc _ _ _ _ _ _) ?_
 simp only[sp]
 refine wpList_skip rfl (row_store _ _ _ _ _ _ _ place _ rfl rfl) ?_
 simp only[Act.put]
 go_wp2
 have hR0:Hid (RowAt (w.alloc (.cells (rowA place) 209)) w.heap.size place (fun _=>false)):=rowAt_new w place
 go_loopw [4,5,16] (fun b0 sz iv wr=>∃ (bv:Value) (k S:Nat),b0=bv/\k<=len/\iv=.int .i64 k/\sz=.int .i64 S/\S<=k*131078/\Hid (S=(body (l.take k)).length)/\Hid (okTo place l k)/\Hid (RowAt wr w.heap.size place (fun j=>seen l k j))/\Hid (wr.ownsRow (w.heap.size+1) 5 1 bv (body (l.take (min k 32))).length ((body (l.take (min k 32))).map (Value.int .u8)))/\Hid (∀ j,0<=(body (l.take (min k 32))).getD j 0/\(body (l.take (min k 32))).getD j 0<=255)/\Below w.heap.size w wr) (fun _ _ iv _=>len-(intOf iv).toNat)
 case atStart =>
  refine⟨_,0,0,rfl,Nat.zero_le _,rfl,rfl,by omega,by simp[body];trivial,okTo_zero _ _,(uh hR0).congr (fun j _=>(seen_zero _ _).symm),?_,?_,?_⟩
  ·show World.ownsRow _ _ _ _ _ _ _
   simpa [body] using World.ownsRow_nil _ _ _ _
  ·intro j;simp[body]
  ·exact bal _ _
 case round =>
  obtain⟨_,k,S,rfl,hk,rfl,rfl,hSk,HS,HOT,HROW,HOWN,HRG,hbel⟩:=hrel
  clear hR0
  have hsz:=hbel.size
  have hRl:=(uh HROW).lt
  by_cases hlt:k<len
  ·obtain⟨id,n,s,t,hp⟩:∃ id n s t,at0 l k=(id,n,s,t):=⟨_,_,_,_,rfl⟩
   obtain⟨h0,h1,h2,h3⟩:=((uh HL).below hbel) k (by rw[uh HLEN];exact hlt)
   have hsm:=(uh HSM) k (by rw[uh HLEN];exact hlt)
   have hot:=zh (okAt_tk place l k)
   rw[hp]at h0 h1 h2 h3 hsm hot
   simp only at h0 h1 h2 h3 hsm
   have HP:=zh hp
   have HBEL:=zh hbel
   have HSMK:=zh hsm
   have HLTk:Hid (k<l.length):=by show _<_;rw[uh HLEN];exact hlt
   clear hp hbel hsm
   have hbl:=cell_lt h0
   cases htk:tk place id n s t (seen l k id)
   ·have HC:Hid (chkP place l=1):=chkP_bad place l k (uh HLTk) ((uh hot).trans (by simp only[htk,Bool.false_and]))
    have HTK:=zh (tk_toNat (seen l k) htk)
    clear htk hot
    go_wp2_with fail
    refine (take_bad w.heap.size place id n s t (fun j=>seen l k j) _ ((uh HROW).below (bal _ _)) (uh HTK)).mono ?_
    rintro e w2 ⟨E,rfl,hE,hb2⟩
    go_wp2
    go_ret3
    exact .inr ⟨uh HC,_,rfl,hE,((uh HBEL).alloc hsz _).trans (hb2.mono (by simp;omega))⟩
   ·obtain⟨hmst,hfit⟩:=tk_mst htk
    obtain⟨hi1,hi2⟩:=id_range id place hmst
    obtain⟨q,rfl⟩:∃ q:Nat,id=q:=⟨id.toNat,by omega⟩
    have hkd:=zh (kd_of_mst _ _ hmst)
    have hxt:Hid (okAt place l k=txo ((q:Int),n,s,t)):=(uh hot).trans (by rw[htk,Bool.true_and])
    have HTK:=zh htk
    have HFT:=zh hfit
    have HG:Hid (∀ j:Nat,j<=42->(seen l k (j:Int)||decide (q=j))=seen l (k+1) (j:Int)):=fun j _=>by
     rw[seen_succ l k (uh HLTk),uh HP,show decide (((q:Int),n,s,t).1=(j:Int))=decide (q=j) from by rw[decide_eq_decide];constructor<;>intro h<;>omega]
    clear htk hot hmst hfit
    go_wp2_with fail
    refine (take_use w.heap.size q place n s t (fun j=>seen l k j) (fun j=>seen l (k+1) j) _ (by omega) ((uh HROW).below (bal _ _)) (uh HTK) (uh HG) w.heap.size (Nat.le_refl _)).mono ?_
    rintro e w2 ⟨rfl,HROW2,hb2,HOWT,HCT⟩
    have d0:w2.cell? ⟨wr.heap.size,0,none⟩=some (.int .i64 (q:Int)):=((uh HCT) wr.heap.size 0 (by omega) (by simp)).trans (by simp)
    have d1:w2.cell? ⟨wr.heap.size,1,none⟩=some (.int .i64 n):=((uh HCT) wr.heap.size 1 (by omega) (by simp)).trans (by simp)
    have d2:w2.cell? ⟨wr.heap.size,2,none⟩=some (.string s):=((uh HCT) wr.heap.size 2 (by omega) (by simp)).trans (by simp)
    have d3:w2.cell? ⟨wr.heap.size,3,none⟩=some (.string t):=((uh HCT) wr.heap.size 3 (by omega) (by simp)).trans (by simp)
    have HOWN2:Hid (w2.ownsRow (w.heap.size+1) 5 1 u4 (body (l.take (min k 32))).length ((body (l.take (min k 32))).map (Value.int .u8))):=(uh HOWT) _ _ _ _ _ _ (by omega) ((uh HOWN).alloc _)
    have HB2:Hid (Below w.heap.size w w2):=((uh HBEL).alloc hsz _).trans hb2
    have hs2:=(uh HB2).size
    clear hb2 HOWT HCT HOWN HBEL HROW HG HTK h0 h1 h2 h3
    cases htx:txo ((q:Int),n,s,t)
    ·have HC:Hid (chkP place l=1):=chkP_bad place l k (uh HLTk) ((uh hxt).trans htx)
     have HTX:=zh htx
     clear htx hxt
     go_wp2_with fail
     refine (one_bad q n s t _ (by omega) (uh HSMK).1 (uh HSMK).2 (uh hkd) (uh HTX)).mono ?_
     rintro e w3 ⟨t3,x3,m3,rfl,hin3,hb3⟩
     have HB3:Hid (Below w.heap.size w w3):=(uh HB2).trans (hb3.mono hs2)
     clear hb3
     go_wp2_with fail
     refine (broken_use _ m3 _ (uh hin3)).mono ?_
     rintro e w4 ⟨E,rfl,hE,hb4⟩
     go_wp2
     go_ret3
     exact .inr ⟨uh HC,_,rfl,hE,(uh HB3).trans (hb4.mono (uh HB3).size)⟩
    ·have HOK:Hid (okAt place l k=true):=(uh hxt).trans htx
     have HM:Hid (may ((q:Int),n,s,t)=true):=by show may _=true;unfold may;rw[uh HFT,htx];rfl
     have hpl:=pb_le _ (uh HM)
     have HPB:Hid (body (l.take (k+1))=body (l.take k)++pb ((q:Int),n,s,t)):=by show _=_;rw[body_take l k (uh HLTk),uh HP]
     have HV:=zh (fun W=>one_ok q n s t W (by omega) (uh HM))
     generalize pb ((q:Int),n,s,t)=L at HV hpl HPB
     clear htx hxt HM HFT hkd HSMK
     go_wp2_with fail
     refine ((uh HV) _).mono ?_
     rintro e w3 ⟨v3,rfl,hy3,hb3⟩
     have HOWN3:Hid (w3.ownsRow (w.heap.size+1) 5 1 u4 (body (l.take (min k 32))).length ((body (l.take (min k 32))).map (Value.int .u8))):=owns_below (uh HOWN2) hb3
     have HROW3:Hid (RowAt w3 w.heap.size place (fun j=>seen l (k+1) j)):=(uh HROW2).below hb3
     have HB3:Hid (Below w.heap.size w w3):=(uh HB2).trans (hb3.mono hs2)
     have hs3:w.heap.size+1<=w3.heap.size:=by have:=(uh HROW3).lt;omega
     clear hb3 HOWN2 HROW2 HB2 d0 d1 d2 d3 HV
     obtain⟨ao,vc,rfl,hv1,hv2⟩:=(uh hy3).form
     unfold maxLen at hv2
     generalize hN:L.length=N at hpl hv1 hy3
     have HN:=zh hN
     clear hN
     have HS':Hid (S+N=(body (l.take (k+1))).length):=by show _=_;rw[uh HPB,List.length_append,uh HN,uh HS]
     by_cases h32:k<32
     ·have hle:=body_le l place k (Nat.le_of_lt (uh HLTk)) (uh HOT)
      have HM1:Hid (min k 32=k):=Nat.min_eq_left (by omega)
      have HM2:Hid (min (k+1) 32=k+1):=Nat.min_eq_left (by omega)
      rw[uh HM1]at HOWN3 HRG
      rw[<- uh HS]at hle
      have HSL:Hid ((body (l.take k)).length=S):=(uh HS).symm
      rw[uh HSL]at HOWN3
      have HYN:Hid (Byt w3 (.slice ao N vc) L):=hy3
      go_wp2_with (first
       | (at_builtin;refine wpList_append_byt _ rfl _ _ rfl (w.heap.size+1) _ S (body (l.take k)) rfl (uh HOWN3) (.slice ao N vc) L rfl (uh HYN) (by have:=uh HN;omega) hs3 ?_)
       | go_in)
      intro v4 w4 hown4 hgrow4
      have HB4:Hid (Below w.heap.size w w4):=(uh HB3).grown hgrow4 (uh HB3).size (fun g hg=>by have:=((uh HOWN3).lt g hg).1;omega)
      have HROW4:Hid (RowAt w4 w.heap.size place (fun j=>seen l (k+1) j)):=row_grown (uh HROW3) hgrow4 (fun g hg=>by have:=((uh HOWN3).lt g hg).1;omega)
      have HOWN4:Hid (w4.ownsRow (w.heap.size+1) 5 1 v4 (body (l.take (min (k+1) 32))).length ((body (l.take (min (k+1) 32))).map (Value.int .u8))):=by
       show World.ownsRow _ _ _ _ _ _ _
       rw[uh HM2,uh HPB,List.map_append,List.length_append,uh HSL]
       exact hown4
      have HRG4:Hid (∀ j,0<=(body (l.take (min (k+1) 32))).getD j 0/\(body (l.take (min (k+1) 32))).getD j 0<=255):=by
       show ∀ j,_
       rw[uh HM2,uh HPB]
       exact range_app (uh HRG) (uh HYN).range
      clear hown4 hgrow4
      go_wp2
      go_roundw
      case rel=>exact⟨_,k+1,S+N,rfl,by omega,by go_num,by go_num,by omega,HS',okTo_succ (uh HOT) (uh HOK),HROW4,HOWN4,HRG4,uh HB4⟩
      case measure=>simp[intOf];omega
     ·have HM1:Hid (min k 32=min (k+1) 32):=by show _=_;omega
      rw[uh HM1]at HOWN3 HRG
      go_wp2
      go_roundw
      case rel=>exact⟨_,k+1,S+N,rfl,by omega,by go_num,by go_num,by omega,HS',okTo_succ (uh HOT) (uh HOK),HROW3,HOWN3,HRG,uh HB3⟩
      case measure=>simp[intOf];omega
  ·obtain rfl:k=len:=by omega
   have HY:Hid (Byt wr u4 (body (l.take 32))):=by
    show Byt _ _ _
    rw[take_min l k (uh HLEN)]
    exact byt_of_owns (uh HOWN) (uh HRG)
   have HS':Hid ((S:Int)=((body l).length:Int)):=by
    show _=_
    rw[uh HS,List.take_of_length_le (Nat.le_of_eq (uh HLEN))]
   go_wp2
   go_ret3
   exact .inl ⟨by rw[uh HLEN];exact uh HOT,_,by rw[<- uh HS'];rfl,HY,hbel⟩
def Prp (w:World) (v:Value) (l:List Pr):Prop:=∃ ao cap,v=.slice ao l.length cap/\(l=[]\/∃ b off,ao=some ⟨b,off,none⟩/\PrAt w b off l)
theorem Prp.below {w w':World} {v:Value} {l:List Pr} (h:Prp w v l) (hb:Below w.heap.size w w'):Prp w' v l:=by
 obtain⟨ao,cap,h1,h2⟩:=h
 refine⟨ao,cap,h1,?_⟩
 rcases h2 with h2|⟨b,off,e,hc⟩
 ·exact .inl h2
 ·exact .inr ⟨b,off,e,hc.below hb⟩
theorem Prp.form {w:World} {v:Value} {l:List Pr} (h:Prp w v l):∃ ao cap,v=.slice ao l.length cap:=by
 obtain⟨ao,cap,h1,_⟩:=h
 exact⟨ao,cap,h1⟩
theorem tell_nil (ao:Option Addr) (cap:Nat) (place:Int) (w:World):Calls Tryz.prog 136 #[.slice ao 0 cap,.int .i64 place] w (TellPost place [] w):=by
 go_enter Tryz.func136,Tryz.ntmps136
 iterate 19 go_step
 refine wpList_value rfl (row_build _ _ _ _ _ _ place rfl _) ?_
 simp only[sp]
 refine wpList_value rfl (row_alloc _ _ _ _ _ _) ?_
 simp only[sp]
 refine wpList_skip rfl (row_store _ _ _ _ _ _ _ place _ rfl rfl) ?_
 simp only[Act.put]
 go_wp2
 refine wp_loop_rounds 1 ?_
 rw[rounds_succ]
 go_wp2
 go_ret3
 exact .inl ⟨okTo_zero _ _,_,rfl,⟨none,0,rfl,⟨Nat.le_refl _,by unfold maxLen;omega⟩,fun j=>by simp[body],.inl rfl⟩,bal _ _⟩
theorem tell_any (v:Value) (l:List Pr) (place:Int) (w:World) (h:Prp w v l) (h200:l.length<=4398046511104) (hsm:Small l):Calls Tryz.prog 136 #[v,.int .i64 place] w (TellPost place l w):=by
 obtain⟨ao,cap,rfl,hc⟩:=h
 rcases hc with rfl|⟨b,off,rfl,hc⟩
 ·exact tell_nil ao cap place w
 ·exact tell_core b off cap l _ place w rfl h200 hsm hc
def pbz (place:Int) (l:List Pr):List Int:=if chkP place l=0 then pbs l else []
theorem put_own (v:Value) (l:List Pr) (place:Int) (w:World) (h:Prp w v l) (h200:l.length<=200) (hsm:Small l) :
  Calls Tryz.prog 103 #[v,.int .i64 place] w fun e w'=>∃ v E,e=.returned (.tuple #[v,E])/\Hid (Byt w' v (pbz place l))/\Hid (ErrP w' E (chkP place l))/\Below w.heap.size w w'/\Hid (chkP place l=0->w'.ownsRow w.heap.size 5 1 v (pbz place l).length ((pbz place l).map (Value.int .u8))/\E=.nilIface)/\Hid (chkP place l≠0->v=.slice none 0 0/\∃ x,E=.iface 125 x):=by
 have HT:=zh (tell_any v l place w h (by omega) hsm)
 obtain⟨ao,cap,hv⟩:=h.form
 subst hv
 clear h hsm
 generalize hn:l.length=len at h200 HT
 have HN:=zh hn
 clear hn
 have hbad:∀ (W:World),chkP place l≠0->Byt W (.slice none 0 0) (pbz place l):=fun W hc=>by
  unfold pbz
  rw[if_neg hc]
  exact⟨none,0,rfl,⟨Nat.le_refl _,by unfold maxLen;omega⟩,fun j=>by simp,.inl rfl⟩
 have HBAD:=zh hbad
 clear hbad
 go_enter Tryz.func103,Tryz.ntmps103
 go_wp2_with fail
 refine (uh HT).mono ?_
 rintro e w1 (⟨hok,v1,rfl,hy,hb1⟩|⟨hc,E,rfl,hE,hb1⟩)
 ·have hle:=body_le l place len (by rw[uh HN];exact Nat.le_refl _) (by rw[uh HN]at hok;exact hok)
  rw[List.take_of_length_le (Nat.le_of_eq (uh HN))]at hle
  have HOK:=zh hok
  have HB1:=zh hb1
  clear hb1 hok
  generalize hS:(body l).length=SZ at hle
  have HS:=zh hS
  clear hS
  go_wp2_with fail
  refine (vput_use SZ _ (by omega) (by omega)).mono ?_
  rintro e w2 ⟨v2,rfl,hown2,hy2,hb2⟩
  have HB2:Hid (Below w.heap.size w w2):=(uh HB1).trans (hb2.mono (uh HB1).size)
  have HO2:Hid (w2.ownsRow w.heap.size 5 1 v2 (V.put SZ).length ((V.put SZ).map (Value.int .u8))):=owns_mono (uh hown2) (uh HB1).size
  have HY1:Hid (Byt w2 v1 (body (l.take 32))):=(uh hy).below hb2
  clear hb2 hown2 hy HB1
  rcases Nat.lt_or_ge 32 len with h32|h32
  ·have HC:Hid (chkP place l=2):=chkP_lim place l (uh HOK) (by rw[uh HN];exact h32)
   go_wp2_with fail
   refine (few_bad len _ (by omega)).mono ?_
   rintro e w3 ⟨E,rfl,hE,hb3⟩
   go_wp2
   go_ret2
   exact⟨_,_,rfl,(uh HBAD) _ (by rw[uh HC];omega),by rw[uh HC];exact hE,(uh HB2).trans (hb3.mono (uh HB2).size),fun k=>(by rw[uh HC]at k;cases k),fun _=>⟨rfl,_,rfl⟩⟩
  ·have HC:Hid (chkP place l=0):=chkP_ok place l (uh HOK) (by rw[uh HN];exact h32)
   have HZ:Hid (pbz place l=V.put SZ++body l):=by show pbz _ _=_;unfold pbz pbs;rw[if_pos (uh HC),uh HS]
   have HL:=zh (V.put_len SZ)
   have HT32:Hid (l.take 32=l):=List.take_of_length_le (by rw[uh HN];exact h32)
   rw[uh HT32]at HY1
   go_wp2_with fail
   refine (few_ok len _ (by omega)).mono ?_
   rintro e w3 ⟨rfl,hw⟩
   obtain rfl:=hw.symm
   clear hw
   go_wp2_with (first
    | (at_builtin;refine wpList_append_byt _ rfl _ _ rfl w.heap.size _ (V.put SZ).length (V.put SZ) rfl (uh HO2) v1 (body l) rfl (uh HY1) (by have:=uh HL;have:=uh HS;omega) (uh HB2).size ?_)
    | go_in)
   intro v4 w4 hown4 hgrow4
   have HB4:Hid (Below w.heap.size w w4):=(uh HB2).grown hgrow4 (uh HB2).size (fun g hg=>((uh HO2).lt g hg).1)
   have HY4:Hid (Byt w4 v4 (pbz place l)):=by
    show Byt _ _ _
    rw[uh HZ]
    exact byt_of_owns (by rw[List.map_append];exact hown4) (range_app (uh hy2).range (uh HY1).range)
   have HO4:Hid (chkP place l=0->w4.ownsRow w.heap.size 5 1 v4 (pbz place l).length ((pbz place l).map (Value.int .u8))):=fun _=>by
    rw[uh HZ,List.length_append,List.map_append]
    exact hown4
   clear hown4 hgrow4
   go_wp2
   go_ret2
   exact⟨_,_,rfl,HY4,by rw[uh HC];exact ErrP.nil _,uh HB4,fun k=>⟨(uh HO4) k,rfl⟩,fun k=>absurd (uh HC) k⟩
 ·have HC:=zh hc
  clear hc
  go_wp2
  go_ret2
  exact⟨_,_,rfl,(uh HBAD) _ (by rw[uh HC];omega),by rw[uh HC];exact hE,hb1,fun k=>(by rw[uh HC]at k;cases k),fun _=>⟨rfl,_,rfl⟩⟩
theorem put_big (v:Value) (l:List Pr) (place:Int) (w:World) (h:Prp w v l) (h32:32<l.length) (hmx:l.length<=4398046511104) (hsm:Small l) :
  Calls Tryz.prog 103 #[v,.int .i64 place] w fun e w'=>∃ x n,e=.returned (.tuple #[.slice none 0 0,.iface 125 x])/\Hid (ErrP w' (.iface 125 x) n/\n≠0)/\Below w.heap.size w w':=by
 have HT:=zh (tell_any v l place w h hmx hsm)
 obtain⟨ao,cap,hv⟩:=h.form
 subst hv
 clear h hsm
 generalize hn:l.length=len at h32 hmx HT
 have HN:=zh hn
 clear hn
 go_enter Tryz.func103,Tryz.ntmps103
 go_wp2_with fail
 refine (uh HT).mono ?_
 rintro e w1 (⟨hok,v1,rfl,hy,hb1⟩|⟨hc,E,rfl,hE,hb1⟩)
 ·have HB1:=zh hb1
  clear hb1 hok
  generalize (body l).length=SZ
  by_cases hs:SZ<=268435455
  ·go_wp2_with fail
   refine (vput_use SZ _ (by omega) (by omega)).mono ?_
   rintro e w2 ⟨v2,rfl,hown2,hy2,hb2⟩
   have HB2:Hid (Below w.heap.size w w2):=(uh HB1).trans (hb2.mono (uh HB1).size)
   clear hb2 hown2 hy HB1
   go_wp2_with fail
   refine (few_bad len _ (by omega)).mono ?_
   rintro e w3 ⟨E,rfl,hE,hb3⟩
   go_wp2
   go_ret2
   exact⟨_,2,rfl,⟨uh hE,by decide⟩,(uh HB2).trans (hb3.mono (uh HB2).size)⟩
  ·go_wp2_with fail
   refine (V.put_bad SZ _ (.inr (by omega))).mono ?_
   rintro e w2 ⟨rfl,hw2⟩
   have HI:Hid (Inn w2 (.iface 125 (.pointer (some ⟨w1.heap.size,0,none⟩))) 1):=.inr ⟨_,rfl,by rw[hw2];simp⟩
   have HB2:Hid (Below w.heap.size w w2):=by rw[hw2];exact (uh HB1).alloc (uh HB1).size _
   clear hw2 HB1 hy
   go_wp2_with fail
   refine (wrap_use _ 1 _ (uh HI)).mono ?_
   rintro e w3 ⟨E,rfl,hE,hb3⟩
   go_wp2
   go_ret2
   exact⟨_,1,rfl,⟨uh hE,by decide⟩,(uh HB2).trans (hb3.mono (uh HB2).size)⟩
 ·go_wp2
  go_ret2
  exact⟨_,1,rfl,⟨uh hE,by decide⟩,hb1⟩
end Go.Proofs.YtmpijpjlbhfccaaGreatDoor
