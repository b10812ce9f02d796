/- Proved here: helpers, one text behind the other. -/
import Derived.Deep.RegionHeld3
import Derived.Test.YtdkmmmjjdlnnoaaGreatDoorZC22
import Derived.Test.YtdkmmmjjdlnnoaaGreatDoorZC28
import Derived.Test.YtdkmmmjjdlnnoaaGreatDoorZC14
import Derived.Test.YtdkmmmjjdlnnoaaGreatDoorZC7
import Derived.Test.YtdkmmmjjdlnnoaaGreatDoorZC6
import Derived.Test.YtdkmmmjjdlnnoaaGreatDoorZC29
import Derived.Test.YtdkmmmjjdlnnoaaGreatDoorZC17
import Derived.Test.YtdkmmmjjdlnnoaaGreatDoorZC26
import Derived.Deep.Cut
import Derived.Test.YtdkmmmjjdlnnoaaGreatDoorZC27
set_option maxHeartbeats 20000000
namespace Go.Proofs.YtdkmmmjjdlnnoaaGreatDoor
open Go.RowKit
set_option maxRecDepth 100000
theorem rput_use (n:Int) (w:World) (h0:0<=n) (h1:n<=268435455):Calls Tryz.prog 42 #[.int .i64 n] w (fun e w'=>∃ v,e=.returned v/\Hid (w'.ownsRow w.heap.size 5 1 v (V.put n).length ((V.put n).map (Value.int .u8)))/\Hid (Byt w' v (V.put n))/\Below w.heap.size w w'):=by
 refine (V.rput_any n w h0 h1).mono ?_
 rintro e w' ⟨v,rfl,hown,hb⟩
 exact⟨v,rfl,hown,byt_of_owns hown (V.put_range n h0 h1),hb⟩
theorem bin_use (s:ByteArray) (w:World) (hs:s.size<=65535):Calls Tryz.prog 84 #[.string s] w (fun e w'=>∃ v,e=.returned v/\Hid (Byt w' v (tx s))/\Below w.heap.size w w'):=by
 refine (bin_any s w hs).mono ?_
 rintro e w' ⟨v,rfl,hown,hb⟩
 exact⟨v,rfl,byt_of_owns (uh hown) (tx_range s hs),hb⟩
theorem high_use (k n:Int) (w:World) (hk:k=2/\n<=65535\/k=4/\n<=4294967295) (h0:0<=n):Calls Tryz.prog 159 #[.int .i64 n,.int .i64 k] w (fun e w'=>∃ v,e=.returned v/\Hid (Byt w' v (nbs k n))/\Below w.heap.size w w'):=by
 have hr:=nbs_range k n (by omega) h0
 have key:∀ e w',NumPost k n w e w'->∃ v,e=.returned v/\Hid (Byt w' v (nbs k n))/\Below w.heap.size w w':=by
  rintro e w' ⟨v,rfl,hown,hb⟩
  exact⟨v,rfl,byt_of_owns (uh hown) hr,hb⟩
 rcases hk with⟨rfl,h⟩ | ⟨rfl,h⟩
 ·exact (high_2 n w h0 h).mono key
 ·exact (high_4 n w h0 h).mono key
def PutP (l:List Int) (w:World) (e:Ending) (w':World):Prop:=∃ v,e=.returned v/\Hid (Byt w' v l)/\Below w.heap.size w w'
theorem rpp_2 (id n:Int) (s t:ByteArray) (w:World) (hi:1<=id/\id<=42) (hk:kd id=2) (h0:0<=n) (h1:n<=65535):Calls Tryz.prog 127 #[.agg #[.int .i64 id,.int .i64 n,.string s,.string t]] w (PutP (V.put id++(nbs 2 n)) w):=by
 have HK:=zh hk
 clear hk
 have HL:=zh (V.put_len id)
 go_enter Tryz.func127,Tryz.ntmps127
 go_wp2_with fail
 refine (rput_use id _ (by omega) (by omega)).mono ?_
 rintro e w1 ⟨v1,rfl,hown1,hy1,hb1⟩
 have HR:=zh (uh hy1).range
 have HB1:=bal1 hb1
 have c0:w1.cell? ⟨w.heap.size,0,none⟩=some (.int .i64 id):=(hb1.cell (p:=⟨w.heap.size,0,none⟩) (by simp)).trans (by simp)
 have c1:w1.cell? ⟨w.heap.size,1,none⟩=some (.int .i64 n):=(hb1.cell (p:=⟨w.heap.size,1,none⟩) (by simp)).trans (by simp)
 have c2:w1.cell? ⟨w.heap.size,2,none⟩=some (.string s):=(hb1.cell (p:=⟨w.heap.size,2,none⟩) (by simp)).trans (by simp)
 have c3:w1.cell? ⟨w.heap.size,3,none⟩=some (.string t):=(hb1.cell (p:=⟨w.heap.size,3,none⟩) (by simp)).trans (by simp)
 have hlw:w.heap.size < w1.heap.size:=cell_lt c0
 have HO1:Hid (w1.ownsRow w.heap.size 5 1 v1 (V.put id).length ((V.put id).map (Value.int .u8))):=owns_mono (uh hown1) (by simp)
 clear hb1 hown1 hy1
 go_wp2_with fail
 refine (kind_use _ 2 (uh HK) _).mono ?_
 rintro e w' ⟨rfl,hw⟩
 obtain rfl:=hw.symm
 clear hw
 have HLE:Hid (((nbs 2 n)).length<=65537):=(by show List.length _<=_;unfold nbs;simp)
 go_wp2_with fail
 refine (high_use 2 n _ (.inl ⟨rfl,h1⟩) h0).mono ?_
 rintro e w2 ⟨v2,rfl,hy2,hb2⟩
 have HO2:Hid (w2.ownsRow w.heap.size 5 1 v1 (V.put id).length ((V.put id).map (Value.int .u8))):=owns_below (uh HO1) hb2
 have HB2:Hid (Below w.heap.size w w2):=(uh HB1).trans (hb2.mono (uh HB1).size)
 clear hb2 HB1 HO1 c0 c1 c2 c3
 go_wp2_with (first
  | (at_builtin;refine wpList_append_byt _ rfl _ _ rfl w.heap.size _ (V.put id).length (V.put id) rfl (uh HO2) v2 (nbs 2 n) rfl (uh hy2) (by have:=uh HL;have:=uh HLE;omega) (uh HB2).size ?_)
  | go_in)
 intro v3 w3 hown3 hgrow3
 have hb3:Below w.heap.size w w3:=(uh HB2).grown hgrow3 (uh HB2).size (fun k hk=>((uh HO2).lt k hk).1)
 have HY3:Hid (Byt w3 v3 (V.put id++(nbs 2 n))):=byt_of_owns (by rw[List.map_append];exact hown3) (range_app (uh HR) (uh hy2).range)
 clear hown3 hgrow3
 go_wp2
 go_ret
 exact⟨_,rfl,HY3,hb3⟩
theorem rpp_4 (id n:Int) (s t:ByteArray) (w:World) (hi:1<=id/\id<=42) (hk:kd id=4) (h0:0<=n) (h1:n<=4294967295):Calls Tryz.prog 127 #[.agg #[.int .i64 id,.int .i64 n,.string s,.string t]] w (PutP (V.put id++(nbs 4 n)) w):=by
 have HK:=zh hk
 clear hk
 have HL:=zh (V.put_len id)
 go_enter Tryz.func127,Tryz.ntmps127
 go_wp2_with fail
 refine (rput_use id _ (by omega) (by omega)).mono ?_
 rintro e w1 ⟨v1,rfl,hown1,hy1,hb1⟩
 have HR:=zh (uh hy1).range
 have HB1:=bal1 hb1
 have c0:w1.cell? ⟨w.heap.size,0,none⟩=some (.int .i64 id):=(hb1.cell (p:=⟨w.heap.size,0,none⟩) (by simp)).trans (by simp)
 have c1:w1.cell? ⟨w.heap.size,1,none⟩=some (.int .i64 n):=(hb1.cell (p:=⟨w.heap.size,1,none⟩) (by simp)).trans (by simp)
 have c2:w1.cell? ⟨w.heap.size,2,none⟩=some (.string s):=(hb1.cell (p:=⟨w.heap.size,2,none⟩) (by simp)).trans (by simp)
 have c3:w1.cell? ⟨w.heap.size,3,none⟩=some (.string t):=(hb1.cell (p:=⟨w.heap.size,3,none⟩) (by simp)).trans (by simp)
 have hlw:w.heap.size < w1.heap.size:=cell_lt c0
 have HO1:Hid (w1.ownsRow w.heap.size 5 1 v1 (V.put id).length ((V.put id).map (Value.int .u8))):=owns_mono (uh hown1) (by simp)
 clear hb1 hown1 hy1
 go_wp2_with fail
 refine (kind_use _ 4 (uh HK) _).mono ?_
 rintro e w' ⟨rfl,hw⟩
 obtain rfl:=hw.symm
 clear hw
 have HLE:Hid (((nbs 4 n)).length<=65537):=(by show List.length _<=_;unfold nbs;simp)
 go_wp2_with fail
 refine (high_use 4 n _ (.inr ⟨rfl,h1⟩) h0).mono ?_
 rintro e w2 ⟨v2,rfl,hy2,hb2⟩
 have HO2:Hid (w2.ownsRow w.heap.size 5 1 v1 (V.put id).length ((V.put id).map (Value.int .u8))):=owns_below (uh HO1) hb2
 have HB2:Hid (Below w.heap.size w w2):=(uh HB1).trans (hb2.mono (uh HB1).size)
 clear hb2 HB1 HO1 c0 c1 c2 c3
 go_wp2_with (first
  | (at_builtin;refine wpList_append_byt _ rfl _ _ rfl w.heap.size _ (V.put id).length (V.put id) rfl (uh HO2) v2 (nbs 4 n) rfl (uh hy2) (by have:=uh HL;have:=uh HLE;omega) (uh HB2).size ?_)
  | go_in)
 intro v3 w3 hown3 hgrow3
 have hb3:Below w.heap.size w w3:=(uh HB2).grown hgrow3 (uh HB2).size (fun k hk=>((uh HO2).lt k hk).1)
 have HY3:Hid (Byt w3 v3 (V.put id++(nbs 4 n))):=byt_of_owns (by rw[List.map_append];exact hown3) (range_app (uh HR) (uh hy2).range)
 clear hown3 hgrow3
 go_wp2
 go_ret
 exact⟨_,rfl,HY3,hb3⟩
theorem rpp_5 (id n:Int) (s t:ByteArray) (w:World) (hi:1<=id/\id<=42) (hk:kd id=5) (h0:0<=n) (h1:n<=268435455):Calls Tryz.prog 127 #[.agg #[.int .i64 id,.int .i64 n,.string s,.string t]] w (PutP (V.put id++(V.put n)) w):=by
 have HK:=zh hk
 clear hk
 have HL:=zh (V.put_len id)
 go_enter Tryz.func127,Tryz.ntmps127
 go_wp2_with fail
 refine (rput_use id _ (by omega) (by omega)).mono ?_
 rintro e w1 ⟨v1,rfl,hown1,hy1,hb1⟩
 have HR:=zh (uh hy1).range
 have HB1:=bal1 hb1
 have c0:w1.cell? ⟨w.heap.size,0,none⟩=some (.int .i64 id):=(hb1.cell (p:=⟨w.heap.size,0,none⟩) (by simp)).trans (by simp)
 have c1:w1.cell? ⟨w.heap.size,1,none⟩=some (.int .i64 n):=(hb1.cell (p:=⟨w.heap.size,1,none⟩) (by simp)).trans (by simp)
 have c2:w1.cell? ⟨w.heap.size,2,none⟩=some (.string s):=(hb1.cell (p:=⟨w.heap.size,2,none⟩) (by simp)).trans (by simp)
 have c3:w1.cell? ⟨w.heap.size,3,none⟩=some (.string t):=(hb1.cell (p:=⟨w.heap.size,3,none⟩) (by simp)).trans (by simp)
 have hlw:w.heap.size < w1.heap.size:=cell_lt c0
 have HO1:Hid (w1.ownsRow w.heap.size 5 1 v1 (V.put id).length ((V.put id).map (Value.int .u8))):=owns_mono (uh hown1) (by simp)
 clear hb1 hown1 hy1
 go_wp2_with fail
 refine (kind_use _ 5 (uh HK) _).mono ?_
 rintro e w' ⟨rfl,hw⟩
 obtain rfl:=hw.symm
 clear hw
 have HLE:Hid ((V.put n).length<=65537):=(by have:=V.put_len n;show List.length _<=_;omega)
 go_wp2_with fail
 refine (rput_use n _ h0 h1).mono ?_
 rintro e w2 ⟨v2,rfl,-,hy2,hb2⟩
 have HO2:Hid (w2.ownsRow w.heap.size 5 1 v1 (V.put id).length ((V.put id).map (Value.int .u8))):=owns_below (uh HO1) hb2
 have HB2:Hid (Below w.heap.size w w2):=(uh HB1).trans (hb2.mono (uh HB1).size)
 clear hb2 HB1 HO1 c0 c1 c2 c3
 go_wp2_with (first
  | (at_builtin;refine wpList_append_byt _ rfl _ _ rfl w.heap.size _ (V.put id).length (V.put id) rfl (uh HO2) v2 (V.put n) rfl (uh hy2) (by have:=uh HL;have:=uh HLE;omega) (uh HB2).size ?_)
  | go_in)
 intro v3 w3 hown3 hgrow3
 have hb3:Below w.heap.size w w3:=(uh HB2).grown hgrow3 (uh HB2).size (fun k hk=>((uh HO2).lt k hk).1)
 have HY3:Hid (Byt w3 v3 (V.put id++(V.put n))):=byt_of_owns (by rw[List.map_append];exact hown3) (range_app (uh HR) (uh hy2).range)
 clear hown3 hgrow3
 go_wp2
 go_ret
 exact⟨_,rfl,HY3,hb3⟩
theorem rpp_6 (id n:Int) (s t:ByteArray) (w:World) (hi:1<=id/\id<=42) (hk:kd id=6) (hs:s.size<=65535):Calls Tryz.prog 127 #[.agg #[.int .i64 id,.int .i64 n,.string s,.string t]] w (PutP (V.put id++(tx s)) w):=by
 have HK:=zh hk
 clear hk
 have HL:=zh (V.put_len id)
 go_enter Tryz.func127,Tryz.ntmps127
 go_wp2_with fail
 refine (rput_use id _ (by omega) (by omega)).mono ?_
 rintro e w1 ⟨v1,rfl,hown1,hy1,hb1⟩
 have HR:=zh (uh hy1).range
 have HB1:=bal1 hb1
 have c0:w1.cell? ⟨w.heap.size,0,none⟩=some (.int .i64 id):=(hb1.cell (p:=⟨w.heap.size,0,none⟩) (by simp)).trans (by simp)
 have c1:w1.cell? ⟨w.heap.size,1,none⟩=some (.int .i64 n):=(hb1.cell (p:=⟨w.heap.size,1,none⟩) (by simp)).trans (by simp)
 have c2:w1.cell? ⟨w.heap.size,2,none⟩=some (.string s):=(hb1.cell (p:=⟨w.heap.size,2,none⟩) (by simp)).trans (by simp)
 have c3:w1.cell? ⟨w.heap.size,3,none⟩=some (.string t):=(hb1.cell (p:=⟨w.heap.size,3,none⟩) (by simp)).trans (by simp)
 have hlw:w.heap.size < w1.heap.size:=cell_lt c0
 have HO1:Hid (w1.ownsRow w.heap.size 5 1 v1 (V.put id).length ((V.put id).map (Value.int .u8))):=owns_mono (uh hown1) (by simp)
 clear hb1 hown1 hy1
 go_wp2_with fail
 refine (kind_use _ 6 (uh HK) _).mono ?_
 rintro e w' ⟨rfl,hw⟩
 obtain rfl:=hw.symm
 clear hw
 have HLE:Hid (((tx s)).length<=65537):=(tx_len_le s hs)
 go_wp2_with fail
 refine (bin_use s _ hs).mono ?_
 rintro e w2 ⟨v2,rfl,hy2,hb2⟩
 have HO2:Hid (w2.ownsRow w.heap.size 5 1 v1 (V.put id).length ((V.put id).map (Value.int .u8))):=owns_below (uh HO1) hb2
 have HB2:Hid (Below w.heap.size w w2):=(uh HB1).trans (hb2.mono (uh HB1).size)
 clear hb2 HB1 HO1 c0 c1 c2 c3
 go_wp2_with (first
  | (at_builtin;refine wpList_append_byt _ rfl _ _ rfl w.heap.size _ (V.put id).length (V.put id) rfl (uh HO2) v2 (tx s) rfl (uh hy2) (by have:=uh HL;have:=uh HLE;omega) (uh HB2).size ?_)
  | go_in)
 intro v3 w3 hown3 hgrow3
 have hb3:Below w.heap.size w w3:=(uh HB2).grown hgrow3 (uh HB2).size (fun k hk=>((uh HO2).lt k hk).1)
 have HY3:Hid (Byt w3 v3 (V.put id++(tx s))):=byt_of_owns (by rw[List.map_append];exact hown3) (range_app (uh HR) (uh hy2).range)
 clear hown3 hgrow3
 go_wp2
 go_ret
 exact⟨_,rfl,HY3,hb3⟩
theorem rpp_7 (id n:Int) (s t:ByteArray) (w:World) (hi:1<=id/\id<=42) (hk:kd id=7) (hs:s.size<=65535):Calls Tryz.prog 127 #[.agg #[.int .i64 id,.int .i64 n,.string s,.string t]] w (PutP (V.put id++(tx s)) w):=by
 have HK:=zh hk
 clear hk
 have HL:=zh (V.put_len id)
 go_enter Tryz.func127,Tryz.ntmps127
 go_wp2_with fail
 refine (rput_use id _ (by omega) (by omega)).mono ?_
 rintro e w1 ⟨v1,rfl,hown1,hy1,hb1⟩
 have HR:=zh (uh hy1).range
 have HB1:=bal1 hb1
 have c0:w1.cell? ⟨w.heap.size,0,none⟩=some (.int .i64 id):=(hb1.cell (p:=⟨w.heap.size,0,none⟩) (by simp)).trans (by simp)
 have c1:w1.cell? ⟨w.heap.size,1,none⟩=some (.int .i64 n):=(hb1.cell (p:=⟨w.heap.size,1,none⟩) (by simp)).trans (by simp)
 have c2:w1.cell? ⟨w.heap.size,2,none⟩=some (.string s):=(hb1.cell (p:=⟨w.heap.size,2,none⟩) (by simp)).trans (by simp)
 have c3:w1.cell? ⟨w.heap.size,3,none⟩=some (.string t):=(hb1.cell (p:=⟨w.heap.size,3,none⟩) (by simp)).trans (by simp)
 have hlw:w.heap.size < w1.heap.size:=cell_lt c0
 have HO1:Hid (w1.ownsRow w.heap.size 5 1 v1 (V.put id).length ((V.put id).map (Value.int .u8))):=owns_mono (uh hown1) (by simp)
 clear hb1 hown1 hy1
 go_wp2_with fail
 refine (kind_use _ 7 (uh HK) _).mono ?_
 rintro e w' ⟨rfl,hw⟩
 obtain rfl:=hw.symm
 clear hw
 have HLE:Hid (((tx s)).length<=65537):=(tx_len_le s hs)
 go_wp2_with fail
 refine (bin_use s _ hs).mono ?_
 rintro e w2 ⟨v2,rfl,hy2,hb2⟩
 have HO2:Hid (w2.ownsRow w.heap.size 5 1 v1 (V.put id).length ((V.put id).map (Value.int .u8))):=owns_below (uh HO1) hb2
 have HB2:Hid (Below w.heap.size w w2):=(uh HB1).trans (hb2.mono (uh HB1).size)
 clear hb2 HB1 HO1 c0 c1 c2 c3
 go_wp2_with (first
  | (at_builtin;refine wpList_append_byt _ rfl _ _ rfl w.heap.size _ (V.put id).length (V.put id) rfl (uh HO2) v2 (tx s) rfl (uh hy2) (by have:=uh HL;have:=uh HLE;omega) (uh HB2).size ?_)
  | go_in)
 intro v3 w3 hown3 hgrow3
 have hb3:Below w.heap.size w w3:=(uh HB2).grown hgrow3 (uh HB2).size (fun k hk=>((uh HO2).lt k hk).1)
 have HY3:Hid (Byt w3 v3 (V.put id++(tx s))):=byt_of_owns (by rw[List.map_append];exact hown3) (range_app (uh HR) (uh hy2).range)
 clear hown3 hgrow3
 go_wp2
 go_ret
 exact⟨_,rfl,HY3,hb3⟩
theorem rpp_1 (id n:Int) (s t:ByteArray) (w:World) (hi:1<=id/\id<=42) (hk:kd id=1) (h0:0<=n) (h1:n<=1):Calls Tryz.prog 127 #[.agg #[.int .i64 id,.int .i64 n,.string s,.string t]] w (PutP (V.put id++[n]) w):=by
 have HK:=zh hk
 clear hk
 have HL:=zh (V.put_len id)
 go_enter Tryz.func127,Tryz.ntmps127
 go_wp2_with fail
 refine (rput_use id _ (by omega) (by omega)).mono ?_
 rintro e w1 ⟨v1,rfl,hown1,hy1,hb1⟩
 have HR:=zh (uh hy1).range
 have HB1:=bal1 hb1
 have c0:w1.cell? ⟨w.heap.size,0,none⟩=some (.int .i64 id):=(hb1.cell (p:=⟨w.heap.size,0,none⟩) (by simp)).trans (by simp)
 have c1:w1.cell? ⟨w.heap.size,1,none⟩=some (.int .i64 n):=(hb1.cell (p:=⟨w.heap.size,1,none⟩) (by simp)).trans (by simp)
 have c2:w1.cell? ⟨w.heap.size,2,none⟩=some (.string s):=(hb1.cell (p:=⟨w.heap.size,2,none⟩) (by simp)).trans (by simp)
 have c3:w1.cell? ⟨w.heap.size,3,none⟩=some (.string t):=(hb1.cell (p:=⟨w.heap.size,3,none⟩) (by simp)).trans (by simp)
 have hlw:w.heap.size < w1.heap.size:=cell_lt c0
 have HO1:Hid (w1.ownsRow w.heap.size 5 1 v1 (V.put id).length ((V.put id).map (Value.int .u8))):=owns_mono (uh hown1) (by simp)
 clear hb1 hown1 hy1
 go_wp2_with fail
 refine (kind_use _ 1 (uh HK) _).mono ?_
 rintro e w' ⟨rfl,hw⟩
 obtain rfl:=hw.symm
 clear hw
 obtain⟨i0,hi0,hz0,hz1,hz2⟩:=info_parts Tryz.infoU8
 go_wp2_with (first
  | (at_builtin;refine wpList_append_own _ rfl _ _ 33 rfl w.heap.size 5 i0 (.int .u8 0) 1 1 Tryz.underlying33 hi0 hz0 hz1 hz2 rfl (by decide) _ _ _ rfl ((uh HO1).alloc _) ⟨w1.heap.size,0,none⟩ 1 1 [.int .u8 n] rfl rfl (one_cell _ _ _) (one_one _ _) (by have:=uh HL;unfold maxLen;omega) (by have:=uh HL;omega) (by have:=(uh HB1).size;simp <;> omega) ?_)
  | go_in)
 intro v3 w3 hown3 hgrow3 _
 have hb3:Below w.heap.size w w3:=((uh HB1).alloc (uh HB1).size _).grown hgrow3 (by have:=(uh HB1).size;simp <;> omega) (fun k hk=>((uh HO1).lt k hk).1)
 have HY3:Hid (Byt w3 v3 (V.put id++[n])):=byt_of_owns (by rw[List.map_append];exact hown3) (range_app (uh HR) (fun j=>by rcases j with _ | j <;> simp <;> omega))
 clear hown3 hgrow3
 go_wp2
 go_ret
 exact⟨_,rfl,HY3,hb3⟩
theorem own_ne {w:World} {B e:Nat} {q:Nat} {v:Value} {n:Nat} {xs:List Value} (h:w.ownsRow (B+1) e q v n xs) {i:Nat}:some (⟨B,i,none⟩:Addr).block≠v.ownBlock:=fun he=>by
 have:=(h.lt B he.symm).1
 omega
theorem rpp_8 (id n:Int) (s t:ByteArray) (w:World) (hi:1<=id/\id<=42) (hk:kd id=8) (hs:s.size<=65535) (ht:t.size<=65535):Calls Tryz.prog 127 #[.agg #[.int .i64 id,.int .i64 n,.string s,.string t]] w (PutP (V.put id++(tx s++tx t)) w):=by
 have HK:=zh hk
 clear hk
 have HL:=zh (V.put_len id)
 go_enter Tryz.func127,Tryz.ntmps127
 go_wp2_with fail
 refine (rput_use id _ (by omega) (by omega)).mono ?_
 rintro e w1 ⟨v1,rfl,hown1,hy1,hb1⟩
 have HR:=zh (uh hy1).range
 have HB1:=bal1 hb1
 have c0:w1.cell? ⟨w.heap.size,0,none⟩=some (.int .i64 id):=(hb1.cell (p:=⟨w.heap.size,0,none⟩) (by simp)).trans (by simp)
 have c1:w1.cell? ⟨w.heap.size,1,none⟩=some (.int .i64 n):=(hb1.cell (p:=⟨w.heap.size,1,none⟩) (by simp)).trans (by simp)
 have c2:w1.cell? ⟨w.heap.size,2,none⟩=some (.string s):=(hb1.cell (p:=⟨w.heap.size,2,none⟩) (by simp)).trans (by simp)
 have c3:w1.cell? ⟨w.heap.size,3,none⟩=some (.string t):=(hb1.cell (p:=⟨w.heap.size,3,none⟩) (by simp)).trans (by simp)
 have hlw:w.heap.size < w1.heap.size:=cell_lt c0
 have HO1:Hid (w1.ownsRow (w.heap.size+1) 5 1 v1 (V.put id).length ((V.put id).map (Value.int .u8))):=owns_mono (uh hown1) (by simp)
 clear hb1 hown1 hy1
 go_wp2_with fail
 refine (kind_use _ 8 (uh HK) _).mono ?_
 rintro e w' ⟨rfl,hw⟩
 obtain rfl:=hw.symm
 clear hw
 have HC:Hid (∀ W,Below w1.heap.size w1 W->W.cell? ⟨w.heap.size,2,none⟩=some (.string s)/\W.cell? ⟨w.heap.size,3,none⟩=some (.string t)):=fun W h=>⟨(h.cell (p:=⟨w.heap.size,2,none⟩) hlw).trans c2,(h.cell (p:=⟨w.heap.size,3,none⟩) hlw).trans c3⟩
 go_wp2_with fail
 refine wp_region_noPanic ?_
 refine wp_region_held_drew (S:=(fun w'=>w'.cell? ⟨w.heap.size,2,none⟩=some (.string s)/\w'.cell? ⟨w.heap.size,3,none⟩=some (.string t))) (by kernel_rfl) ((uh HC) _ (below_drewN (Below.refl _ _) 1)) (fun hHeld=>?_)
 refine rtk 0 (h:=?_)
 refine rtk 1 (h:=?_)
 refine rtk 2 (h:=?_)
 refine rtk 5 (h:=?_)
 refine rtk 6 (h:=?_)
 refine rcl 3 (h:=fun K hK=>?_)
 go_simp
 refine (bin_use s _ hs).mono ?_
 rintro e w2 ⟨v2,rfl,hy2,hb2⟩
 have HB2:Hid (Below w1.heap.size w1 w2):=below_undrew1 hb2
 have HO2:Hid (w2.ownsRow (w.heap.size+1) 5 1 v1 (V.put id).length ((V.put id).map (Value.int .u8))):=owns_below (uh HO1) (uh HB2)
 clear hb2
 go_wp2_with fail
 refine hK.out _ _ ((uh HC) _ (uh HB2)) (fun hHeld=>?_)
 clear hK K
 refine wpAnyH_ready (rs:=[4]) (by kernel_rfl) (by simp) ?_
 refine AllReadyH.cons (o:={ dst:=some 45,op:=Op.call { callee:=Callee.builtin Builtin.append,args:=#[Operand.tmp 41,Operand.tmp 44],argTypes:=#[33,33] },type:=33,pos := "dovecoteref3.go:149",after:=#[{ on:=0,ground:=Ground.data },{ on:=3,ground:=Ground.data },{ on:=3,ground:=Ground.chain }],guard:=none }) rfl (fun K hK=>?_) AllReadyH.nil
 refine step_append_byt rfl _ _ rfl (w.heap.size+1) v1 (V.put id).length (V.put id) rfl (uh HO2) v2 (tx s) rfl (uh hy2) (by have:=uh HL;rw[tx_length];omega) (by have:=(uh HB2).size;omega) ?_
 intro v3 w3 hown3 hgrow3
 have HB3:Hid (Below w.heap.size w w3):=((uh HB1).trans ((uh HB2).mono (uh HB1).size)).grown hgrow3 (by have:=(uh HB2).size;omega) (fun g hg=>(by have:=((uh HO2).lt g hg).1;omega))
 have HN3:Hid (w3.cell? ⟨w.heap.size,2,none⟩=some (.string s)/\w3.cell? ⟨w.heap.size,3,none⟩=some (.string t)):=by
  have hc:=(uh HC) w2 (uh HB2)
  exact⟨hgrow3.cell hc.1 (own_ne (uh HO2)),hgrow3.cell hc.2 (own_ne (uh HO2))⟩
 have HO3:=zh hown3
 clear hown3 hgrow3
 refine hK.out _ _ (by exact uh HN3) (fun hHeld=>?_)
 clear hK K
 simp only[Act.put,List.setIfInBounds_toArray,List.set_cons_zero,List.set_cons_succ]
 refine rcl 7 (h:=fun K hK=>?_)
 go_simp
 refine (bin_use t _ ht).mono ?_
 rintro e w4 ⟨v4,rfl,hy4,hb4⟩
 have HB4:Hid (Below w.heap.size w w4):=(uh HB3).trans (hb4.mono (uh HB3).size)
 have HO4:=zh (owns_below (uh HO3) hb4)
 have HN4:Hid (w4.cell? ⟨w.heap.size,2,none⟩=some (.string s)/\w4.cell? ⟨w.heap.size,3,none⟩=some (.string t)):=⟨(hb4.cell (cell_lt (uh HN3).1)).trans (uh HN3).1,(hb4.cell (cell_lt (uh HN3).2)).trans (uh HN3).2⟩
 clear hb4
 go_wp2_with fail
 refine hK.out _ _ (by exact uh HN4) (fun hHeld=>?_)
 clear hK K
 refine wpAnyH_ready (rs:=[8]) (by kernel_rfl) (by simp) ?_
 refine AllReadyH.cons (o:={ dst:=some 49,op:=Op.call { callee:=Callee.builtin Builtin.append,args:=#[Operand.tmp 45,Operand.tmp 48],argTypes:=#[33,33] },type:=33,pos := "dovecoteref3.go:149",after:=#[{ on:=4,ground:=Ground.data },{ on:=7,ground:=Ground.data },{ on:=7,ground:=Ground.chain }],guard:=none }) rfl (fun K hK=>?_) AllReadyH.nil
 refine step_append_byt rfl _ _ rfl (w.heap.size+1) v3 _ (V.put id++tx s) rfl (uh HO4) v4 (tx t) rfl (uh hy4) (by have:=uh HL;rw[tx_length,tx_length];omega) (by have:=cell_lt (uh HN4).1;simp at this;omega) ?_
 intro v5 w5 hown5 hgrow5
 have HB5:Hid (Below w.heap.size w w5):=(uh HB4).grown hgrow5 (uh HB4).size (fun g hg=>(by have:=((uh HO4).lt g hg).1;omega))
 have HN5:Hid (w5.cell? ⟨w.heap.size,2,none⟩=some (.string s)/\w5.cell? ⟨w.heap.size,3,none⟩=some (.string t)):=⟨hgrow5.cell (uh HN4).1 (own_ne (uh HO4)),hgrow5.cell (uh HN4).2 (own_ne (uh HO4))⟩
 have HY5:Hid (Byt w5 v5 (V.put id++(tx s++tx t))):=by
  rw[<- List.append_assoc]
  exact byt_of_owns hown5 (range_app (range_app (uh HR) (tx_range s hs)) (tx_range t ht))
 clear hown5 hgrow5
 refine hK.out _ _ (by exact uh HN5) (fun hHeld=>?_)
 clear hK K
 simp only[Act.put,List.setIfInBounds_toArray,List.set_cons_zero,List.set_cons_succ]
 refine rtk 9 (h:=?_)
 refine wpAnyH_done (by kernel_rfl) ?_ _
 refine NoPanic.normal ?_
 go_wp2
 go_ret
 exact⟨_,rfl,HY5,uh HB5⟩
theorem rput3 (id n:Int) (s t:ByteArray) (w:World) (hi:1<=id/\id<=42) (hm:may (id,n,s,t)=true):Calls Tryz.prog 127 #[.agg #[.int .i64 id,.int .i64 n,.string s,.string t]] w (PutP (pb (id,n,s,t)) w):=by
 have hpb:pb (id,n,s,t)=V.put id++pvb (id,n,s,t):=rfl
 rw[hpb]
 unfold may at hm
 rw[Bool.and_eq_true]at hm
 obtain⟨hf,ht⟩:=hm
 obtain⟨h0,h1,h2⟩:=fit_num hf
 have hx:mx id=(if kd id=1 then 1 else if kd id=2 then 65535 else if kd id=4 then 4294967295 else if kd id=5 then 268435455 else 0):=rfl
 rcases kd_cases id with h | h | h | h | h | h | h | h
 ·unfold txo at ht;simp[h]at ht
 ·rw[show pvb (id,n,s,t)=[n] from by unfold pvb;simp[h]]
  rw[if_pos h]at hx
  exact rpp_1 id n s t w hi h h0 (by omega)
 ·rw[pvb_num id n s t 2 h (by omega)]
  rw[if_neg (by omega),if_pos h]at hx
  exact rpp_2 id n s t w hi h h0 (by omega)
 ·rw[pvb_num id n s t 4 h (by omega)]
  rw[if_neg (by omega),if_neg (by omega),if_pos h]at hx
  exact rpp_4 id n s t w hi h h0 (by omega)
 ·rw[show pvb (id,n,s,t)=V.put n from by unfold pvb;simp[h]]
  rw[if_neg (by omega),if_neg (by omega),if_neg (by omega),if_pos h]at hx
  exact rpp_5 id n s t w hi h h0 (by omega)
 ·rw[show pvb (id,n,s,t)=tx s from by unfold pvb;simp[h]]
  have hc:chk (sb s)=0:=by unfold txo at ht;simpa [h] using ht
  exact rpp_6 id n s t w hi h (by have:=chk_0 hc;rw[sb_length]at this;exact this)
 ·rw[show pvb (id,n,s,t)=tx s from by unfold pvb;simp[h]]
  exact rpp_7 id n s t w hi h (by unfold txo at ht;simpa [h] using ht)
 ·rw[show pvb (id,n,s,t)=tx s++tx t from by unfold pvb;simp[h]]
  have hc:chk (sb s)=0/\chk (sb t)=0:=by unfold txo at ht;simpa [h] using ht
  exact rpp_8 id n s t w hi h (by have:=chk_0 hc.1;rw[sb_length]at this;exact this) (by have:=chk_0 hc.2;rw[sb_length]at this;exact this)
theorem rbytes_core (b off cap:Nat) (l:List Pr) (len:Nat) (place:Int) (w:World) (hlen:l.length=len) (h200:len<=200) (hok:okTo place l len) (hl:PrAt w b off l) :
  Calls Tryz.prog 83 #[.slice (some ⟨b,off,none⟩) len cap] w (PutP (pbs l) w):=by
 have HL:=zh hl
 have HLEN:=zh hlen
 have HOK:=zh hok
 clear hl hlen hok
 go_enter Tryz.func83,Tryz.ntmps83
 go_wp2
 go_loopw [3,4] (fun v i wr=>∃ k S:Nat,k<=len/\i=.int .i64 k/\S<=k * 131078/\Hid ((body (l.take k)).length=S)/\Hid (wr.ownsRow w.heap.size 5 1 v S ((body (l.take k)).map (Value.int .u8)))/\Hid (∀ j,0<=(body (l.take k)).getD j 0/\(body (l.take k)).getD j 0<=255)/\Below w.heap.size w wr) (fun _ i _=>len - (intOf i).toNat)
 case atStart=>exact⟨0,0,Nat.zero_le _,rfl,by omega,by simp[body];trivial,World.ownsRow_nil _ _ _ _,fun j=>by simp[body],Below.refl _ _⟩
 case round =>
  obtain⟨k,S,hk,rfl,hS,HS,HOWN,HRG,hbel⟩:=hrel
  by_cases hlt:k < len
  ·have HLTk:Hid (k < l.length):=by show _ < _;rw[uh HLEN];exact hlt
   obtain⟨h0,h1,h2,h3⟩:=((uh HL).below hbel) k (uh HLTk)
   have hmm:=okAt_may ((uh HOK) k hlt)
   have HPB:=zh (body_take l k (uh HLTk))
   obtain⟨id,n,s,t,hp⟩:∃ id n s t,at0 l k=(id,n,s,t):=⟨_,_,_,_,rfl⟩
   rw[hp]at h0 h1 h2 h3 HPB hmm
   simp only at h0 h1 h2 h3 hmm
   have hpl:=pb_le _ hmm.1
   have HV:=zh (fun W=>rput3 id n s t W (id_range _ _ hmm.2) hmm.1)
   have HBEL:=zh hbel
   have hsz:=hbel.size
   clear hp hbel hmm
   generalize pb (id,n,s,t)=L at HV hpl HPB
   go_wp2_with fail
   refine ((uh HV) _).mono ?_
   rintro e w2 ⟨v2,rfl,hy2,hb2⟩
   have HO2:Hid (w2.ownsRow w.heap.size 5 1 u3 S ((body (l.take k)).map (Value.int .u8))):=owns_below (uh HOWN) hb2
   have HB2:Hid (Below w.heap.size w w2):=(uh HBEL).trans (hb2.mono hsz)
   clear hb2 HBEL HOWN h0 h1 h2 h3 HV
   go_wp2_with (first
    | (at_builtin;refine wpList_append_byt _ rfl _ _ rfl w.heap.size _ S (body (l.take k)) rfl (uh HO2) v2 L rfl (uh hy2) (by omega) (uh HB2).size ?_)
    | go_in)
   intro v4 w4 hown4 hgrow4
   have HB4:Hid (Below w.heap.size w w4):=(uh HB2).grown hgrow4 (uh HB2).size (fun g hg=>((uh HO2).lt g hg).1)
   have HS4:Hid ((body (l.take (k+1))).length=S+L.length):=by show _=_;rw[uh HPB,List.length_append,uh HS]
   have HOWN4:Hid (w4.ownsRow w.heap.size 5 1 v4 (S+L.length) ((body (l.take (k+1))).map (Value.int .u8))):=by
    show World.ownsRow _ _ _ _ _ _ _
    rw[uh HPB,List.map_append]
    exact hown4
   have HRG4:Hid (∀ j,0<=(body (l.take (k+1))).getD j 0/\(body (l.take (k+1))).getD j 0<=255):=by
    show ∀ j,_
    rw[uh HPB]
    exact range_app (uh HRG) (uh hy2).range
   clear hown4 hgrow4
   go_wp2
   go_roundw
   case rel=>exact⟨k+1,S+L.length,by omega,by go_num,by omega,HS4,HOWN4,HRG4,uh HB4⟩
   case measure=>simp[intOf];omega
  ·obtain rfl:k=len:=by omega
   have HT:Hid (l.take k=l):=List.take_of_length_le (Nat.le_of_eq (uh HLEN))
   rw[uh HT]at HS HOWN HRG
   have HZ:Hid (pbs l=V.put S++body l):=by show pbs l=_;unfold pbs;rw[uh HS]
   have HPL:=zh (V.put_len S)
   have HBEL:=zh hbel
   have HOF:=zh (uh HOWN)
   obtain⟨ao,vc,hv⟩:∃ ao vc,u3=.slice ao S vc:=by
    have hb:=byt_of_owns (uh HOWN) (uh HRG)
    obtain⟨ao,vc,h,_⟩:=hb.form
    rw[uh HS]at h
    exact⟨ao,vc,h⟩
   subst hv
   clear hbel
   go_wp2_with fail
   refine (rput_use S _ (by omega) (by omega)).mono ?_
   rintro e w2 ⟨v2,rfl,hown2,hy2,hb2⟩
   have HB2:Hid (Below w.heap.size w w2):=(uh HBEL).trans (hb2.mono (uh HBEL).size)
   have HO2:Hid (w2.ownsRow w.heap.size 5 1 v2 (V.put S).length ((V.put S).map (Value.int .u8))):=owns_mono (uh hown2) (uh HBEL).size
   have HYB:Hid (Byt w2 (.slice ao S vc) (body l)):=(byt_of_owns (uh HOWN) (uh HRG)).below hb2
   clear hb2 hown2
   go_wp2_with (first
    | (at_builtin;refine wpList_append_byt _ rfl _ _ rfl w.heap.size _ (V.put S).length (V.put S) rfl (uh HO2) (.slice ao S vc) (body l) rfl (uh HYB) (by have:=uh HPL;have:=uh HS;omega) (uh HB2).size ?_)
    | go_in)
   intro v4 w4 hown4 hgrow4
   have HB4:Hid (Below w.heap.size w w4):=(uh HB2).grown hgrow4 (uh HB2).size (fun g hg=>((uh HO2).lt g hg).1)
   have HY4:Hid (Byt w4 v4 (pbs l)):=by
    show Byt _ _ _
    rw[uh HZ]
    exact byt_of_owns (by rw[List.map_append];exact hown4) (range_app (uh hy2).range (uh HRG))
   clear hown4 hgrow4
   go_wp2
   go_ret
   exact⟨_,rfl,HY4,uh HB4⟩
theorem put_zero:V.put 0=[0]:=rfl
theorem rbytes_nil (ao:Option Addr) (cap:Nat) (w:World):Calls Tryz.prog 83 #[.slice ao 0 cap] w (PutP (pbs []) w):=by
 have HZ:Hid (pbs []=[0]):=rfl
 go_enter Tryz.func83,Tryz.ntmps83
 go_wp2
 refine wp_loop_rounds 1 ?_
 rw[rounds_succ]
 go_wp2_with fail
 refine (rput_use 0 _ (by omega) (by omega)).mono ?_
 rintro e w2 ⟨v2,rfl,hown2,hy2,hb2⟩
 have HB2:=zh hb2
 have HE:Hid (Byt w2 (.slice none 0 0) []):=⟨none,0,rfl,⟨Nat.le_refl _,by unfold maxLen;omega⟩,fun j=>by simp,.inl rfl⟩
 clear hb2
 go_wp2_with (first
  | (at_builtin;refine wpList_append_byt _ rfl _ _ rfl w.heap.size _ (V.put 0).length (V.put 0) rfl (uh hown2) (.slice none 0 0) [] rfl (uh HE) (by simp[put_zero]) (uh HB2).size ?_)
  | go_in)
 intro v4 w4 hown4 hgrow4
 have HB4:Hid (Below w.heap.size w w4):=(uh HB2).grown hgrow4 (uh HB2).size (fun g hg=>((uh hown2).lt g hg).1)
 have HY4:Hid (Byt w4 v4 (pbs [])):=by
  show Byt _ _ _
  rw[uh HZ]
  exact byt_of_owns (by simpa [put_zero] using hown4) (fun j=>by rcases j with _ | j <;> simp)
 clear hown4 hgrow4
 go_wp2
 go_ret
 exact⟨_,rfl,HY4,uh HB4⟩
theorem rbytes_any (v:Value) (l:List Pr) (place:Int) (w:World) (h:Prp w v l) (h200:l.length<=200) (hok:okTo place l l.length):Calls Tryz.prog 83 #[v] w (PutP (pbs l) w):=by
 obtain⟨ao,cap,rfl,hc⟩:=h
 rcases hc with rfl | ⟨b,off,rfl,hc⟩
 ·exact rbytes_nil ao cap w
 ·exact rbytes_core b off cap l _ place w rfl h200 hok hc
end Go.Proofs.YtdkmmmjjdlnnoaaGreatDoor
namespace Go.Proofs.YtdkmmmjjdlnnoaaGreatDoor.K
open Go.RowKit
set_option maxRecDepth 100000
theorem gflag_any (b:Bool) (n:Int) (w:World):Calls Tryz.prog 82 #[.bool b,.int .i64 n] w fun e w'=>e=.returned (.int .i64 (fv b n))/\w'=w:=by
 unfold fv
 cases b
 ·go_enter Tryz.func82,Tryz.ntmps82
  go_wp2
  go_ret
  exact⟨rfl,rfl⟩
 ·go_enter Tryz.func82,Tryz.ntmps82
  go_wp2
  go_ret
  exact⟨rfl,rfl⟩
def Rwb (w:World) (B:Nat) (v:Value) (l:List Int):Prop:=w.ownsRow B 5 1 v l.length (l.map (Value.int .u8))/\∀ j,0<=l.getD j 0/\l.getD j 0<=255
theorem Rwb.byt {w:World} {B:Nat} {v:Value} {l:List Int} (h:Rwb w B v l):Byt w v l:=byt_of_owns h.1 h.2
theorem Rwb.below {w w':World} {B:Nat} {v:Value} {l:List Int} (h:Rwb w B v l) (hb:Below w.heap.size w w'):Rwb w' B v l:=⟨owns_below h.1 hb,h.2⟩
theorem Rwb.mono {w:World} {B B':Nat} {v:Value} {l:List Int} (h:Rwb w B v l) (hB:B'<=B):Rwb w B' v l:=⟨owns_mono h.1 hB,h.2⟩
theorem Rwb.form {w:World} {B:Nat} {v:Value} {l:List Int} (h:Rwb w B v l):∃ a n c,v=.slice a n c:=by
 rcases h.1.2 with⟨rfl,_⟩ | ⟨g,cap,cur,rfl,_⟩
 ·exact⟨_,_,_,rfl⟩
 ·exact⟨_,_,_,rfl⟩
theorem rwb_new (w:World) (l:List Int) (hl:1<=l.length) (hm:l.length<=100) (hr:∀ j,0<=l.getD j 0/\l.getD j 0<=255):Rwb (w.alloc (.cells (l.map (Value.int .u8)).toArray 5)) w.heap.size (.slice (some ⟨w.heap.size,0,none⟩) l.length l.length) l :=
 ⟨⟨by simp,.inr ⟨w.heap.size,l.length,_,rfl,Nat.le_refl _,heap_alloc_new _ _,Nat.le_refl _,by unfold maxLen;omega,by simp,by rw[List.toList_toArray,Nat.mul_one];exact List.take_of_length_le (by simp)⟩⟩,hr⟩
def gtl (code:Int) (l:List Pr):List Int:=if 0 < l.length then [code % 256]++pbs l else if code=0 then [] else [code % 256]
def GPut (l:List Int) (w:World) (e:Ending) (w':World):Prop:=∃ v,e=.returned v/\Hid (Rwb w' w.heap.size v l)/\Below w.heap.size w w'
theorem Rwb.nil (w:World) (B:Nat):Rwb w B (.slice none 0 0) []:=⟨World.ownsRow_nil _ _ _ _,fun j=>by simp⟩
theorem bnx2 {B:Nat} {w a b:World} (h:Below B w a) (h2:Below a.heap.size a b) (hB:B<=a.heap.size:=by first | exact Nat.le_refl _ | (exact (Below.size ‹_›)) | omega):Below B w b:=h.trans (h2.mono hB)
theorem gtail_any (q:Pkv) (l:List Pr) (place:Int) (w:World) (hP:Prp w q.props.val l) (hok:okP place l=true):Calls Tryz.prog 86 #[q.val] w (GPut (gtl q.code l) w):=by
 obtain⟨hok1,h32⟩:=chkP0 (of_decide_eq_true hok)
 have hple:=pbs_le (of_decide_eq_true hok)
 have HPN:=zh (pk_new w q)
 have HB0:Hid (Below w.heap.size w (w.alloc (.cells q.cells.toArray 31))):=bal _ _
 have HBY:Hid (∀ W,Below w.heap.size w W->Calls Tryz.prog 83 #[.slice q.props.ao l.length q.props.cap] W (PutP (pbs l) W)):=fun W hW=>by
  have k:=rbytes_any q.props.val l place W (hP.below hW) (by omega) hok1
  rw[show q.props.val=.slice q.props.ao q.props.n q.props.cap from rfl,prp_n hP]at k
  exact k
 have HQN:=zh (prp_n hP)
 clear hP hok hok1
 go_enter Tryz.func86,Tryz.ntmps86
 go_upto_region 1 with fail
 change Code.wp _ _ _ _ (w.alloc (.cells q.cells.toArray 31))
 have hsz:(w.alloc (.cells q.cells.toArray 31)).heap.size=w.heap.size+1:=by simp
 generalize w.alloc (.cells q.cells.toArray 31)=wa at HPN HB0 hsz |-
 have b7:=(uh HPN).props
 rw[show q.props.val=.slice q.props.ao q.props.n q.props.cap from rfl,uh HQN]at b7
 have b14:=(uh HPN).code
 by_cases hl:0 < l.length
 ·have HE:Hid (gtl q.code l=[q.code % 256]++pbs l):=by show _=_;unfold gtl;rw[if_pos hl]
  have HS:Hid (∀ W,Below wa.heap.size wa W->W.cell? ⟨w.heap.size,7,none⟩=some (.slice q.props.ao l.length q.props.cap)/\W.cell? ⟨w.heap.size,14,none⟩=some (.int .i64 q.code)):=fun W hW=>⟨(hW.cell (cell_lt b7)).trans b7,(hW.cell (cell_lt b14)).trans b14⟩
  go_wp2_with fail
  refine wp_region_noPanic ?_
  refine wp_region_held_drew (S:=(fun w'=>w'.cell? ⟨w.heap.size,7,none⟩=some (.slice q.props.ao l.length q.props.cap)/\w'.cell? ⟨w.heap.size,14,none⟩=some (.int .i64 q.code))) (by kernel_rfl) ((uh HS) _ (below_drewN (Below.refl _ _) 1)) (fun hHeld=>?_)
  have HBd:Hid (Below wa.heap.size wa wa.drew):=below_drewN (Below.refl _ _) 1
  have hszd:wa.drew.heap.size=w.heap.size+1:=hsz
  generalize wa.drew=wd at HBd hHeld hszd |-
  have hz:IntKind.u8.wrap q.code=q.code % 256:=by rfl
  have HRNG:∀ j,0<=([q.code % 256]:List Int).getD j 0/\([q.code % 256]:List Int).getD j 0<=255:=rng1 (by omega)
  generalize q.code % 256=z at hz HE HRNG
  clear b7 b14
  refine rtk 0 (h:=?_)
  refine rtk 1 (h:=?_)
  refine rtk 2 (h:=?_)
  refine rtk 4 (h:=?_)
  refine rtk 5 (h:=?_)
  refine wpAnyH_ready (rs:=[3,6]) (by kernel_rfl) (by simp) ?_
  refine rac (h:=fun K hK=>?_) (hs:=rac (h:=fun K hK=>?_) (hs:=AllReadyH.nil))
  ·go_simp
   have HBx:Hid (Below wa.heap.size wa (wd.alloc (.cells #[.int .u8 z] 5))):=(uh HBd).alloc (uh HBd).size _
   have HRx:Hid (Rwb (wd.alloc (.cells #[.int .u8 z] 5)) (w.heap.size+1) (.slice (some ⟨w.heap.size+1,0,none⟩) 1 1) [z]):=by
    have k:=rwb_new wd [z] (by simp) (by simp) HRNG
    rw[hszd]at k
    exact k
   refine hK.out _ _ ((uh HS) _ (uh HBx)) (fun hHeld=>?_)
   clear hK K
   generalize wd.alloc (.cells #[.int .u8 z] 5)=w1 at HBx HRx hHeld |-
   refine rcl 6 (h:=fun K hK=>?_)
   go_simp
   refine ((uh HBY) _ (bnx2 (uh HB0) (uh HBx))).mono ?_
   rintro e w2 ⟨vb,rfl,hy2,hb2⟩
   have HB2:Hid (Below wa.heap.size wa w2):=bnx2 (uh HBx) hb2
   have HR2:=zh ((uh HRx).below hb2)
   have HY2:=hy2
   clear hb2 hy2 HBx HRx
   refine hK.out _ _ ((uh HS) _ (uh HB2)) (fun hHeld=>?_)
   clear hK K
   refine rcl 7 (h:=fun K hK=>?_)
   refine step_append_byt rfl _ _ rfl (w.heap.size+1) (.slice (some ⟨w.heap.size+1,0,none⟩) 1 1) 1 [z] rfl (uh HR2).1 vb (pbs l) rfl (uh HY2) (by first | omega | (simp;omega)) (by have:=(uh HB2).size;omega) ?_
   intro v3 w3 hown3 hg3
   have HB3:Hid (Below wa.heap.size wa w3):=(uh HB2).grown hg3 (uh HB2).size (fun g hg=>by have:=owns_blk (uh HR2).1 g hg;omega)
   have HR3:Hid (Rwb w3 (w.heap.size+1) v3 ([z]++(pbs l))):=⟨by rw[List.length_append];exact hown3,range_app (uh HR2).2 (uh HY2).range⟩
   clear hown3 hg3
   refine hK.out _ _ ((uh HS) _ (uh HB3)) (fun hHeld=>?_)
   clear hK K
   simp only[Act.put,List.setIfInBounds_toArray,List.set_cons_zero,List.set_cons_succ]
   refine rtk 8 (h:=?_)
   refine wpAnyH_done (by kernel_rfl) ?_ _
   refine NoPanic.normal ?_
   go_wp2
   go_ret
   exact⟨_,rfl,by rw[uh HE];exact (uh HR3).mono (by omega),(uh HB0).trans ((uh HB3).mono (uh HB0).size)⟩
  ·go_simp
   refine ((uh HBY) _ (bnx2 (uh HB0) (uh HBd))).mono ?_
   rintro e w1 ⟨vb,rfl,hy1,hb1⟩
   have HB1:Hid (Below wa.heap.size wa w1):=bnx2 (uh HBd) hb1
   refine hK.out _ _ ((uh HS) _ (uh HB1)) (fun hHeld=>?_)
   clear hK K
   refine rcl 3 (h:=fun K hK=>?_)
   go_simp
   have HB2:Hid (Below wa.heap.size wa (w1.alloc (.cells #[.int .u8 z] 5))):=(uh HB1).alloc (uh HB1).size _
   have hz1:=(uh HB1).size
   have HR2:Hid (Rwb (w1.alloc (.cells #[.int .u8 z] 5)) (w.heap.size+1) (.slice (some ⟨w1.heap.size,0,none⟩) 1 1) [z]):=(rwb_new w1 [z] (by simp) (by simp) HRNG).mono (by omega)
   have HY2:=zh ((uh hy1).below ((Below.refl _ _).alloc (Nat.le_refl _) (.cells #[.int .u8 z] 5)))
   refine hK.out _ _ ((uh HS) _ (uh HB2)) (fun hHeld=>?_)
   clear hK K hb1 hy1
   generalize w1.alloc (.cells #[.int .u8 z] 5)=w2 at HB2 HR2 HY2 hHeld |-
   refine rcl 7 (h:=fun K hK=>?_)
   refine step_append_byt rfl _ _ rfl (w.heap.size+1) (.slice (some ⟨w1.heap.size,0,none⟩) 1 1) 1 [z] rfl (uh HR2).1 vb (pbs l) rfl (uh HY2) (by first | omega | (simp;omega)) (by have:=(uh HB2).size;omega) ?_
   intro v3 w3 hown3 hg3
   have HB3:Hid (Below wa.heap.size wa w3):=(uh HB2).grown hg3 (uh HB2).size (fun g hg=>by have:=owns_blk (uh HR2).1 g hg;omega)
   have HR3:Hid (Rwb w3 (w.heap.size+1) v3 ([z]++(pbs l))):=⟨by rw[List.length_append];exact hown3,range_app (uh HR2).2 (uh HY2).range⟩
   clear hown3 hg3
   refine hK.out _ _ ((uh HS) _ (uh HB3)) (fun hHeld=>?_)
   clear hK K
   simp only[Act.put,List.setIfInBounds_toArray,List.set_cons_zero,List.set_cons_succ]
   refine rtk 8 (h:=?_)
   refine wpAnyH_done (by kernel_rfl) ?_ _
   refine NoPanic.normal ?_
   go_wp2
   go_ret
   exact⟨_,rfl,by rw[uh HE];exact (uh HR3).mono (by omega),(uh HB0).trans ((uh HB3).mono (uh HB0).size)⟩
 ·have h0:l.length=0:=by omega
  rw[h0]at b7
  by_cases hc:q.code=0
  ·have HE:Hid (gtl q.code l=[]):=by show _=_;unfold gtl;rw[if_neg hl,if_pos hc]
   rw[hc]at b14
   clear hl hc h0
   go_wp2
   go_ret
   exact⟨_,rfl,by rw[uh HE];exact Rwb.nil _ _,uh HB0⟩
  ·have HE:Hid (gtl q.code l=[q.code % 256]):=by show _=_;unfold gtl;rw[if_neg hl,if_neg hc]
   have hcb:(q.code != 0)=true:=by simpa using hc
   have HRx:Hid (Rwb (wa.alloc (.cells #[.int .u8 (q.code % 256)] 5)) (w.heap.size+1) (.slice (some ⟨w.heap.size+1,0,none⟩) 1 1) [q.code % 256]):=by
    have k:=rwb_new wa [q.code % 256] (by simp) (by simp) (rng1 (by omega))
    rw[hsz]at k
    exact k
   have HBx:Hid (Below w.heap.size w (wa.alloc (.cells #[.int .u8 (q.code % 256)] 5))):=(uh HB0).alloc (uh HB0).size _
   clear hl hc h0
   go_wp2
   go_ret
   exact⟨_,rfl,by rw[uh HE];exact (uh HRx).mono (Nat.le_succ _),uh HBx⟩
theorem Rwb.more {w w':World} {B:Nat} {v v':Value} {l m:List Int} (h:Rwb w B v l) (hm:∀ j,0<=m.getD j 0/\m.getD j 0<=255) (ho:w'.ownsRow B 5 1 v' (l.length+m.length) (l.map (Value.int .u8)++m.map (Value.int .u8))):Rwb w' B v' (l++m):=⟨by rw[List.length_append,List.map_append];exact ho,range_app h.2 hm⟩
theorem Rwb.off {w:World} {B:Nat} {v:Value} {l:List Int} (h:Rwb w (B+1) v l):some B≠v.ownBlock:=fun e=>by have:=owns_blk h.1 B e.symm;omega
def gfl (kind:Int) (dup:Bool) (qos:Int) (retain:Bool):Int:=if kind=6\/kind=8\/kind=10 then 2 else if kind=3 then fv dup 8+2 * qos+fv retain 1 else 0
theorem bnx3 {w a b:World} (h:Below w.heap.size w a) (h2:Below a.heap.size a b):Below w.heap.size w b:=h.trans (h2.mono h.size)
theorem fv_range (b:Bool) (n:Int) (h:0<=n):0<=fv b n/\fv b n<=n:=by unfold fv;split <;> omega
theorem gflags_any (q:Pkv) (w:World) (hq:0<=q.qos/\q.qos<=2\/q.kind≠3):Calls Tryz.prog 41 #[q.val] w fun e w'=>e=.returned (.int .i64 (gfl q.kind q.dup q.qos q.retain))/\Below w.heap.size w w':=by
 have HPN:=zh (pk_new w q)
 have HB0:Hid (Below w.heap.size w (w.alloc (.cells q.cells.toArray 31))):=bal _ _
 by_cases k6:q.kind=6\/q.kind=8\/q.kind=10
 ·have HE:Hid (gfl q.kind q.dup q.qos q.retain=2):=by show _=_;unfold gfl;rw[if_pos k6]
  clear hq
  go_enter Tryz.func41,Tryz.ntmps41
  go_upto_region 1 with fail
  change Code.wp _ _ _ _ (w.alloc (.cells q.cells.toArray 31))
  generalize w.alloc (.cells q.cells.toArray 31)=wa at HPN HB0 |-
  have b0:=(uh HPN).kind
  rcases k6 with k | k | k <;> rw[k]at b0 <;> clear k
  all_goals (
   go_wp2
   go_ret
   exact⟨by rw[uh HE];rfl,uh HB0⟩)
 ·by_cases k3:q.kind=3
  ·have hq2:0<=q.qos/\q.qos<=2:=by omega
   have HE:Hid (gfl q.kind q.dup q.qos q.retain=fv q.dup 8+2 * q.qos+fv q.retain 1):=by show _=_;unfold gfl;rw[if_neg k6,if_pos k3]
   have r1:=fv_range q.dup 8 (by decide)
   have r2:=fv_range q.retain 1 (by decide)
   have HW:Hid (IntKind.i64.wrap (IntKind.i64.wrap (fv q.dup 8+IntKind.i64.wrap (2 * q.qos))+fv q.retain 1)=fv q.dup 8+2 * q.qos+fv q.retain 1):=by show _=_;rw[IntKind.wrap_i64,IntKind.wrap_i64,IntKind.wrap_i64];omega
   have HK3:=zh k3
   clear k3 k6 hq
   go_enter Tryz.func41,Tryz.ntmps41
   go_upto_region 1 with fail
   change Code.wp _ _ _ _ (w.alloc (.cells q.cells.toArray 31))
   generalize w.alloc (.cells q.cells.toArray 31)=wa at HPN HB0 |-
   have b0:=(uh HPN).kind
   rw[uh HK3]at b0
   go_wp2_with fail
   have HS:Hid (∀ W,Below wa.heap.size wa W->W.cell? ⟨w.heap.size,1,none⟩=some (.bool q.dup)/\W.cell? ⟨w.heap.size,2,none⟩=some (.int .i64 q.qos)/\W.cell? ⟨w.heap.size,3,none⟩=some (.bool q.retain)):=fun W hW=>⟨((uh HPN).below hW).dup,((uh HPN).below hW).qos,((uh HPN).below hW).retain⟩
   refine wp_region_noPanic ?_
   refine wp_region_held_drew (S:=(fun w'=>w'.cell? ⟨w.heap.size,1,none⟩=some (.bool q.dup)/\w'.cell? ⟨w.heap.size,2,none⟩=some (.int .i64 q.qos)/\w'.cell? ⟨w.heap.size,3,none⟩=some (.bool q.retain))) (by kernel_rfl) ((uh HS) _ (below_drewN (Below.refl _ _) 1)) (fun hHeld=>?_)
   have HBd:Hid (Below wa.heap.size wa wa.drew):=below_drewN (Below.refl _ _) 1
   generalize wa.drew=wd at HBd hHeld |-
   clear b0
   refine rtk 0 (h:=?_)
   refine rtk 1 (h:=?_)
   refine rtk 3 (h:=?_)
   refine rtk 4 (h:=?_)
   refine rtk 5 (h:=?_)
   refine rtk 7 (h:=?_)
   refine rtk 8 (h:=?_)
   refine rcl 2 (h:=fun K hK=>?_)
   go_simp
   refine (gflag_any q.dup 8 _).mono ?_
   rintro e w1 ⟨rfl,hw1⟩
   obtain rfl:=hw1.symm
   clear hw1
   refine hK.out _ _ hHeld (fun hHeld=>?_)
   clear hK K
   refine rtk 6 (h:=?_)
   refine rcl 9 (h:=fun K hK=>?_)
   go_simp
   refine (gflag_any q.retain 1 _).mono ?_
   rintro e w2 ⟨rfl,hw2⟩
   obtain rfl:=hw2.symm
   clear hw2
   refine hK.out _ _ hHeld (fun hHeld=>?_)
   clear hK K
   refine rtk 10 (h:=?_)
   refine rtk 11 (h:=?_)
   refine wpAnyH_done (by kernel_rfl) ?_ _
   refine NoPanic.normal ?_
   go_wp2
   go_ret
   exact⟨by rw[uh HE,<- uh HW];rfl,bnx3 (uh HB0) (uh HBd)⟩
  ·have HE:Hid (gfl q.kind q.dup q.qos q.retain=0):=by show _=_;unfold gfl;rw[if_neg k6,if_neg k3]
   have j3:=beq_false_of_ne k3
   have j6:(q.kind == 6)=false:=beq_false_of_ne (fun e=>k6 (.inl e))
   have j8:(q.kind == 8)=false:=beq_false_of_ne (fun e=>k6 (.inr (.inl e)))
   have j10:(q.kind == 10)=false:=beq_false_of_ne (fun e=>k6 (.inr (.inr e)))
   clear k3 k6 hq
   go_enter Tryz.func41,Tryz.ntmps41
   go_upto_region 1 with fail
   change Code.wp _ _ _ _ (w.alloc (.cells q.cells.toArray 31))
   generalize w.alloc (.cells q.cells.toArray 31)=wa at HPN HB0 |-
   have b0:=(uh HPN).kind
   go_wp2
   go_ret
   exact⟨by rw[uh HE];rfl,uh HB0⟩
end Go.Proofs.YtdkmmmjjdlnnoaaGreatDoor.K
