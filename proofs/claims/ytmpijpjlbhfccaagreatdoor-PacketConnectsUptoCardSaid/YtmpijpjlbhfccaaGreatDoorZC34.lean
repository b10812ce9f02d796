/- Helpers of the proof. -/
import Derived.Deep.RegionHeld3
import Derived.Test.YtmpijpjlbhfccaaGreatDoorZC31
import Derived.Test.YtmpijpjlbhfccaaGreatDoorZC30
import Derived.Test.YtmpijpjlbhfccaaGreatDoorZC13
import Derived.Test.YtmpijpjlbhfccaaGreatDoorZC7
import Derived.Test.YtmpijpjlbhfccaaGreatDoorZC6
import Derived.Test.YtmpijpjlbhfccaaGreatDoorZC17
import Derived.Test.YtmpijpjlbhfccaaGreatDoorZC27
import Derived.Deep.Cut
import Derived.Test.YtmpijpjlbhfccaaGreatDoorZC28
import Derived.Deep.CutBlock
set_option maxHeartbeats 20000000
namespace Go.Proofs.YtmpijpjlbhfccaaGreatDoor
open Go.RowKit
set_option maxRecDepth 100000
theorem rput_use (n:Int) (w:World) (h0:0<=n) (h1:n<=268435455):Calls Tryz.prog 30 #[.int .i64 n] w (fun e w'=>∃ v,e=.returned v/\Hid (w'.ownsRow w.heap.size 5 1 v (V.put n).length ((V.put n).map (Value.int .u8)))/\Hid (Byt w' v (V.put n))/\Below w.heap.size w w'):=by
 refine (V.rput_any n w h0 h1).mono ?_
 rintro e w' ⟨v,rfl,hown,hb⟩
 exact⟨v,rfl,hown,byt_of_owns hown (V.put_range n h0 h1),hb⟩
theorem bin_use (s:ByteArray) (w:World) (hs:s.size<=65535):Calls Tryz.prog 72 #[.string s] w (fun e w'=>∃ v,e=.returned v/\Hid (Byt w' v (tx s))/\Below w.heap.size w w'):=by
 refine (bin_any s w hs).mono ?_
 rintro e w' ⟨v,rfl,hown,hb⟩
 exact⟨v,rfl,byt_of_owns (uh hown) (tx_range s hs),hb⟩
theorem high_use (k n:Int) (w:World) (hk:k=2/\n<=65535\/k=4/\n<=4294967295) (h0:0<=n):Calls Tryz.prog 147 #[.int .i64 n,.int .i64 k] w (fun e w'=>∃ v,e=.returned v/\Hid (Byt w' v (nbs k n))/\Below w.heap.size w w'):=by
 have hr:=nbs_range k n (by omega) h0
 have key:∀ e w',NumPost k n w e w'->∃ v,e=.returned v/\Hid (Byt w' v (nbs k n))/\Below w.heap.size w w':=by
  rintro e w' ⟨v,rfl,hown,hb⟩
  exact⟨v,rfl,byt_of_owns (uh hown) hr,hb⟩
 rcases hk with⟨rfl,h⟩|⟨rfl,h⟩
 ·exact (high_2 n w h0 h).mono key
 ·exact (high_4 n w h0 h).mono key
def PutP (l:List Int) (w:World) (e:Ending) (w':World):Prop:=∃ v,e=.returned v/\Hid (Byt w' v l)/\Below w.heap.size w w'
theorem rpp_2 (id n:Int) (s t:ByteArray) (w:World) (hi:1<=id/\id<=42) (hk:kd id=2) (h0:0<=n) (h1:n<=65535):Calls Tryz.prog 115 #[.agg #[.int .i64 id,.int .i64 n,.string s,.string t]] w (PutP (V.put id++(nbs 2 n)) w):=by
 have HK:=zh hk
 clear hk
 have HL:=zh (V.put_len id)
 go_enter Tryz.func115,Tryz.ntmps115
 go_wp2_with fail
 refine (rput_use id _ (by omega) (by omega)).mono ?_
 rintro e w1 ⟨v1,rfl,hown1,hy1,hb1⟩
 have HR:=zh (uh hy1).range
 have HB1:=bal1 hb1
 have c0:w1.cell? ⟨w.heap.size,0,none⟩=some (.int .i64 id):=(hb1.cell (p:=⟨w.heap.size,0,none⟩) (by simp)).trans (by simp)
 have c1:w1.cell? ⟨w.heap.size,1,none⟩=some (.int .i64 n):=(hb1.cell (p:=⟨w.heap.size,1,none⟩) (by simp)).trans (by simp)
 have c2:w1.cell? ⟨w.heap.size,2,none⟩=some (.string s):=(hb1.cell (p:=⟨w.heap.size,2,none⟩) (by simp)).trans (by simp)
 have c3:w1.cell? ⟨w.heap.size,3,none⟩=some (.string t):=(hb1.cell (p:=⟨w.heap.size,3,none⟩) (by simp)).trans (by simp)
 have hlw:w.heap.size<w1.heap.size:=cell_lt c0
 have HO1:Hid (w1.ownsRow w.heap.size 5 1 v1 (V.put id).length ((V.put id).map (Value.int .u8))):=owns_mono (uh hown1) (by simp)
 clear hb1 hown1 hy1
 go_wp2_with fail
 refine (kind_use _ 2 (uh HK) _).mono ?_
 rintro e w' ⟨rfl,hw⟩
 obtain rfl:=hw.symm
 clear hw
 have HLE:Hid (((nbs 2 n)).length<=65537):=(by show List.length _<=_;unfold nbs;simp)
 go_wp2_with fail
 refine (high_use 2 n _ (.inl ⟨rfl,h1⟩) h0).mono ?_
 rintro e w2 ⟨v2,rfl,hy2,hb2⟩
 have HO2:Hid (w2.ownsRow w.heap.size 5 1 v1 (V.put id).length ((V.put id).map (Value.int .u8))):=owns_below (uh HO1) hb2
 have HB2:Hid (Below w.heap.size w w2):=(uh HB1).trans (hb2.mono (uh HB1).size)
 clear hb2 HB1 HO1 c0 c1 c2 c3
 go_wp2_with (first
  | (at_builtin;refine wpList_append_byt _ rfl _ _ rfl w.heap.size _ (V.put id).length (V.put id) rfl (uh HO2) v2 (nbs 2 n) rfl (uh hy2) (by have:=uh HL;have:=uh HLE;omega) (uh HB2).size ?_)
  | go_in)
 intro v3 w3 hown3 hgrow3
 have hb3:Below w.heap.size w w3:=(uh HB2).grown hgrow3 (uh HB2).size (fun k hk=>((uh HO2).lt k hk).1)
 have HY3:Hid (Byt w3 v3 (V.put id++(nbs 2 n))):=byt_of_owns (by rw[List.map_append];exact hown3) (range_app (uh HR) (uh hy2).range)
 clear hown3 hgrow3
 go_wp2
 go_ret
 exact⟨_,rfl,HY3,hb3⟩
theorem rpp_4 (id n:Int) (s t:ByteArray) (w:World) (hi:1<=id/\id<=42) (hk:kd id=4) (h0:0<=n) (h1:n<=4294967295):Calls Tryz.prog 115 #[.agg #[.int .i64 id,.int .i64 n,.string s,.string t]] w (PutP (V.put id++(nbs 4 n)) w):=by
 have HK:=zh hk
 clear hk
 have HL:=zh (V.put_len id)
 go_enter Tryz.func115,Tryz.ntmps115
 go_wp2_with fail
 refine (rput_use id _ (by omega) (by omega)).mono ?_
 rintro e w1 ⟨v1,rfl,hown1,hy1,hb1⟩
 have HR:=zh (uh hy1).range
 have HB1:=bal1 hb1
 have c0:w1.cell? ⟨w.heap.size,0,none⟩=some (.int .i64 id):=(hb1.cell (p:=⟨w.heap.size,0,none⟩) (by simp)).trans (by simp)
 have c1:w1.cell? ⟨w.heap.size,1,none⟩=some (.int .i64 n):=(hb1.cell (p:=⟨w.heap.size,1,none⟩) (by simp)).trans (by simp)
 have c2:w1.cell? ⟨w.heap.size,2,none⟩=some (.string s):=(hb1.cell (p:=⟨w.heap.size,2,none⟩) (by simp)).trans (by simp)
 have c3:w1.cell? ⟨w.heap.size,3,none⟩=some (.string t):=(hb1.cell (p:=⟨w.heap.size,3,none⟩) (by simp)).trans (by simp)
 have hlw:w.heap.size<w1.heap.size:=cell_lt c0
 have HO1:Hid (w1.ownsRow w.heap.size 5 1 v1 (V.put id).length ((V.put id).map (Value.int .u8))):=owns_mono (uh hown1) (by simp)
 clear hb1 hown1 hy1
 go_wp2_with fail
 refine (kind_use _ 4 (uh HK) _).mono ?_
 rintro e w' ⟨rfl,hw⟩
 obtain rfl:=hw.symm
 clear hw
 have HLE:Hid (((nbs 4 n)).length<=65537):=(by show List.length _<=_;unfold nbs;simp)
 go_wp2_with fail
 refine (high_use 4 n _ (.inr ⟨rfl,h1⟩) h0).mono ?_
 rintro e w2 ⟨v2,rfl,hy2,hb2⟩
 have HO2:Hid (w2.ownsRow w.heap.size 5 1 v1 (V.put id).length ((V.put id).map (Value.int .u8))):=owns_below (uh HO1) hb2
 have HB2:Hid (Below w.heap.size w w2):=(uh HB1).trans (hb2.mono (uh HB1).size)
 clear hb2 HB1 HO1 c0 c1 c2 c3
 go_wp2_with (first
  | (at_builtin;refine wpList_append_byt _ rfl _ _ rfl w.heap.size _ (V.put id).length (V.put id) rfl (uh HO2) v2 (nbs 4 n) rfl (uh hy2) (by have:=uh HL;have:=uh HLE;omega) (uh HB2).size ?_)
  | go_in)
 intro v3 w3 hown3 hgrow3
 have hb3:Below w.heap.size w w3:=(uh HB2).grown hgrow3 (uh HB2).size (fun k hk=>((uh HO2).lt k hk).1)
 have HY3:Hid (Byt w3 v3 (V.put id++(nbs 4 n))):=byt_of_owns (by rw[List.map_append];exact hown3) (range_app (uh HR) (uh hy2).range)
 clear hown3 hgrow3
 go_wp2
 go_ret
 exact⟨_,rfl,HY3,hb3⟩
theorem rpp_5 (id n:Int) (s t:ByteArray) (w:World) (hi:1<=id/\id<=42) (hk:kd id=5) (h0:0<=n) (h1:n<=268435455):Calls Tryz.prog 115 #[.agg #[.int .i64 id,.int .i64 n,.string s,.string t]] w (PutP (V.put id++(V.put n)) w):=by
 have HK:=zh hk
 clear hk
 have HL:=zh (V.put_len id)
 go_enter Tryz.func115,Tryz.ntmps115
 go_wp2_with fail
 refine (rput_use id _ (by omega) (by omega)).mono ?_
 rintro e w1 ⟨v1,rfl,hown1,hy1,hb1⟩
 have HR:=zh (uh hy1).range
 have HB1:=bal1 hb1
 have c0:w1.cell? ⟨w.heap.size,0,none⟩=some (.int .i64 id):=(hb1.cell (p:=⟨w.heap.size,0,none⟩) (by simp)).trans (by simp)
 have c1:w1.cell? ⟨w.heap.size,1,none⟩=some (.int .i64 n):=(hb1.cell (p:=⟨w.heap.size,1,none⟩) (by simp)).trans (by simp)
 have c2:w1.cell? ⟨w.heap.size,2,none⟩=some (.string s):=(hb1.cell (p:=⟨w.heap.size,2,none⟩) (by simp)).trans (by simp)
 have c3:w1.cell? ⟨w.heap.size,3,none⟩=some (.string t):=(hb1.cell (p:=⟨w.heap.size,3,none⟩) (by simp)).trans (by simp)
 have hlw:w.heap.size<w1.heap.size:=cell_lt c0
 have HO1:Hid (w1.ownsRow w.heap.size 5 1 v1 (V.put id).length ((V.put id).map (Value.int .u8))):=owns_mono (uh hown1) (by simp)
 clear hb1 hown1 hy1
 go_wp2_with fail
 refine (kind_use _ 5 (uh HK) _).mono ?_
 rintro e w' ⟨rfl,hw⟩
 obtain rfl:=hw.symm
 clear hw
 have HLE:Hid ((V.put n).length<=65537):=(by have:=V.put_len n;show List.length _<=_;omega)
 go_wp2_with fail
 refine (rput_use n _ h0 h1).mono ?_
 rintro e w2 ⟨v2,rfl,-,hy2,hb2⟩
 have HO2:Hid (w2.ownsRow w.heap.size 5 1 v1 (V.put id).length ((V.put id).map (Value.int .u8))):=owns_below (uh HO1) hb2
 have HB2:Hid (Below w.heap.size w w2):=(uh HB1).trans (hb2.mono (uh HB1).size)
 clear hb2 HB1 HO1 c0 c1 c2 c3
 go_wp2_with (first
  | (at_builtin;refine wpList_append_byt _ rfl _ _ rfl w.heap.size _ (V.put id).length (V.put id) rfl (uh HO2) v2 (V.put n) rfl (uh hy2) (by have:=uh HL;have:=uh HLE;omega) (uh HB2).size ?_)
  | go_in)
 intro v3 w3 hown3 hgrow3
 have hb3:Below w.heap.size w w3:=(uh HB2).grown hgrow3 (uh HB2).size (fun k hk=>((uh HO2).lt k hk).1)
 have HY3:Hid (Byt w3 v3 (V.put id++(V.put n))):=byt_of_owns (by rw[List.map_append];exact hown3) (range_app (uh HR) (uh hy2).range)
 clear hown3 hgrow3
 go_wp2
 go_ret
 exact⟨_,rfl,HY3,hb3⟩
theorem rpp_6 (id n:Int) (s t:ByteArray) (w:World) (hi:1<=id/\id<=42) (hk:kd id=6) (hs:s.size<=65535):Calls Tryz.prog 115 #[.agg #[.int .i64 id,.int .i64 n,.string s,.string t]] w (PutP (V.put id++(tx s)) w):=by
 have HK:=zh hk
 clear hk
 have HL:=zh (V.put_len id)
 go_enter Tryz.func115,Tryz.ntmps115
 go_wp2_with fail
 refine (rput_use id _ (by omega) (by omega)).mono ?_
 rintro e w1 ⟨v1,rfl,hown1,hy1,hb1⟩
 have HR:=zh (uh hy1).range
 have HB1:=bal1 hb1
 have c0:w1.cell? ⟨w.heap.size,0,none⟩=some (.int .i64 id):=(hb1.cell (p:=⟨w.heap.size,0,none⟩) (by simp)).trans (by simp)
 have c1:w1.cell? ⟨w.heap.size,1,none⟩=some (.int .i64 n):=(hb1.cell (p:=⟨w.heap.size,1,none⟩) (by simp)).trans (by simp)
 have c2:w1.cell? ⟨w.heap.size,2,none⟩=some (.string s):=(hb1.cell (p:=⟨w.heap.size,2,none⟩) (by simp)).trans (by simp)
 have c3:w1.cell? ⟨w.heap.size,3,none⟩=some (.string t):=(hb1.cell (p:=⟨w.heap.size,3,none⟩) (by simp)).trans (by simp)
 have hlw:w.heap.size<w1.heap.size:=cell_lt c0
 have HO1:Hid (w1.ownsRow w.heap.size 5 1 v1 (V.put id).length ((V.put id).map (Value.int .u8))):=owns_mono (uh hown1) (by simp)
 clear hb1 hown1 hy1
 go_wp2_with fail
 refine (kind_use _ 6 (uh HK) _).mono ?_
 rintro e w' ⟨rfl,hw⟩
 obtain rfl:=hw.symm
 clear hw
 have HLE:Hid (((tx s)).length<=65537):=(tx_len_le s hs)
 go_wp2_with fail
 refine (bin_use s _ hs).mono ?_
 rintro e w2 ⟨v2,rfl,hy2,hb2⟩
 have HO2:Hid (w2.ownsRow w.heap.size 5 1 v1 (V.put id).length ((V.put id).map (Value.int .u8))):=owns_below (uh HO1) hb2
 have HB2:Hid (Below w.heap.size w w2):=(uh HB1).trans (hb2.mono (uh HB1).size)
 clear hb2 HB1 HO1 c0 c1 c2 c3
 go_wp2_with (first
  | (at_builtin;refine wpList_append_byt _ rfl _ _ rfl w.heap.size _ (V.put id).length (V.put id) rfl (uh HO2) v2 (tx s) rfl (uh hy2) (by have:=uh HL;have:=uh HLE;omega) (uh HB2).size ?_)
  | go_in)
 intro v3 w3 hown3 hgrow3
 have hb3:Below w.heap.size w w3:=(uh HB2).grown hgrow3 (uh HB2).size (fun k hk=>((uh HO2).lt k hk).1)
 have HY3:Hid (Byt w3 v3 (V.put id++(tx s))):=byt_of_owns (by rw[List.map_append];exact hown3) (range_app (uh HR) (uh hy2).range)
 clear hown3 hgrow3
 go_wp2
 go_ret
 exact⟨_,rfl,HY3,hb3⟩
theorem rpp_7 (id n:Int) (s t:ByteArray) (w:World) (hi:1<=id/\id<=42) (hk:kd id=7) (hs:s.size<=65535):Calls Tryz.prog 115 #[.agg #[.int .i64 id,.int .i64 n,.string s,.string t]] w (PutP (V.put id++(tx s)) w):=by
 have HK:=zh hk
 clear hk
 have HL:=zh (V.put_len id)
 go_enter Tryz.func115,Tryz.ntmps115
 go_wp2_with fail
 refine (rput_use id _ (by omega) (by omega)).mono ?_
 rintro e w1 ⟨v1,rfl,hown1,hy1,hb1⟩
 have HR:=zh (uh hy1).range
 have HB1:=bal1 hb1
 have c0:w1.cell? ⟨w.heap.size,0,none⟩=some (.int .i64 id):=(hb1.cell (p:=⟨w.heap.size,0,none⟩) (by simp)).trans (by simp)
 have c1:w1.cell? ⟨w.heap.size,1,none⟩=some (.int .i64 n):=(hb1.cell (p:=⟨w.heap.size,1,none⟩) (by simp)).trans (by simp)
 have c2:w1.cell? ⟨w.heap.size,2,none⟩=some (.string s):=(hb1.cell (p:=⟨w.heap.size,2,none⟩) (by simp)).trans (by simp)
 have c3:w1.cell? ⟨w.heap.size,3,none⟩=some (.string t):=(hb1.cell (p:=⟨w.heap.size,3,none⟩) (by simp)).trans (by simp)
 have hlw:w.heap.size<w1.heap.size:=cell_lt c0
 have HO1:Hid (w1.ownsRow w.heap.size 5 1 v1 (V.put id).length ((V.put id).map (Value.int .u8))):=owns_mono (uh hown1) (by simp)
 clear hb1 hown1 hy1
 go_wp2_with fail
 refine (kind_use _ 7 (uh HK) _).mono ?_
 rintro e w' ⟨rfl,hw⟩
 obtain rfl:=hw.symm
 clear hw
 have HLE:Hid (((tx s)).length<=65537):=(tx_len_le s hs)
 go_wp2_with fail
 refine (bin_use s _ hs).mono ?_
 rintro e w2 ⟨v2,rfl,hy2,hb2⟩
 have HO2:Hid (w2.ownsRow w.heap.size 5 1 v1 (V.put id).length ((V.put id).map (Value.int .u8))):=owns_below (uh HO1) hb2
 have HB2:Hid (Below w.heap.size w w2):=(uh HB1).trans (hb2.mono (uh HB1).size)
 clear hb2 HB1 HO1 c0 c1 c2 c3
 go_wp2_with (first
  | (at_builtin;refine wpList_append_byt _ rfl _ _ rfl w.heap.size _ (V.put id).length (V.put id) rfl (uh HO2) v2 (tx s) rfl (uh hy2) (by have:=uh HL;have:=uh HLE;omega) (uh HB2).size ?_)
  | go_in)
 intro v3 w3 hown3 hgrow3
 have hb3:Below w.heap.size w w3:=(uh HB2).grown hgrow3 (uh HB2).size (fun k hk=>((uh HO2).lt k hk).1)
 have HY3:Hid (Byt w3 v3 (V.put id++(tx s))):=byt_of_owns (by rw[List.map_append];exact hown3) (range_app (uh HR) (uh hy2).range)
 clear hown3 hgrow3
 go_wp2
 go_ret
 exact⟨_,rfl,HY3,hb3⟩
theorem rpp_1 (id n:Int) (s t:ByteArray) (w:World) (hi:1<=id/\id<=42) (hk:kd id=1) (h0:0<=n) (h1:n<=1):Calls Tryz.prog 115 #[.agg #[.int .i64 id,.int .i64 n,.string s,.string t]] w (PutP (V.put id++[n]) w):=by
 have HK:=zh hk
 clear hk
 have HL:=zh (V.put_len id)
 go_enter Tryz.func115,Tryz.ntmps115
 go_wp2_with fail
 refine (rput_use id _ (by omega) (by omega)).mono ?_
 rintro e w1 ⟨v1,rfl,hown1,hy1,hb1⟩
 have HR:=zh (uh hy1).range
 have HB1:=bal1 hb1
 have c0:w1.cell? ⟨w.heap.size,0,none⟩=some (.int .i64 id):=(hb1.cell (p:=⟨w.heap.size,0,none⟩) (by simp)).trans (by simp)
 have c1:w1.cell? ⟨w.heap.size,1,none⟩=some (.int .i64 n):=(hb1.cell (p:=⟨w.heap.size,1,none⟩) (by simp)).trans (by simp)
 have c2:w1.cell? ⟨w.heap.size,2,none⟩=some (.string s):=(hb1.cell (p:=⟨w.heap.size,2,none⟩) (by simp)).trans (by simp)
 have c3:w1.cell? ⟨w.heap.size,3,none⟩=some (.string t):=(hb1.cell (p:=⟨w.heap.size,3,none⟩) (by simp)).trans (by simp)
 have hlw:w.heap.size<w1.heap.size:=cell_lt c0
 have HO1:Hid (w1.ownsRow w.heap.size 5 1 v1 (V.put id).length ((V.put id).map (Value.int .u8))):=owns_mono (uh hown1) (by simp)
 clear hb1 hown1 hy1
 go_wp2_with fail
 refine (kind_use _ 1 (uh HK) _).mono ?_
 rintro e w' ⟨rfl,hw⟩
 obtain rfl:=hw.symm
 clear hw
 obtain⟨i0,hi0,hz0,hz1,hz2⟩:=info_parts Tryz.infoU8
 go_wp2_with (first
  | (at_builtin;refine wpList_append_own _ rfl _ _ 33 rfl w.heap.size 5 i0 (.int .u8 0) 1 1 Tryz.underlying33 hi0 hz0 hz1 hz2 rfl (by decide) _ _ _ rfl ((uh HO1).alloc _) ⟨w1.heap.size,0,none⟩ 1 1 [.int .u8 n] rfl rfl (one_cell _ _ _) (one_one _ _) (by have:=uh HL;unfold maxLen;omega) (by have:=uh HL;omega) (by have:=(uh HB1).size;simp<;>omega) ?_)
  | go_in)
 intro v3 w3 hown3 hgrow3 _
 have hb3:Below w.heap.size w w3:=((uh HB1).alloc (uh HB1).size _).grown hgrow3 (by have:=(uh HB1).size;simp<;>omega) (fun k hk=>((uh HO1).lt k hk).1)
 have HY3:Hid (Byt w3 v3 (V.put id++[n])):=byt_of_owns (by rw[List.map_append];exact hown3) (range_app (uh HR) (fun j=>by rcases j with _|j<;>simp<;>omega))
 clear hown3 hgrow3
 go_wp2
 go_ret
 exact⟨_,rfl,HY3,hb3⟩
theorem own_ne {w:World} {B e:Nat} {q:Nat} {v:Value} {n:Nat} {xs:List Value} (h:w.ownsRow (B+1) e q v n xs) {i:Nat}:some (⟨B,i,none⟩:Addr).block≠v.ownBlock:=fun he=>by
 have:=(h.lt B he.symm).1
 omega
theorem rpp_8 (id n:Int) (s t:ByteArray) (w:World) (hi:1<=id/\id<=42) (hk:kd id=8) (hs:s.size<=65535) (ht:t.size<=65535):Calls Tryz.prog 115 #[.agg #[.int .i64 id,.int .i64 n,.string s,.string t]] w (PutP (V.put id++(tx s++tx t)) w):=by
 have HK:=zh hk
 clear hk
 have HL:=zh (V.put_len id)
 go_enter Tryz.func115,Tryz.ntmps115
 go_wp2_with fail
 refine (rput_use id _ (by omega) (by omega)).mono ?_
 rintro e w1 ⟨v1,rfl,hown1,hy1,hb1⟩
 have HR:=zh (uh hy1).range
 have HB1:=bal1 hb1
 have c0:w1.cell? ⟨w.heap.size,0,none⟩=some (.int .i64 id):=(hb1.cell (p:=⟨w.heap.size,0,none⟩) (by simp)).trans (by simp)
 have c1:w1.cell? ⟨w.heap.size,1,none⟩=some (.int .i64 n):=(hb1.cell (p:=⟨w.heap.size,1,none⟩) (by simp)).trans (by simp)
 have c2:w1.cell? ⟨w.heap.size,2,none⟩=some (.string s):=(hb1.cell (p:=⟨w.heap.size,2,none⟩) (by simp)).trans (by simp)
 have c3:w1.cell? ⟨w.heap.size,3,none⟩=some (.string t):=(hb1.cell (p:=⟨w.heap.size,3,none⟩) (by simp)).trans (by simp)
 have hlw:w.heap.size<w1.heap.size:=cell_lt c0
 have HO1:Hid (w1.ownsRow (w.heap.size+1) 5 1 v1 (V.put id).length ((V.put id).map (Value.int .u8))):=owns_mono (uh hown1) (by simp)
 clear hb1 hown1 hy1
 go_wp2_with fail
 refine (kind_use _ 8 (uh HK) _).mono ?_
 rintro e w' ⟨rfl,hw⟩
 obtain rfl:=hw.symm
 clear hw
 have HC:Hid (∀ W,Below w1.heap.size w1 W->W.cell? ⟨w.heap.size,2,none⟩=some (.string s)/\W.cell? ⟨w.heap.size,3,none⟩=some (.string t)):=fun W h=>⟨(h.cell (p:=⟨w.heap.size,2,none⟩) hlw).trans c2,(h.cell (p:=⟨w.heap.size,3,none⟩) hlw).trans c3⟩
 go_wp2_with fail
 refine wp_region_noPanic ?_
 refine wp_region_held_drew (S:=(fun w'=>w'.cell? ⟨w.heap.size,2,none⟩=some (.string s)/\w'.cell? ⟨w.heap.size,3,none⟩=some (.string t))) (by kernel_rfl) ((uh HC) _ (below_drewN (Below.refl _ _) 1)) (fun hHeld=>?_)
 refine rtk 0 (h:=?_)
 refine rtk 1 (h:=?_)
 refine rtk 2 (h:=?_)
 refine rtk 5 (h:=?_)
 refine rtk 6 (h:=?_)
 refine rcl 3 (h:=fun K hK=>?_)
 go_simp
 refine (bin_use s _ hs).mono ?_
 rintro e w2 ⟨v2,rfl,hy2,hb2⟩
 have HB2:Hid (Below w1.heap.size w1 w2):=below_undrew1 hb2
 have HO2:Hid (w2.ownsRow (w.heap.size+1) 5 1 v1 (V.put id).length ((V.put id).map (Value.int .u8))):=owns_below (uh HO1) (uh HB2)
 clear hb2
 go_wp2_with fail
 refine hK.out _ _ ((uh HC) _ (uh HB2)) (fun hHeld=>?_)
 clear hK K
 refine wpAnyH_ready (rs:=[4]) (by kernel_rfl) (by simp) ?_
 refine AllReadyH.cons (o:={ dst:=some 45,op:=Op.call { callee:=Callee.builtin Builtin.append,args:=#[Operand.tmp 41,Operand.tmp 44],argTypes:=#[33,33] },type:=33,pos := "dovecoteref3.go:149",after:=#[{ on:=0,ground:=Ground.data },{ on:=3,ground:=Ground.data },{ on:=3,ground:=Ground.chain }],guard:=none }) rfl (fun K hK=>?_) AllReadyH.nil
 refine step_append_byt rfl _ _ rfl (w.heap.size+1) v1 (V.put id).length (V.put id) rfl (uh HO2) v2 (tx s) rfl (uh hy2) (by have:=uh HL;rw[tx_length];omega) (by have:=(uh HB2).size;omega) ?_
 intro v3 w3 hown3 hgrow3
 have HB3:Hid (Below w.heap.size w w3):=((uh HB1).trans ((uh HB2).mono (uh HB1).size)).grown hgrow3 (by have:=(uh HB2).size;omega) (fun g hg=>(by have:=((uh HO2).lt g hg).1;omega))
 have HN3:Hid (w3.cell? ⟨w.heap.size,2,none⟩=some (.string s)/\w3.cell? ⟨w.heap.size,3,none⟩=some (.string t)):=by
  have hc:=(uh HC) w2 (uh HB2)
  exact⟨hgrow3.cell hc.1 (own_ne (uh HO2)),hgrow3.cell hc.2 (own_ne (uh HO2))⟩
 have HO3:=zh hown3
 clear hown3 hgrow3
 refine hK.out _ _ (by exact uh HN3) (fun hHeld=>?_)
 clear hK K
 simp only[sp]
 refine rcl 7 (h:=fun K hK=>?_)
 go_simp
 refine (bin_use t _ ht).mono ?_
 rintro e w4 ⟨v4,rfl,hy4,hb4⟩
 have HB4:Hid (Below w.heap.size w w4):=(uh HB3).trans (hb4.mono (uh HB3).size)
 have HO4:=zh (owns_below (uh HO3) hb4)
 have HN4:Hid (w4.cell? ⟨w.heap.size,2,none⟩=some (.string s)/\w4.cell? ⟨w.heap.size,3,none⟩=some (.string t)):=⟨(hb4.cell (cell_lt (uh HN3).1)).trans (uh HN3).1,(hb4.cell (cell_lt (uh HN3).2)).trans (uh HN3).2⟩
 clear hb4
 go_wp2_with fail
 refine hK.out _ _ (by exact uh HN4) (fun hHeld=>?_)
 clear hK K
 refine wpAnyH_ready (rs:=[8]) (by kernel_rfl) (by simp) ?_
 refine AllReadyH.cons (o:={ dst:=some 49,op:=Op.call { callee:=Callee.builtin Builtin.append,args:=#[Operand.tmp 45,Operand.tmp 48],argTypes:=#[33,33] },type:=33,pos := "dovecoteref3.go:149",after:=#[{ on:=4,ground:=Ground.data },{ on:=7,ground:=Ground.data },{ on:=7,ground:=Ground.chain }],guard:=none }) rfl (fun K hK=>?_) AllReadyH.nil
 refine step_append_byt rfl _ _ rfl (w.heap.size+1) v3 _ (V.put id++tx s) rfl (uh HO4) v4 (tx t) rfl (uh hy4) (by have:=uh HL;rw[tx_length,tx_length];omega) (by have:=cell_lt (uh HN4).1;simp at this;omega) ?_
 intro v5 w5 hown5 hgrow5
 have HB5:Hid (Below w.heap.size w w5):=(uh HB4).grown hgrow5 (uh HB4).size (fun g hg=>(by have:=((uh HO4).lt g hg).1;omega))
 have HN5:Hid (w5.cell? ⟨w.heap.size,2,none⟩=some (.string s)/\w5.cell? ⟨w.heap.size,3,none⟩=some (.string t)):=⟨hgrow5.cell (uh HN4).1 (own_ne (uh HO4)),hgrow5.cell (uh HN4).2 (own_ne (uh HO4))⟩
 have HY5:Hid (Byt w5 v5 (V.put id++(tx s++tx t))):=by
  rw[<- List.append_assoc]
  exact byt_of_owns hown5 (range_app (range_app (uh HR) (tx_range s hs)) (tx_range t ht))
 clear hown5 hgrow5
 refine hK.out _ _ (by exact uh HN5) (fun hHeld=>?_)
 clear hK K
 simp only[sp]
 refine rtk 9 (h:=?_)
 refine wpAnyH_done (by kernel_rfl) ?_ _
 refine NoPanic.normal ?_
 go_wp2
 go_ret
 exact⟨_,rfl,HY5,uh HB5⟩
theorem rput3 (id n:Int) (s t:ByteArray) (w:World) (hi:1<=id/\id<=42) (hm:may (id,n,s,t)=true):Calls Tryz.prog 115 #[.agg #[.int .i64 id,.int .i64 n,.string s,.string t]] w (PutP (pb (id,n,s,t)) w):=by
 have hpb:pb (id,n,s,t)=V.put id++pvb (id,n,s,t):=rfl
 rw[hpb]
 unfold may at hm
 rw[Bool.and_eq_true]at hm
 obtain⟨hf,ht⟩:=hm
 obtain⟨h0,h1,h2⟩:=fit_num hf
 have hx:mx id=(if kd id=1 then 1 else if kd id=2 then 65535 else if kd id=4 then 4294967295 else if kd id=5 then 268435455 else 0):=rfl
 rcases kd_cases id with h|h|h|h|h|h|h|h
 ·unfold txo at ht;simp[h]at ht
 ·rw[show pvb (id,n,s,t)=[n] from by unfold pvb;simp[h]]
  rw[if_pos h]at hx
  exact rpp_1 id n s t w hi h h0 (by omega)
 ·rw[pvb_num id n s t 2 h (by omega)]
  rw[if_neg (by omega),if_pos h]at hx
  exact rpp_2 id n s t w hi h h0 (by omega)
 ·rw[pvb_num id n s t 4 h (by omega)]
  rw[if_neg (by omega),if_neg (by omega),if_pos h]at hx
  exact rpp_4 id n s t w hi h h0 (by omega)
 ·rw[show pvb (id,n,s,t)=V.put n from by unfold pvb;simp[h]]
  rw[if_neg (by omega),if_neg (by omega),if_neg (by omega),if_pos h]at hx
  exact rpp_5 id n s t w hi h h0 (by omega)
 ·rw[show pvb (id,n,s,t)=tx s from by unfold pvb;simp[h]]
  have hc:chk (sb s)=0:=by unfold txo at ht;simpa [h] using ht
  exact rpp_6 id n s t w hi h (by have:=chk_0 hc;rw[sb_length]at this;exact this)
 ·rw[show pvb (id,n,s,t)=tx s from by unfold pvb;simp[h]]
  exact rpp_7 id n s t w hi h (by unfold txo at ht;simpa [h] using ht)
 ·rw[show pvb (id,n,s,t)=tx s++tx t from by unfold pvb;simp[h]]
  have hc:chk (sb s)=0/\chk (sb t)=0:=by unfold txo at ht;simpa [h] using ht
  exact rpp_8 id n s t w hi h (by have:=chk_0 hc.1;rw[sb_length]at this;exact this) (by have:=chk_0 hc.2;rw[sb_length]at this;exact this)
theorem rbytes_core (b off cap:Nat) (l:List Pr) (len:Nat) (place:Int) (w:World) (hlen:l.length=len) (h200:len<=200) (hok:okTo place l len) (hl:PrAt w b off l) :
  Calls Tryz.prog 71 #[.slice (some ⟨b,off,none⟩) len cap] w (PutP (pbs l) w):=by
 have HL:=zh hl
 have HLEN:=zh hlen
 have HOK:=zh hok
 clear hl hlen hok
 go_enter Tryz.func71,Tryz.ntmps71
 go_wp2
 go_loopw [3,4] (fun v i wr=>∃ k S:Nat,k<=len/\i=.int .i64 k/\S<=k*131078/\Hid ((body (l.take k)).length=S)/\Hid (wr.ownsRow w.heap.size 5 1 v S ((body (l.take k)).map (Value.int .u8)))/\Hid (∀ j,0<=(body (l.take k)).getD j 0/\(body (l.take k)).getD j 0<=255)/\Below w.heap.size w wr) (fun _ i _=>len-(intOf i).toNat)
 case atStart=>exact⟨0,0,Nat.zero_le _,rfl,by omega,by simp[body];trivial,World.ownsRow_nil _ _ _ _,fun j=>by simp[body],Below.refl _ _⟩
 case round =>
  obtain⟨k,S,hk,rfl,hS,HS,HOWN,HRG,hbel⟩:=hrel
  by_cases hlt:k<len
  ·have HLTk:Hid (k<l.length):=by show _<_;rw[uh HLEN];exact hlt
   obtain⟨h0,h1,h2,h3⟩:=((uh HL).below hbel) k (uh HLTk)
   have hmm:=okAt_may ((uh HOK) k hlt)
   have HPB:=zh (body_take l k (uh HLTk))
   obtain⟨id,n,s,t,hp⟩:∃ id n s t,at0 l k=(id,n,s,t):=⟨_,_,_,_,rfl⟩
   rw[hp]at h0 h1 h2 h3 HPB hmm
   simp only at h0 h1 h2 h3 hmm
   have hpl:=pb_le _ hmm.1
   have HV:=zh (fun W=>rput3 id n s t W (id_range _ _ hmm.2) hmm.1)
   have HBEL:=zh hbel
   have hsz:=hbel.size
   clear hp hbel hmm
   generalize pb (id,n,s,t)=L at HV hpl HPB
   go_wp2_with fail
   refine ((uh HV) _).mono ?_
   rintro e w2 ⟨v2,rfl,hy2,hb2⟩
   have HO2:Hid (w2.ownsRow w.heap.size 5 1 u3 S ((body (l.take k)).map (Value.int .u8))):=owns_below (uh HOWN) hb2
   have HB2:Hid (Below w.heap.size w w2):=(uh HBEL).trans (hb2.mono hsz)
   clear hb2 HBEL HOWN h0 h1 h2 h3 HV
   go_wp2_with (first
    | (at_builtin;refine wpList_append_byt _ rfl _ _ rfl w.heap.size _ S (body (l.take k)) rfl (uh HO2) v2 L rfl (uh hy2) (by omega) (uh HB2).size ?_)
    | go_in)
   intro v4 w4 hown4 hgrow4
   have HB4:Hid (Below w.heap.size w w4):=(uh HB2).grown hgrow4 (uh HB2).size (fun g hg=>((uh HO2).lt g hg).1)
   have HS4:Hid ((body (l.take (k+1))).length=S+L.length):=by show _=_;rw[uh HPB,List.length_append,uh HS]
   have HOWN4:Hid (w4.ownsRow w.heap.size 5 1 v4 (S+L.length) ((body (l.take (k+1))).map (Value.int .u8))):=by
    show World.ownsRow _ _ _ _ _ _ _
    rw[uh HPB,List.map_append]
    exact hown4
   have HRG4:Hid (∀ j,0<=(body (l.take (k+1))).getD j 0/\(body (l.take (k+1))).getD j 0<=255):=by
    show ∀ j,_
    rw[uh HPB]
    exact range_app (uh HRG) (uh hy2).range
   clear hown4 hgrow4
   go_wp2
   go_roundw
   case rel=>exact⟨k+1,S+L.length,by omega,by go_num,by omega,HS4,HOWN4,HRG4,uh HB4⟩
   case measure=>simp[intOf];omega
  ·obtain rfl:k=len:=by omega
   have HT:Hid (l.take k=l):=List.take_of_length_le (Nat.le_of_eq (uh HLEN))
   rw[uh HT]at HS HOWN HRG
   have HZ:Hid (pbs l=V.put S++body l):=by show pbs l=_;unfold pbs;rw[uh HS]
   have HPL:=zh (V.put_len S)
   have HBEL:=zh hbel
   have HOF:=zh (uh HOWN)
   obtain⟨ao,vc,hv⟩:∃ ao vc,u3=.slice ao S vc:=by
    have hb:=byt_of_owns (uh HOWN) (uh HRG)
    obtain⟨ao,vc,h,_⟩:=hb.form
    rw[uh HS]at h
    exact⟨ao,vc,h⟩
   subst hv
   clear hbel
   go_wp2_with fail
   refine (rput_use S _ (by omega) (by omega)).mono ?_
   rintro e w2 ⟨v2,rfl,hown2,hy2,hb2⟩
   have HB2:Hid (Below w.heap.size w w2):=(uh HBEL).trans (hb2.mono (uh HBEL).size)
   have HO2:Hid (w2.ownsRow w.heap.size 5 1 v2 (V.put S).length ((V.put S).map (Value.int .u8))):=owns_mono (uh hown2) (uh HBEL).size
   have HYB:Hid (Byt w2 (.slice ao S vc) (body l)):=(byt_of_owns (uh HOWN) (uh HRG)).below hb2
   clear hb2 hown2
   go_wp2_with (first
    | (at_builtin;refine wpList_append_byt _ rfl _ _ rfl w.heap.size _ (V.put S).length (V.put S) rfl (uh HO2) (.slice ao S vc) (body l) rfl (uh HYB) (by have:=uh HPL;have:=uh HS;omega) (uh HB2).size ?_)
    | go_in)
   intro v4 w4 hown4 hgrow4
   have HB4:Hid (Below w.heap.size w w4):=(uh HB2).grown hgrow4 (uh HB2).size (fun g hg=>((uh HO2).lt g hg).1)
   have HY4:Hid (Byt w4 v4 (pbs l)):=by
    show Byt _ _ _
    rw[uh HZ]
    exact byt_of_owns (by rw[List.map_append];exact hown4) (range_app (uh hy2).range (uh HRG))
   clear hown4 hgrow4
   go_wp2
   go_ret
   exact⟨_,rfl,HY4,uh HB4⟩
theorem put_zero:V.put 0=[0]:=rfl
theorem rbytes_nil (ao:Option Addr) (cap:Nat) (w:World):Calls Tryz.prog 71 #[.slice ao 0 cap] w (PutP (pbs []) w):=by
 have HZ:Hid (pbs []=[0]):=rfl
 go_enter Tryz.func71,Tryz.ntmps71
 go_wp2
 refine wp_loop_rounds 1 ?_
 rw[rounds_succ]
 go_wp2_with fail
 refine (rput_use 0 _ (by omega) (by omega)).mono ?_
 rintro e w2 ⟨v2,rfl,hown2,hy2,hb2⟩
 have HB2:=zh hb2
 have HE:Hid (Byt w2 (.slice none 0 0) []):=⟨none,0,rfl,⟨Nat.le_refl _,by unfold maxLen;omega⟩,fun j=>by simp,.inl rfl⟩
 clear hb2
 go_wp2_with (first
  | (at_builtin;refine wpList_append_byt _ rfl _ _ rfl w.heap.size _ (V.put 0).length (V.put 0) rfl (uh hown2) (.slice none 0 0) [] rfl (uh HE) (by simp[put_zero]) (uh HB2).size ?_)
  | go_in)
 intro v4 w4 hown4 hgrow4
 have HB4:Hid (Below w.heap.size w w4):=(uh HB2).grown hgrow4 (uh HB2).size (fun g hg=>((uh hown2).lt g hg).1)
 have HY4:Hid (Byt w4 v4 (pbs [])):=by
  show Byt _ _ _
  rw[uh HZ]
  exact byt_of_owns (by simpa [put_zero] using hown4) (fun j=>by rcases j with _|j<;>simp)
 clear hown4 hgrow4
 go_wp2
 go_ret
 exact⟨_,rfl,HY4,uh HB4⟩
theorem rbytes_any (v:Value) (l:List Pr) (place:Int) (w:World) (h:Prp w v l) (h200:l.length<=200) (hok:okTo place l l.length):Calls Tryz.prog 71 #[v] w (PutP (pbs l) w):=by
 obtain⟨ao,cap,rfl,hc⟩:=h
 rcases hc with rfl|⟨b,off,rfl,hc⟩
 ·exact rbytes_nil ao cap w
 ·exact rbytes_core b off cap l _ place w rfl h200 hok hc
end Go.Proofs.YtmpijpjlbhfccaaGreatDoor
namespace Go.Proofs.YtmpijpjlbhfccaaGreatDoor.K
open Go.RowKit
set_option maxRecDepth 100000
theorem gflag_any (b:Bool) (n:Int) (w:World):Calls Tryz.prog 70 #[.bool b,.int .i64 n] w fun e w'=>e=.returned (.int .i64 (fv b n))/\w'=w:=by
 unfold fv
 cases b
 ·go_enter Tryz.func70,Tryz.ntmps70
  go_wp2
  go_ret
  exact⟨rfl,rfl⟩
 ·go_enter Tryz.func70,Tryz.ntmps70
  go_wp2
  go_ret
  exact⟨rfl,rfl⟩
def Rwb (w:World) (B:Nat) (v:Value) (l:List Int):Prop:=w.ownsRow B 5 1 v l.length (l.map (Value.int .u8))/\∀ j,0<=l.getD j 0/\l.getD j 0<=255
theorem Rwb.byt {w:World} {B:Nat} {v:Value} {l:List Int} (h:Rwb w B v l):Byt w v l:=byt_of_owns h.1 h.2
theorem Rwb.below {w w':World} {B:Nat} {v:Value} {l:List Int} (h:Rwb w B v l) (hb:Below w.heap.size w w'):Rwb w' B v l:=⟨owns_below h.1 hb,h.2⟩
theorem Rwb.mono {w:World} {B B':Nat} {v:Value} {l:List Int} (h:Rwb w B v l) (hB:B'<=B):Rwb w B' v l:=⟨owns_mono h.1 hB,h.2⟩
theorem Rwb.form {w:World} {B:Nat} {v:Value} {l:List Int} (h:Rwb w B v l):∃ a n c,v=.slice a n c:=by
 rcases h.1.2 with⟨rfl,_⟩|⟨g,cap,cur,rfl,_⟩
 ·exact⟨_,_,_,rfl⟩
 ·exact⟨_,_,_,rfl⟩
theorem rwb_new (w:World) (l:List Int) (hl:1<=l.length) (hm:l.length<=100) (hr:∀ j,0<=l.getD j 0/\l.getD j 0<=255):Rwb (w.alloc (.cells (l.map (Value.int .u8)).toArray 5)) w.heap.size (.slice (some ⟨w.heap.size,0,none⟩) l.length l.length) l :=
 ⟨⟨by simp,.inr ⟨w.heap.size,l.length,_,rfl,Nat.le_refl _,heap_alloc_new _ _,Nat.le_refl _,by unfold maxLen;omega,by simp,by rw[List.toList_toArray,Nat.mul_one];exact List.take_of_length_le (by simp)⟩⟩,hr⟩
theorem gtwo_any (n:Int) (w:World):Calls Tryz.prog 73 #[.int .i64 n] w fun e w'=>∃ v,e=.returned v/\Hid (Rwb w' w.heap.size v (b2 n))/\Below w.heap.size w w':=by
 have HR:Hid (Rwb (w.alloc (.cells #[.int .u8 (n/256 % 256),.int .u8 (n % 256)] 5)) w.heap.size (.slice (some ⟨w.heap.size,0,none⟩) 2 2) (b2 n)):=rwb_new w (b2 n) (by simp) (by simp) (rng2 (by omega) (by omega))
 have HB:Hid (Below w.heap.size w (w.alloc (.cells #[.int .u8 (n/256 % 256),.int .u8 (n % 256)] 5))):=bal _ _
 go_enter Tryz.func73,Tryz.ntmps73
 go_wp2
 go_ret
 exact⟨_,rfl,HR,uh HB⟩
def gtl (code:Int) (l:List Pr):List Int:=if 0<l.length then [code % 256]++pbs l else if code=0 then [] else [code % 256]
def GPut (l:List Int) (w:World) (e:Ending) (w':World):Prop:=∃ v,e=.returned v/\Hid (Rwb w' w.heap.size v l)/\Below w.heap.size w w'
theorem Rwb.nil (w:World) (B:Nat):Rwb w B (.slice none 0 0) []:=⟨World.ownsRow_nil _ _ _ _,fun j=>by simp⟩
theorem bnx2 {B:Nat} {w a b:World} (h:Below B w a) (h2:Below a.heap.size a b) (hB:B<=a.heap.size:=by first|exact Nat.le_refl _|(exact (Below.size ‹_›))|omega):Below B w b:=h.trans (h2.mono hB)
theorem gtail_any (q:Pkv) (l:List Pr) (place:Int) (w:World) (hP:Prp w q.props.val l) (hok:okP place l=true):Calls Tryz.prog 74 #[q.val] w (GPut (gtl q.code l) w):=by
 obtain⟨hok1,h32⟩:=chkP0 (of_decide_eq_true hok)
 have hple:=pbs_le (of_decide_eq_true hok)
 have HPN:=zh (pk_new w q)
 have HB0:Hid (Below w.heap.size w (w.alloc (.cells q.cells.toArray 31))):=bal _ _
 have HBY:Hid (∀ W,Below w.heap.size w W->Calls Tryz.prog 71 #[.slice q.props.ao l.length q.props.cap] W (PutP (pbs l) W)):=fun W hW=>by
  have k:=rbytes_any q.props.val l place W (hP.below hW) (by omega) hok1
  rw[show q.props.val=.slice q.props.ao q.props.n q.props.cap from rfl,prp_n hP]at k
  exact k
 have HQN:=zh (prp_n hP)
 clear hP hok hok1
 go_enter Tryz.func74,Tryz.ntmps74
 go_upto_region 1 with fail
 change Code.wp _ _ _ _ (w.alloc (.cells q.cells.toArray 31))
 have hsz:(w.alloc (.cells q.cells.toArray 31)).heap.size=w.heap.size+1:=by simp
 generalize w.alloc (.cells q.cells.toArray 31)=wa at HPN HB0 hsz |-
 have b7:=(uh HPN).props
 rw[show q.props.val=.slice q.props.ao q.props.n q.props.cap from rfl,uh HQN]at b7
 have b14:=(uh HPN).code
 by_cases hl:0<l.length
 ·have HE:Hid (gtl q.code l=[q.code % 256]++pbs l):=by show _=_;unfold gtl;rw[if_pos hl]
  have HS:Hid (∀ W,Below wa.heap.size wa W->W.cell? ⟨w.heap.size,7,none⟩=some (.slice q.props.ao l.length q.props.cap)/\W.cell? ⟨w.heap.size,14,none⟩=some (.int .i64 q.code)):=fun W hW=>⟨(hW.cell (cell_lt b7)).trans b7,(hW.cell (cell_lt b14)).trans b14⟩
  go_wp2_with fail
  refine wp_region_noPanic ?_
  refine wp_region_held_drew (S:=(fun w'=>w'.cell? ⟨w.heap.size,7,none⟩=some (.slice q.props.ao l.length q.props.cap)/\w'.cell? ⟨w.heap.size,14,none⟩=some (.int .i64 q.code))) (by kernel_rfl) ((uh HS) _ (below_drewN (Below.refl _ _) 1)) (fun hHeld=>?_)
  have HBd:Hid (Below wa.heap.size wa wa.drew):=below_drewN (Below.refl _ _) 1
  have hszd:wa.drew.heap.size=w.heap.size+1:=hsz
  generalize wa.drew=wd at HBd hHeld hszd |-
  have hz:IntKind.u8.wrap q.code=q.code % 256:=by rfl
  have HRNG:∀ j,0<=([q.code % 256]:List Int).getD j 0/\([q.code % 256]:List Int).getD j 0<=255:=rng1 (by omega)
  generalize q.code % 256=z at hz HE HRNG
  clear b7 b14
  refine rtk 0 (h:=?_)
  refine rtk 1 (h:=?_)
  refine rtk 2 (h:=?_)
  refine rtk 4 (h:=?_)
  refine rtk 5 (h:=?_)
  refine wpAnyH_ready (rs:=[3,6]) (by kernel_rfl) (by simp) ?_
  refine rac (h:=fun K hK=>?_) (hs:=rac (h:=fun K hK=>?_) (hs:=AllReadyH.nil))
  ·go_simp
   have HBx:Hid (Below wa.heap.size wa (wd.alloc (.cells #[.int .u8 z] 5))):=(uh HBd).alloc (uh HBd).size _
   have HRx:Hid (Rwb (wd.alloc (.cells #[.int .u8 z] 5)) (w.heap.size+1) (.slice (some ⟨w.heap.size+1,0,none⟩) 1 1) [z]):=by
    have k:=rwb_new wd [z] (by simp) (by simp) HRNG
    rw[hszd]at k
    exact k
   refine hK.out _ _ ((uh HS) _ (uh HBx)) (fun hHeld=>?_)
   clear hK K
   generalize wd.alloc (.cells #[.int .u8 z] 5)=w1 at HBx HRx hHeld |-
   refine rcl 6 (h:=fun K hK=>?_)
   go_simp
   refine ((uh HBY) _ (bnx2 (uh HB0) (uh HBx))).mono ?_
   rintro e w2 ⟨vb,rfl,hy2,hb2⟩
   have HB2:Hid (Below wa.heap.size wa w2):=bnx2 (uh HBx) hb2
   have HR2:=zh ((uh HRx).below hb2)
   have HY2:=hy2
   clear hb2 hy2 HBx HRx
   refine hK.out _ _ ((uh HS) _ (uh HB2)) (fun hHeld=>?_)
   clear hK K
   refine rcl 7 (h:=fun K hK=>?_)
   refine step_append_byt rfl _ _ rfl (w.heap.size+1) (.slice (some ⟨w.heap.size+1,0,none⟩) 1 1) 1 [z] rfl (uh HR2).1 vb (pbs l) rfl (uh HY2) (by first|omega|(simp;omega)) (by have:=(uh HB2).size;omega) ?_
   intro v3 w3 hown3 hg3
   have HB3:Hid (Below wa.heap.size wa w3):=(uh HB2).grown hg3 (uh HB2).size (fun g hg=>by have:=owns_blk (uh HR2).1 g hg;omega)
   have HR3:Hid (Rwb w3 (w.heap.size+1) v3 ([z]++(pbs l))):=⟨by rw[List.length_append];exact hown3,range_app (uh HR2).2 (uh HY2).range⟩
   clear hown3 hg3
   refine hK.out _ _ ((uh HS) _ (uh HB3)) (fun hHeld=>?_)
   clear hK K
   simp only[sp]
   refine rtk 8 (h:=?_)
   refine wpAnyH_done (by kernel_rfl) ?_ _
   refine NoPanic.normal ?_
   go_wp2
   go_ret
   exact⟨_,rfl,by rw[uh HE];exact (uh HR3).mono (by omega),(uh HB0).trans ((uh HB3).mono (uh HB0).size)⟩
  ·go_simp
   refine ((uh HBY) _ (bnx2 (uh HB0) (uh HBd))).mono ?_
   rintro e w1 ⟨vb,rfl,hy1,hb1⟩
   have HB1:Hid (Below wa.heap.size wa w1):=bnx2 (uh HBd) hb1
   refine hK.out _ _ ((uh HS) _ (uh HB1)) (fun hHeld=>?_)
   clear hK K
   refine rcl 3 (h:=fun K hK=>?_)
   go_simp
   have HB2:Hid (Below wa.heap.size wa (w1.alloc (.cells #[.int .u8 z] 5))):=(uh HB1).alloc (uh HB1).size _
   have hz1:=(uh HB1).size
   have HR2:Hid (Rwb (w1.alloc (.cells #[.int .u8 z] 5)) (w.heap.size+1) (.slice (some ⟨w1.heap.size,0,none⟩) 1 1) [z]):=(rwb_new w1 [z] (by simp) (by simp) HRNG).mono (by omega)
   have HY2:=zh ((uh hy1).below ((Below.refl _ _).alloc (Nat.le_refl _) (.cells #[.int .u8 z] 5)))
   refine hK.out _ _ ((uh HS) _ (uh HB2)) (fun hHeld=>?_)
   clear hK K hb1 hy1
   generalize w1.alloc (.cells #[.int .u8 z] 5)=w2 at HB2 HR2 HY2 hHeld |-
   refine rcl 7 (h:=fun K hK=>?_)
   refine step_append_byt rfl _ _ rfl (w.heap.size+1) (.slice (some ⟨w1.heap.size,0,none⟩) 1 1) 1 [z] rfl (uh HR2).1 vb (pbs l) rfl (uh HY2) (by first|omega|(simp;omega)) (by have:=(uh HB2).size;omega) ?_
   intro v3 w3 hown3 hg3
   have HB3:Hid (Below wa.heap.size wa w3):=(uh HB2).grown hg3 (uh HB2).size (fun g hg=>by have:=owns_blk (uh HR2).1 g hg;omega)
   have HR3:Hid (Rwb w3 (w.heap.size+1) v3 ([z]++(pbs l))):=⟨by rw[List.length_append];exact hown3,range_app (uh HR2).2 (uh HY2).range⟩
   clear hown3 hg3
   refine hK.out _ _ ((uh HS) _ (uh HB3)) (fun hHeld=>?_)
   clear hK K
   simp only[sp]
   refine rtk 8 (h:=?_)
   refine wpAnyH_done (by kernel_rfl) ?_ _
   refine NoPanic.normal ?_
   go_wp2
   go_ret
   exact⟨_,rfl,by rw[uh HE];exact (uh HR3).mono (by omega),(uh HB0).trans ((uh HB3).mono (uh HB0).size)⟩
 ·have h0:l.length=0:=by omega
  rw[h0]at b7
  by_cases hc:q.code=0
  ·have HE:Hid (gtl q.code l=[]):=by show _=_;unfold gtl;rw[if_neg hl,if_pos hc]
   rw[hc]at b14
   clear hl hc h0
   go_wp2
   go_ret
   exact⟨_,rfl,by rw[uh HE];exact Rwb.nil _ _,uh HB0⟩
  ·have HE:Hid (gtl q.code l=[q.code % 256]):=by show _=_;unfold gtl;rw[if_neg hl,if_neg hc]
   have hcb:(q.code != 0)=true:=by simpa using hc
   have HRx:Hid (Rwb (wa.alloc (.cells #[.int .u8 (q.code % 256)] 5)) (w.heap.size+1) (.slice (some ⟨w.heap.size+1,0,none⟩) 1 1) [q.code % 256]):=by
    have k:=rwb_new wa [q.code % 256] (by simp) (by simp) (rng1 (by omega))
    rw[hsz]at k
    exact k
   have HBx:Hid (Below w.heap.size w (wa.alloc (.cells #[.int .u8 (q.code % 256)] 5))):=(uh HB0).alloc (uh HB0).size _
   clear hl hc h0
   go_wp2
   go_ret
   exact⟨_,rfl,by rw[uh HE];exact (uh HRx).mono (Nat.le_succ _),uh HBx⟩
theorem Pk.grow2 {w w':World} {B:Nat} {q:Pkv} {row:Option Nat} (h:Pk w B q) (hg:w.grownBy w' row) (hr:some B≠row):Pk w' B q:=fun j hj=>by
 have hb:=hg.block B (cell_lt h.kind) hr
 exact⟨(World.cell?_of_block hb).trans (h j hj).1,(World.frozen?_of_block hb).trans (h j hj).2⟩
theorem Rwb.more {w w':World} {B:Nat} {v v':Value} {l m:List Int} (h:Rwb w B v l) (hm:∀ j,0<=m.getD j 0/\m.getD j 0<=255) (ho:w'.ownsRow B 5 1 v' (l.length+m.length) (l.map (Value.int .u8)++m.map (Value.int .u8))):Rwb w' B v' (l++m):=⟨by rw[List.length_append,List.map_append];exact ho,range_app h.2 hm⟩
theorem Rwb.off {w:World} {B:Nat} {v:Value} {l:List Int} (h:Rwb w (B+1) v l):some B≠v.ownBlock:=fun e=>by have:=owns_blk h.1 B e.symm;omega
theorem below_grown {w0 w w':World} {v:Value} {l:List Int} (h:Below w0.heap.size w0 w) (hr:Rwb w (w0.heap.size+1) v l) (hg:w.grownBy w' v.ownBlock):Below w0.heap.size w0 w':=h.grown hg h.size (fun g e=>by have:=owns_blk hr.1 g e;omega)
def gfl (kind:Int) (dup:Bool) (qos:Int) (retain:Bool):Int:=if kind=6\/kind=8\/kind=10 then 2 else if kind=3 then fv dup 8+2*qos+fv retain 1 else 0
theorem bnx3 {w a b:World} (h:Below w.heap.size w a) (h2:Below a.heap.size a b):Below w.heap.size w b:=h.trans (h2.mono h.size)
theorem fv_range (b:Bool) (n:Int) (h:0<=n):0<=fv b n/\fv b n<=n:=by unfold fv;split<;>omega
theorem gflags_any (q:Pkv) (w:World) (hq:0<=q.qos/\q.qos<=2\/q.kind≠3):Calls Tryz.prog 29 #[q.val] w fun e w'=>e=.returned (.int .i64 (gfl q.kind q.dup q.qos q.retain))/\Below w.heap.size w w':=by
 have HPN:=zh (pk_new w q)
 have HB0:Hid (Below w.heap.size w (w.alloc (.cells q.cells.toArray 31))):=bal _ _
 by_cases k6:q.kind=6\/q.kind=8\/q.kind=10
 ·have HE:Hid (gfl q.kind q.dup q.qos q.retain=2):=by show _=_;unfold gfl;rw[if_pos k6]
  clear hq
  go_enter Tryz.func29,Tryz.ntmps29
  go_upto_region 1 with fail
  change Code.wp _ _ _ _ (w.alloc (.cells q.cells.toArray 31))
  generalize w.alloc (.cells q.cells.toArray 31)=wa at HPN HB0 |-
  have b0:=(uh HPN).kind
  rcases k6 with k|k|k<;>rw[k]at b0<;>clear k
  all_goals (
   go_wp2
   go_ret
   exact⟨by rw[uh HE];rfl,uh HB0⟩)
 ·by_cases k3:q.kind=3
  ·have hq2:0<=q.qos/\q.qos<=2:=by omega
   have HE:Hid (gfl q.kind q.dup q.qos q.retain=fv q.dup 8+2*q.qos+fv q.retain 1):=by show _=_;unfold gfl;rw[if_neg k6,if_pos k3]
   have r1:=fv_range q.dup 8 (by decide)
   have r2:=fv_range q.retain 1 (by decide)
   have HW:Hid (IntKind.i64.wrap (IntKind.i64.wrap (fv q.dup 8+IntKind.i64.wrap (2*q.qos))+fv q.retain 1)=fv q.dup 8+2*q.qos+fv q.retain 1):=by show _=_;rw[IntKind.wrap_i64,IntKind.wrap_i64,IntKind.wrap_i64];omega
   have HK3:=zh k3
   clear k3 k6 hq
   go_enter Tryz.func29,Tryz.ntmps29
   go_upto_region 1 with fail
   change Code.wp _ _ _ _ (w.alloc (.cells q.cells.toArray 31))
   generalize w.alloc (.cells q.cells.toArray 31)=wa at HPN HB0 |-
   have b0:=(uh HPN).kind
   rw[uh HK3]at b0
   go_wp2_with fail
   have HS:Hid (∀ W,Below wa.heap.size wa W->W.cell? ⟨w.heap.size,1,none⟩=some (.bool q.dup)/\W.cell? ⟨w.heap.size,2,none⟩=some (.int .i64 q.qos)/\W.cell? ⟨w.heap.size,3,none⟩=some (.bool q.retain)):=fun W hW=>⟨((uh HPN).below hW).dup,((uh HPN).below hW).qos,((uh HPN).below hW).retain⟩
   refine wp_region_noPanic ?_
   refine wp_region_held_drew (S:=(fun w'=>w'.cell? ⟨w.heap.size,1,none⟩=some (.bool q.dup)/\w'.cell? ⟨w.heap.size,2,none⟩=some (.int .i64 q.qos)/\w'.cell? ⟨w.heap.size,3,none⟩=some (.bool q.retain))) (by kernel_rfl) ((uh HS) _ (below_drewN (Below.refl _ _) 1)) (fun hHeld=>?_)
   have HBd:Hid (Below wa.heap.size wa wa.drew):=below_drewN (Below.refl _ _) 1
   generalize wa.drew=wd at HBd hHeld |-
   clear b0
   refine rtk 0 (h:=?_)
   refine rtk 1 (h:=?_)
   refine rtk 3 (h:=?_)
   refine rtk 4 (h:=?_)
   refine rtk 5 (h:=?_)
   refine rtk 7 (h:=?_)
   refine rtk 8 (h:=?_)
   refine rcl 2 (h:=fun K hK=>?_)
   go_simp
   refine (gflag_any q.dup 8 _).mono ?_
   rintro e w1 ⟨rfl,hw1⟩
   obtain rfl:=hw1.symm
   clear hw1
   refine hK.out _ _ hHeld (fun hHeld=>?_)
   clear hK K
   refine rtk 6 (h:=?_)
   refine rcl 9 (h:=fun K hK=>?_)
   go_simp
   refine (gflag_any q.retain 1 _).mono ?_
   rintro e w2 ⟨rfl,hw2⟩
   obtain rfl:=hw2.symm
   clear hw2
   refine hK.out _ _ hHeld (fun hHeld=>?_)
   clear hK K
   refine rtk 10 (h:=?_)
   refine rtk 11 (h:=?_)
   refine wpAnyH_done (by kernel_rfl) ?_ _
   refine NoPanic.normal ?_
   go_wp2
   go_ret
   exact⟨by rw[uh HE,<- uh HW];rfl,bnx3 (uh HB0) (uh HBd)⟩
  ·have HE:Hid (gfl q.kind q.dup q.qos q.retain=0):=by show _=_;unfold gfl;rw[if_neg k6,if_neg k3]
   have j3:=beq_false_of_ne k3
   have j6:(q.kind==6)=false:=beq_false_of_ne (fun e=>k6 (.inl e))
   have j8:(q.kind==8)=false:=beq_false_of_ne (fun e=>k6 (.inr (.inl e)))
   have j10:(q.kind==10)=false:=beq_false_of_ne (fun e=>k6 (.inr (.inr e)))
   clear k3 k6 hq
   go_enter Tryz.func29,Tryz.ntmps29
   go_upto_region 1 with fail
   change Code.wp _ _ _ _ (w.alloc (.cells q.cells.toArray 31))
   generalize w.alloc (.cells q.cells.toArray 31)=wa at HPN HB0 |-
   have b0:=(uh HPN).kind
   go_wp2
   go_ret
   exact⟨by rw[uh HE];rfl,uh HB0⟩
def gopt (s:Sb):Int:=s.qos+fv s.nolocal 4+fv s.aspub 8+16*s.handling
def gsub (s:Sb):List Int:=tx s.filter++[gopt s % 256]
def gcod (c:Int):List Int:=[c % 256]
def sbc (s:Sb):Array Value:=#[.string s.filter,.int .i64 s.qos,.bool s.nolocal,.bool s.aspub,.int .i64 s.handling]
structure SBx (w:World) (g:Nat) (s:Sb):Prop where
 c0:w.cell? ⟨g,0,none⟩=some (.string s.filter)
 c1:w.cell? ⟨g,1,none⟩=some (.int .i64 s.qos)
 c2:w.cell? ⟨g,2,none⟩=some (.bool s.nolocal)
 c3:w.cell? ⟨g,3,none⟩=some (.bool s.aspub)
 c4:w.cell? ⟨g,4,none⟩=some (.int .i64 s.handling)
 blk:w.heap[g]?=some (.cells (sbc s) 93)
def gwl (u:Wl):List Int:=(pbs u.props++tx u.topic)++tx u.payload
def gwf (us:List Wl):Int:=match us with
 | []=>0
 | u::_=>fv u.retain 32+8*u.qos+4
def gcf (nu np:Nat) (clean:Bool):Int:=fv (decide (0<nu)) 128+fv (decide (0<np)) 64+fv clean 2
def gmq:ByteArray:=⟨#[77,81,84,84]⟩
theorem gcf_range (nu np:Nat) (clean:Bool):0<=gcf nu np clean/\gcf nu np clean<=194:=by
 have r1:=fv_range (decide (0<nu)) 128 (by omega)
 have r2:=fv_range (decide (0<np)) 64 (by omega)
 have r3:=fv_range clean 2 (by omega)
 unfold gcf
 omega
theorem gcf_wrap {F x:Int} {b:Bool} (hF:0<=F/\F<=194) (h1:0<=x) (h2:x<=2):IntKind.i64.wrap (IntKind.i64.wrap (IntKind.i64.wrap (F+fv b 32)+IntKind.i64.wrap (8*x))+4)=F+(fv b 32+8*x+4):=by
 have r1:=fv_range b 32 (by omega)
 generalize fv b 32=y at r1 |-
 simp[IntKind.wrap,IntKind.bits,IntKind.signed]
 omega
theorem gwf_one {us:List Wl} (h:us.length=1):gwf us=fv (us.getD 0 wl0).retain 32+8*(us.getD 0 wl0).qos+4:=by
 match us,h with
 | [u],_=>rfl
theorem flat_one {α:Type} (f:α->List Int) {l:List α} (d:α) (h:l.length=1):l.flatMap f=f (l.getD 0 d):=by
 match l,h with
 | [u],_=>simp
theorem flat_nil {α:Type} (f:α->List Int) {l:List α} (h:l.length=0):l.flatMap f=[]:=by
 rw[List.length_eq_zero_iff.1 h];rfl
def wlc (a b:ByteArray) (n:Int) (r:Bool) (v:Value):Array Value:=#[.string a,.string b,.int .i64 n,.bool r,v]
def wlz:Array Value:=wlc ⟨#[]⟩ ⟨#[]⟩ 0 false (.slice none 0 0)
theorem will_size:(Tryz.prog.info? 90).map (·.size)=some 5:=by kernel_rfl
theorem gwill_alloc (ρ:Operand->Value) (dst:Option Tmp) (ty:TypeId) (pos:String) (after:Array Edge) (w:World) :
  (execOp ρ ⟨dst,.alloc 90,ty,pos,after,none⟩).run Tryz.prog w=.ok (.value (.pointer (some ⟨w.heap.size,0,none⟩))) (w.alloc (.cells wlz 90)):=by
 kernel_rfl
theorem gwill_store (a:Act) (dst:Option Tmp) (x y:Operand) (ty:TypeId) (pos:String) (after:Array Edge) (t p:ByteArray) (n:Int) (r:Bool) (ao:Option Addr) (k cap:Nat) (w:World) (hx:a.eval x=.pointer (some ⟨w.heap.size,0,none⟩)) (hy:a.eval y=.agg (wlc t p n r (.slice ao k cap))) :
  (execOp a.eval ⟨dst,.store 90 x y,ty,pos,after,none⟩).run Tryz.prog (w.alloc (.cells wlz 90))=.ok .skip (w.alloc (.cells (wlc t p n r (.slice ao k cap)) 90)):=by
 show Sem.run Tryz.prog (do Instr.storeAt 90 (a.eval x) (a.eval y);pure Next.skip) _=_
 rw[hx,hy]
 simp only[Sem.run_bind]
 rw[run_storeAt_new w 90 wlz (wlc t p n r (.slice ao k cap)) (by rw[will_size];rfl) rfl (by simp[wlc,Value.oneCell'])]
 rfl
structure WBx (w:World) (g:Nat) (t p:ByteArray) (n:Int) (r:Bool) (v:Value):Prop where
 c0:w.cell? ⟨g,0,none⟩=some (.string t)
 c1:w.cell? ⟨g,1,none⟩=some (.string p)
 c4:w.cell? ⟨g,4,none⟩=some v
 blk:w.heap[g]?=some (.cells (wlc t p n r v) 90)
theorem WBx.of {w:World} {g:Nat} {t p:ByteArray} {n:Int} {r:Bool} {v:Value} (h:w.heap[g]?=some (.cells (wlc t p n r v) 90)):WBx w g t p n r v:=by
 constructor
 all_goals first|exact h|(simp[World.cell?,h,wlc])
theorem wbx_new (w:World) (t p:ByteArray) (n:Int) (r:Bool) (v:Value):WBx (w.alloc (.cells (wlc t p n r v) 90)) w.heap.size t p n r v:=.of (heap_alloc_new _ _)
theorem WBx.lt {w:World} {g:Nat} {t p:ByteArray} {n:Int} {r:Bool} {v:Value} (h:WBx w g t p n r v):g<w.heap.size:=(Array.getElem?_eq_some_iff.1 h.blk).1
theorem WBx.below {w w':World} {g:Nat} {t p:ByteArray} {n:Int} {r:Bool} {v:Value} (h:WBx w g t p n r v) (hb:Below w.heap.size w w'):WBx w' g t p n r v:=.of ((hb.block g h.lt).trans h.blk)
theorem WBx.grow {w w':World} {g:Nat} {t p:ByteArray} {n:Int} {r:Bool} {v:Value} {row:Option Nat} (h:WBx w g t p n r v) (hg:w.grownBy w' row) (hr:some g≠row):WBx w' g t p n r v:=.of ((hg.block g h.lt hr).trans h.blk)
theorem wbox_off {w:World} {B g:Nat} {v:Value} {l:List Int} {c:Array Value} (h:Rwb w B v l) (hb:w.heap[g]?=some (.cells c 90)):v.ownBlock≠some g:=fun e=>by
 rcases h.1.2 with⟨rfl,_⟩|⟨g',cap,cur,rfl,_,hg,_⟩
 ·cases e
 ·cases e
  rw[hg]at hb
  cases hb
def gcon (q:Pkv) (l:List Pr) (ws:List Wl) (us ps:List ByteArray):List Int:=((((((((tx gmq++[5])++[(gcf us.length ps.length q.clean+gwf ws) % 256])++b2 q.keep)++pbs l)++tx q.client)++ws.flatMap gwl)++us.flatMap tx)++ps.flatMap tx)
theorem prp_len {w:World} {a:Option Addr} {n c:Nat} {l:List Pr} (h:Prp w (.slice a n c) l):l.length=n:=by
 obtain⟨ao,cap,h1,_⟩:=h
 cases h1
 rfl
theorem gconn_any (q:Pkv) (l:List Pr) (w:World) (hP:Prp w q.props.val l) (hok:okP q.kind l=true) (ws:List Wl) (us ps:List ByteArray) (hW:Wls w q.wills.val ws) (hU:Txs w q.user.val us) (hA:Txs w q.pass.val ps) (nw:ws.length<=1) (nu:us.length<=1) (np:ps.length<=1) (hcl:q.client.size<=65535) (zw:∀ k,k<ws.length->(ws.getD k wl0).topic.size<=65535/\(ws.getD k wl0).payload.size<=65535/\0<=(ws.getD k wl0).qos/\(ws.getD k wl0).qos<=2/\okP 16 (ws.getD k wl0).props=true) (zu:∀ k,k<us.length->(us.getD k ⟨#[]⟩).size<=65535) (zp:∀ k,k<ps.length->(ps.getD k ⟨#[]⟩).size<=65535):Calls Tryz.prog 69 #[q.val] w (GPut (gcon q l ws us ps) w):=by
 obtain⟨ao1,cap1,hv,⟨hlc1,hcm1⟩,hx⟩:=hW
 obtain⟨m1,hm1⟩:∃ m,m=ws.length:=⟨_,rfl⟩
 rw[<- hm1]at hv hlc1 nw
 have HV1:=zh hv
 have HS1:=zh hx
 have HN1:=zh hm1.symm
 clear hv hx hm1
 obtain⟨ao2,cap2,hv,⟨hlc2,hcm2⟩,hx⟩:=hU
 obtain⟨m2,hm2⟩:∃ m,m=us.length:=⟨_,rfl⟩
 rw[<- hm2]at hv hlc2 nu
 have HV2:=zh hv
 have HS2:=zh hx
 have HN2:=zh hm2.symm
 clear hv hx hm2
 obtain⟨ao3,cap3,hv,⟨hlc3,hcm3⟩,hx⟩:=hA
 obtain⟨m3,hm3⟩:∃ m,m=ps.length:=⟨_,rfl⟩
 rw[<- hm3]at hv hlc3 np
 have HV3:=zh hv
 have HS3:=zh hx
 have HN3:=zh hm3.symm
 clear hv hx hm3
 have HZW:=zh zw
 have HZU:=zh zu
 have HZP:=zh zp
 clear zw zu zp
 obtain⟨hok1,h32⟩:=chkP0 (of_decide_eq_true hok)
 have hple:=pbs_le (of_decide_eq_true hok)
 have HPN:=zh (pk_new w q)
 have HB0:Hid (Below w.heap.size w (w.alloc (.cells q.cells.toArray 31))):=bal _ _
 have HBY:Hid (∀ W,Below w.heap.size w W->Calls Tryz.prog 71 #[.slice q.props.ao l.length q.props.cap] W (PutP (pbs l) W)):=fun W hW=>by
  have k:=rbytes_any q.props.val l q.kind W (hP.below hW) (by omega) hok1
  rw[show q.props.val=.slice q.props.ao q.props.n q.props.cap from rfl,prp_n hP]at k
  exact k
 have HQN:=zh (prp_n hP)
 clear hP hok hok1
 go_enter Tryz.func69,Tryz.ntmps69
 go_upto_region 1 with fail
 change Code.wp _ _ _ _ (w.alloc (.cells q.cells.toArray 31))
 have hsz:(w.alloc (.cells q.cells.toArray 31)).heap.size=w.heap.size+1:=by simp
 generalize w.alloc (.cells q.cells.toArray 31)=wa at HPN HB0 hsz |-
 -- cutA
 go_wp2_with fail
 refine (Go.Proofs.YtmpijpjlbhfccaaGreatDoor.bin_any gmq _ (by decide)).mono ?_
 rintro e w1 ⟨v1,rfl,hown1,hb1⟩
 have HB1:Hid (Below w.heap.size w w1):=bnx2 (uh HB0) hb1
 have HP1:=zh ((uh HPN).below hb1)
 have HR1:Hid (Rwb w1 (w.heap.size+1) v1 (tx gmq)):=⟨by rw[<- hsz,tx_length];exact uh hown1,tx_range _ (by decide)⟩
 obtain⟨va1,vn1,vc1,rfl⟩:=(uh HR1).form
 clear hown1 hb1 HPN HB0
 obtain⟨L1,HEL1⟩:∃ L:List Int,Hid (L=tx gmq):=⟨_,rfl⟩
 have nL1:L1.length<=6:=by rw[uh HEL1];rw[tx_length];decide
 rw[<- uh HEL1]at HR1
 have HG:=zh (rng1 (x:=(5:Int)) (by omega))
 have HBx:Hid (Below w.heap.size w (w1.alloc (.cells #[.int .u8 (5:Int)] 5))):=(uh HB1).alloc (uh HB1).size _
 have HRz:Hid (Rwb (w1.alloc (.cells #[.int .u8 (5:Int)] 5)) w1.heap.size (.slice (some ⟨w1.heap.size,0,none⟩) 1 1) [(5:Int)]):=rwb_new w1 [(5:Int)] (by simp) (by simp) (uh HG)
 have HPx:=zh ((uh HP1).below ((Below.refl _ _).alloc (Nat.le_refl _) (.cells #[.int .u8 (5:Int)] 5)))
 have HRx:=zh ((uh HR1).below ((Below.refl _ _).alloc (Nat.le_refl _) (.cells #[.int .u8 (5:Int)] 5)))
 have HYx:=zh (uh HRz).byt
 have hszr:=(uh HB1).size
 clear HRz HB1 HP1 HR1
 go_wp2_with (first
  | (at_builtin;refine wpList_append_byt _ rfl _ _ rfl (w.heap.size+1) (.slice va1 vn1 vc1) L1.length L1 rfl (uh HRx).1 (.slice (some ⟨w1.heap.size,0,none⟩) 1 1) [(5:Int)] rfl (uh HYx) (by first|omega|(simp;omega)) (cell_lt (uh HPx).kind) ?_)
  | go_in)
 intro v2 w2 hown hg
 have HR2:=zh ((uh HRx).more (uh HG) (by first|exact hown|(rw[<- List.map_append];exact hown)))
 have HB2:Hid (Below w.heap.size w w2):=below_grown (uh HBx) (uh HRx) hg
 have HP2:=zh ((uh HPx).grow2 hg (uh HRx).off)
 obtain⟨va2,vn2,vc2,rfl⟩:=(uh HR2).form
 clear hown hg HRx HBx HPx
 obtain⟨L2,HEL2⟩:∃ L:List Int,Hid (L=L1++[(5:Int)]):=⟨_,rfl⟩
 have nL2:L2.length<=7:=by rw[uh HEL2];rw[List.length_append];first|omega|(simp;omega)
 rw[<- uh HEL2]at HR2
 clear HYx HG hszr
 -- cutB
 obtain⟨F,HF⟩:∃ F,Hid (F=gcf m2 m3 q.clean):=⟨_,rfl⟩
 have hFr:0<=F/\F<=194:=by rw[uh HF];exact gcf_range _ _ _
 have b12:=(uh HP2).user
 have b13:=(uh HP2).pass
 rw[uh HV2]at b12
 rw[uh HV3]at b13
 go_upto_region 2 with fail
 go_cut [4] from 6 (fun s4 wx=>s4=.int .i64 F/\Hid (Rwb wx (w.heap.size+1) (.slice va2 vn2 vc2) L2)/\Hid (Below w.heap.size w wx)/\Hid (Pk wx w.heap.size q))
 case first =>
  obtain rfl|rfl:m2=0\/m2=1:=by omega
  ·obtain rfl|rfl:m3=0\/m3=1:=by omega
   ·have HS:Hid (∀ W,Below w2.heap.size w2 W->(fun w'=>w'.cell? ⟨w.heap.size,12,none⟩=some (.slice ao2 0 cap2)/\w'.cell? ⟨w.heap.size,13,none⟩=some (.slice ao3 0 cap3)/\w'.cell? ⟨w.heap.size,9,none⟩=some (.bool q.clean)) W):=fun W hW=>⟨(hW.cell (cell_lt b12)).trans b12,(hW.cell (cell_lt b13)).trans b13,((uh HP2).below hW).clean⟩
    refine wp_region_noPanic ?_
    have hbd:Below w2.heap.size w2 w2.drew:=below_drewN (Below.refl _ _) 1
    refine wp_region_held_drew (S:=(fun w'=>w'.cell? ⟨w.heap.size,12,none⟩=some (.slice ao2 0 cap2)/\w'.cell? ⟨w.heap.size,13,none⟩=some (.slice ao3 0 cap3)/\w'.cell? ⟨w.heap.size,9,none⟩=some (.bool q.clean))) (by kernel_rfl) ((uh HS) _ hbd) (fun hHeld=>?_)
    have HRd:=zh ((uh HR2).below hbd)
    have HPd:=zh ((uh HP2).below hbd)
    have HBB:=zh (bnx2 (uh HB2) hbd)
    generalize w2.drew=wd at HRd HPd HBB hHeld |-
    clear hbd HR2 HP2 HB2 HS b12 b13
    refine rtk 0 (h:=?_)
    refine rtk 1 (h:=?_)
    refine rtk 2 (h:=?_)
    refine rtk 3 (h:=?_)
    refine rtk 5 (h:=?_)
    refine rtk 6 (h:=?_)
    refine rtk 7 (h:=?_)
    refine rtk 8 (h:=?_)
    refine rtk 11 (h:=?_)
    refine rtk 12 (h:=?_)
    refine rcl 4 (h:=fun K hK=>?_)
    go_simp
    refine (gflag_any false 128 _).mono ?_
    rintro e w0 ⟨rfl,hw0⟩
    obtain rfl:=hw0.symm
    clear hw0
    refine hK.out _ _ hHeld (fun hHeld=>?_)
    clear hK K
    refine rcl 9 (h:=fun K hK=>?_)
    go_simp
    refine (gflag_any false 64 _).mono ?_
    rintro e w0 ⟨rfl,hw0⟩
    obtain rfl:=hw0.symm
    clear hw0
    refine hK.out _ _ hHeld (fun hHeld=>?_)
    clear hK K
    refine rtk 10 (h:=?_)
    refine rcl 13 (h:=fun K hK=>?_)
    go_simp
    refine (gflag_any q.clean 2 _).mono ?_
    rintro e w0 ⟨rfl,hw0⟩
    obtain rfl:=hw0.symm
    clear hw0
    refine hK.out _ _ hHeld (fun hHeld=>?_)
    clear hK K
    refine rtk 14 (h:=?_)
    refine rtk 15 (h:=?_)
    refine wpAnyH_done (by kernel_rfl) ?_ _
    refine NoPanic.normal ?_
    go_wp2
    go_meet
    case rel=>exact⟨by rw[uh HF];unfold gcf;generalize q.clean=cb;cases cb<;>rfl,HRd,HBB,HPd⟩
   ·have HS:Hid (∀ W,Below w2.heap.size w2 W->(fun w'=>w'.cell? ⟨w.heap.size,12,none⟩=some (.slice ao2 0 cap2)/\w'.cell? ⟨w.heap.size,13,none⟩=some (.slice ao3 1 cap3)/\w'.cell? ⟨w.heap.size,9,none⟩=some (.bool q.clean)) W):=fun W hW=>⟨(hW.cell (cell_lt b12)).trans b12,(hW.cell (cell_lt b13)).trans b13,((uh HP2).below hW).clean⟩
    refine wp_region_noPanic ?_
    have hbd:Below w2.heap.size w2 w2.drew:=below_drewN (Below.refl _ _) 1
    refine wp_region_held_drew (S:=(fun w'=>w'.cell? ⟨w.heap.size,12,none⟩=some (.slice ao2 0 cap2)/\w'.cell? ⟨w.heap.size,13,none⟩=some (.slice ao3 1 cap3)/\w'.cell? ⟨w.heap.size,9,none⟩=some (.bool q.clean))) (by kernel_rfl) ((uh HS) _ hbd) (fun hHeld=>?_)
    have HRd:=zh ((uh HR2).below hbd)
    have HPd:=zh ((uh HP2).below hbd)
    have HBB:=zh (bnx2 (uh HB2) hbd)
    generalize w2.drew=wd at HRd HPd HBB hHeld |-
    clear hbd HR2 HP2 HB2 HS b12 b13
    refine rtk 0 (h:=?_)
    refine rtk 1 (h:=?_)
    refine rtk 2 (h:=?_)
    refine rtk 3 (h:=?_)
    refine rtk 5 (h:=?_)
    refine rtk 6 (h:=?_)
    refine rtk 7 (h:=?_)
    refine rtk 8 (h:=?_)
    refine rtk 11 (h:=?_)
    refine rtk 12 (h:=?_)
    refine rcl 4 (h:=fun K hK=>?_)
    go_simp
    refine (gflag_any false 128 _).mono ?_
    rintro e w0 ⟨rfl,hw0⟩
    obtain rfl:=hw0.symm
    clear hw0
    refine hK.out _ _ hHeld (fun hHeld=>?_)
    clear hK K
    refine rcl 9 (h:=fun K hK=>?_)
    go_simp
    refine (gflag_any true 64 _).mono ?_
    rintro e w0 ⟨rfl,hw0⟩
    obtain rfl:=hw0.symm
    clear hw0
    refine hK.out _ _ hHeld (fun hHeld=>?_)
    clear hK K
    refine rtk 10 (h:=?_)
    refine rcl 13 (h:=fun K hK=>?_)
    go_simp
    refine (gflag_any q.clean 2 _).mono ?_
    rintro e w0 ⟨rfl,hw0⟩
    obtain rfl:=hw0.symm
    clear hw0
    refine hK.out _ _ hHeld (fun hHeld=>?_)
    clear hK K
    refine rtk 14 (h:=?_)
    refine rtk 15 (h:=?_)
    refine wpAnyH_done (by kernel_rfl) ?_ _
    refine NoPanic.normal ?_
    go_wp2
    go_meet
    case rel=>exact⟨by rw[uh HF];unfold gcf;generalize q.clean=cb;cases cb<;>rfl,HRd,HBB,HPd⟩
  ·obtain rfl|rfl:m3=0\/m3=1:=by omega
   ·have HS:Hid (∀ W,Below w2.heap.size w2 W->(fun w'=>w'.cell? ⟨w.heap.size,12,none⟩=some (.slice ao2 1 cap2)/\w'.cell? ⟨w.heap.size,13,none⟩=some (.slice ao3 0 cap3)/\w'.cell? ⟨w.heap.size,9,none⟩=some (.bool q.clean)) W):=fun W hW=>⟨(hW.cell (cell_lt b12)).trans b12,(hW.cell (cell_lt b13)).trans b13,((uh HP2).below hW).clean⟩
    refine wp_region_noPanic ?_
    have hbd:Below w2.heap.size w2 w2.drew:=below_drewN (Below.refl _ _) 1
    refine wp_region_held_drew (S:=(fun w'=>w'.cell? ⟨w.heap.size,12,none⟩=some (.slice ao2 1 cap2)/\w'.cell? ⟨w.heap.size,13,none⟩=some (.slice ao3 0 cap3)/\w'.cell? ⟨w.heap.size,9,none⟩=some (.bool q.clean))) (by kernel_rfl) ((uh HS) _ hbd) (fun hHeld=>?_)
    have HRd:=zh ((uh HR2).below hbd)
    have HPd:=zh ((uh HP2).below hbd)
    have HBB:=zh (bnx2 (uh HB2) hbd)
    generalize w2.drew=wd at HRd HPd HBB hHeld |-
    clear hbd HR2 HP2 HB2 HS b12 b13
    refine rtk 0 (h:=?_)
    refine rtk 1 (h:=?_)
    refine rtk 2 (h:=?_)
    refine rtk 3 (h:=?_)
    refine rtk 5 (h:=?_)
    refine rtk 6 (h:=?_)
    refine rtk 7 (h:=?_)
    refine rtk 8 (h:=?_)
    refine rtk 11 (h:=?_)
    refine rtk 12 (h:=?_)
    refine rcl 4 (h:=fun K hK=>?_)
    go_simp
    refine (gflag_any true 128 _).mono ?_
    rintro e w0 ⟨rfl,hw0⟩
    obtain rfl:=hw0.symm
    clear hw0
    refine hK.out _ _ hHeld (fun hHeld=>?_)
    clear hK K
    refine rcl 9 (h:=fun K hK=>?_)
    go_simp
    refine (gflag_any false 64 _).mono ?_
    rintro e w0 ⟨rfl,hw0⟩
    obtain rfl:=hw0.symm
    clear hw0
    refine hK.out _ _ hHeld (fun hHeld=>?_)
    clear hK K
    refine rtk 10 (h:=?_)
    refine rcl 13 (h:=fun K hK=>?_)
    go_simp
    refine (gflag_any q.clean 2 _).mono ?_
    rintro e w0 ⟨rfl,hw0⟩
    obtain rfl:=hw0.symm
    clear hw0
    refine hK.out _ _ hHeld (fun hHeld=>?_)
    clear hK K
    refine rtk 14 (h:=?_)
    refine rtk 15 (h:=?_)
    refine wpAnyH_done (by kernel_rfl) ?_ _
    refine NoPanic.normal ?_
    go_wp2
    go_meet
    case rel=>exact⟨by rw[uh HF];unfold gcf;generalize q.clean=cb;cases cb<;>rfl,HRd,HBB,HPd⟩
   ·have HS:Hid (∀ W,Below w2.heap.size w2 W->(fun w'=>w'.cell? ⟨w.heap.size,12,none⟩=some (.slice ao2 1 cap2)/\w'.cell? ⟨w.heap.size,13,none⟩=some (.slice ao3 1 cap3)/\w'.cell? ⟨w.heap.size,9,none⟩=some (.bool q.clean)) W):=fun W hW=>⟨(hW.cell (cell_lt b12)).trans b12,(hW.cell (cell_lt b13)).trans b13,((uh HP2).below hW).clean⟩
    refine wp_region_noPanic ?_
    have hbd:Below w2.heap.size w2 w2.drew:=below_drewN (Below.refl _ _) 1
    refine wp_region_held_drew (S:=(fun w'=>w'.cell? ⟨w.heap.size,12,none⟩=some (.slice ao2 1 cap2)/\w'.cell? ⟨w.heap.size,13,none⟩=some (.slice ao3 1 cap3)/\w'.cell? ⟨w.heap.size,9,none⟩=some (.bool q.clean))) (by kernel_rfl) ((uh HS) _ hbd) (fun hHeld=>?_)
    have HRd:=zh ((uh HR2).below hbd)
    have HPd:=zh ((uh HP2).below hbd)
    have HBB:=zh (bnx2 (uh HB2) hbd)
    generalize w2.drew=wd at HRd HPd HBB hHeld |-
    clear hbd HR2 HP2 HB2 HS b12 b13
    refine rtk 0 (h:=?_)
    refine rtk 1 (h:=?_)
    refine rtk 2 (h:=?_)
    refine rtk 3 (h:=?_)
    refine rtk 5 (h:=?_)
    refine rtk 6 (h:=?_)
    refine rtk 7 (h:=?_)
    refine rtk 8 (h:=?_)
    refine rtk 11 (h:=?_)
    refine rtk 12 (h:=?_)
    refine rcl 4 (h:=fun K hK=>?_)
    go_simp
    refine (gflag_any true 128 _).mono ?_
    rintro e w0 ⟨rfl,hw0⟩
    obtain rfl:=hw0.symm
    clear hw0
    refine hK.out _ _ hHeld (fun hHeld=>?_)
    clear hK K
    refine rcl 9 (h:=fun K hK=>?_)
    go_simp
    refine (gflag_any true 64 _).mono ?_
    rintro e w0 ⟨rfl,hw0⟩
    obtain rfl:=hw0.symm
    clear hw0
    refine hK.out _ _ hHeld (fun hHeld=>?_)
    clear hK K
    refine rtk 10 (h:=?_)
    refine rcl 13 (h:=fun K hK=>?_)
    go_simp
    refine (gflag_any q.clean 2 _).mono ?_
    rintro e w0 ⟨rfl,hw0⟩
    obtain rfl:=hw0.symm
    clear hw0
    refine hK.out _ _ hHeld (fun hHeld=>?_)
    clear hK K
    refine rtk 14 (h:=?_)
    refine rtk 15 (h:=?_)
    refine wpAnyH_done (by kernel_rfl) ?_ _
    refine NoPanic.normal ?_
    go_wp2
    go_meet
    case rel=>exact⟨by rw[uh HF];unfold gcf;generalize q.clean=cb;cases cb<;>rfl,HRd,HBB,HPd⟩
 case rest =>
 clear HR2 HB2 HP2 b12 b13
 obtain⟨rfl,HR3,HB3,HP3⟩:=hcut
 obtain⟨w3,hw3⟩:∃ x,x=wc:=⟨_,rfl⟩
 subst hw3
 -- cutC
 obtain⟨F2,HF2⟩:∃ G,Hid (G=F+gwf ws):=⟨_,rfl⟩
 have b11:=(uh HP3).wills
 rw[uh HV1]at b11
 go_upto_if 27 with fail
 go_cut [4] from 6 (fun s4 wx=>s4=.int .i64 F2/\Hid (Rwb wx (w.heap.size+1) (.slice va2 vn2 vc2) L2)/\Hid (Below w.heap.size w wx)/\Hid (Pk wx w.heap.size q))
 case first =>
  obtain rfl|rfl:m1=0\/m1=1:=by omega
  ·have HE0:Hid (gwf ws=0):=by show _=_;rw[List.length_eq_zero_iff.1 (uh HN1)];rfl
   go_wp2
   go_meet
   case rel=>exact⟨by rw[uh HF2,uh HE0,Int.add_zero],HR3,HB3,HP3⟩
  ·have h0l:0<ws.length:=by rw[uh HN1];omega
   obtain⟨b,off,hao,hat⟩:∃ b off,ao1=some ⟨b,off,none⟩/\WlAt w b off ws:=by
    rcases uh HS1 with e|k
    ·rw[e]at h0l;simp at h0l
    ·exact k
   rw[hao]at b11
   have hat:=hat 0 h0l
   have hzz:=(uh HZW) 0 h0l
   have HAO:=zh hao
   obtain⟨po,pn,pc,⟨d0,d1,d2,d3,d4⟩,hpr,hpn⟩:=hat
   simp only[Nat.zero_mul,Nat.add_zero]at d0 d1 d2 d3 d4
   have hbl:b<w.heap.size:=cell_lt d0
   have HE1:=zh (gwf_one (uh HN1))
   obtain⟨-,-,hq0,hq2,-⟩:=hzz
   generalize (ws.getD 0 wl0).retain=rt at d3 HE1
   generalize (ws.getD 0 wl0).qos=qs at d2 HE1 hq0 hq2
   have HS:Hid (∀ W,Below w3.heap.size w3 W->(fun w'=>w'.cell? ⟨w.heap.size,11,none⟩=some (.slice (some ⟨b,off,none⟩) 1 cap1)/\w'.cell? ⟨b,off+3,none⟩=some (.bool rt)/\w'.cell? ⟨b,off+2,none⟩=some (.int .i64 qs)) W):=fun W hW=>⟨(hW.cell (cell_lt b11)).trans b11,((bnx2 (uh HB3) hW).cell hbl).trans d3,((bnx2 (uh HB3) hW).cell hbl).trans d2⟩
   clear d0 d1 d2 d3 d4 hpr hpn h0l
   go_wp2_with fail
   refine wp_region_noPanic ?_
   have hbd:Below w3.heap.size w3 w3.drew:=below_drewN (Below.refl _ _) 1
   refine wp_region_held_drew (S:=(fun w'=>w'.cell? ⟨w.heap.size,11,none⟩=some (.slice (some ⟨b,off,none⟩) 1 cap1)/\w'.cell? ⟨b,off+3,none⟩=some (.bool rt)/\w'.cell? ⟨b,off+2,none⟩=some (.int .i64 qs))) (by kernel_rfl) ((uh HS) _ hbd) (fun hHeld=>?_)
   have HRd:=zh ((uh HR3).below hbd)
   have HPd:=zh ((uh HP3).below hbd)
   have HBB:=zh (bnx2 (uh HB3) hbd)
   generalize w3.drew=wd at HRd HPd HBB hHeld |-
   clear hbd HR3 HP3 HB3 HS b11
   refine rtk 0 (h:=?_)
   refine rtk 1 (h:=?_)
   refine rtk 2 (h:=?_)
   refine rtk 3 (h:=?_)
   refine rtk 4 (h:=?_)
   refine rtk 5 (h:=?_)
   refine rtk 8 (h:=?_)
   refine rtk 9 (h:=?_)
   refine rtk 10 (h:=?_)
   refine rtk 11 (h:=?_)
   refine rtk 12 (h:=?_)
   refine rtk 13 (h:=?_)
   refine rcl 6 (h:=fun K hK=>?_)
   go_simp
   refine (gflag_any rt 32 _).mono ?_
   rintro e w0 ⟨rfl,hw0⟩
   obtain rfl:=hw0.symm
   clear hw0
   refine hK.out _ _ hHeld (fun hHeld=>?_)
   clear hK K
   refine rtk 7 (h:=?_)
   refine rtk 14 (h:=?_)
   refine rtk 15 (h:=?_)
   refine rtk 16 (h:=?_)
   refine wpAnyH_done (by kernel_rfl) ?_ _
   refine NoPanic.normal ?_
   go_wp2
   go_meet
   case rel=>exact⟨by rw[uh HF2,uh HE1,<- gcf_wrap hFr hq0 hq2],HRd,HBB,HPd⟩
 case rest =>
 clear HR3 HB3 HP3 b11
 obtain⟨rfl,HR4,HB4,HP4⟩:=hcut
 obtain⟨w4,hw4⟩:∃ x,x=wc:=⟨_,rfl⟩
 subst hw4
 -- cutD
 have hz:IntKind.u8.wrap F2=F2 % 256:=by rfl
 obtain⟨z,hzz⟩:∃ z,z=F2 % 256:=⟨_,rfl⟩
 have hzr:0<=z/\z<=255:=by omega
 rw[<- hzz]at hz
 have HZ:=zh hzz
 clear hzz
 have HG:=zh (rng1 (x:=z) (by omega))
 have HBx:Hid (Below w.heap.size w (w4.alloc (.cells #[.int .u8 z] 5))):=(uh HB4).alloc (uh HB4).size _
 have HRz:Hid (Rwb (w4.alloc (.cells #[.int .u8 z] 5)) w4.heap.size (.slice (some ⟨w4.heap.size,0,none⟩) 1 1) [z]):=rwb_new w4 [z] (by simp) (by simp) (uh HG)
 have HPx:=zh ((uh HP4).below ((Below.refl _ _).alloc (Nat.le_refl _) (.cells #[.int .u8 z] 5)))
 have HRx:=zh ((uh HR4).below ((Below.refl _ _).alloc (Nat.le_refl _) (.cells #[.int .u8 z] 5)))
 have HYx:=zh (uh HRz).byt
 have hszr:=(uh HB4).size
 clear HRz HB4 HP4 HR4
 go_wp2_with (first
  | (at_builtin;refine wpList_append_byt _ rfl _ _ rfl (w.heap.size+1) (.slice va2 vn2 vc2) L2.length L2 rfl (uh HRx).1 (.slice (some ⟨w4.heap.size,0,none⟩) 1 1) [z] rfl (uh HYx) (by first|omega|(simp;omega)) (cell_lt (uh HPx).kind) ?_)
  | go_in)
 intro v5 w5 hown hg
 have HR5:=zh ((uh HRx).more (uh HG) (by first|exact hown|(rw[<- List.map_append];exact hown)))
 have HB5:Hid (Below w.heap.size w w5):=below_grown (uh HBx) (uh HRx) hg
 have HP5:=zh ((uh HPx).grow2 hg (uh HRx).off)
 obtain⟨va5,vn5,vc5,rfl⟩:=(uh HR5).form
 clear hown hg HRx HBx HPx
 obtain⟨L5,HEL5⟩:∃ L:List Int,Hid (L=L2++[z]):=⟨_,rfl⟩
 have nL5:L5.length<=8:=by rw[uh HEL5];rw[List.length_append];first|omega|(simp;omega)
 rw[<- uh HEL5]at HR5
 clear HYx HG hszr
 clear hz
 -- cutE
 have b10:=(uh HP5).keep
 go_wp2_with fail
 refine (gtwo_any q.keep _).mono ?_
 rintro e w6 ⟨v6,rfl,hr2,hb2⟩
 have HB6:Hid (Below w.heap.size w w6):=bnx2 (uh HB5) hb2
 have HP6:=zh ((uh HP5).below hb2)
 have HR6:=zh ((uh HR5).below hb2)
 have HY:=zh (uh hr2).byt
 have HG:=zh (uh hr2).2
 obtain⟨va6,vc6,rfl,-,-⟩:=(uh HY).form
 clear hr2 hb2 HR5 HB5 HP5 b10
 obtain⟨M6,HEM6⟩:∃ L:List Int,Hid (L=b2 q.keep):=⟨_,rfl⟩
 have nM6:M6.length<=2:=by rw[uh HEM6];simp
 rw[<- uh HEM6]at HY HG |-
 go_wp2_with (first
  | (at_builtin;refine wpList_append_byt _ rfl _ _ rfl (w.heap.size+1) (.slice va5 vn5 vc5) L5.length L5 rfl (uh HR6).1 (.slice va6 M6.length vc6) M6 rfl (uh HY) (by first|omega|(simp;omega)) (cell_lt (uh HP6).kind) ?_)
  | go_in)
 intro v7 w7 hown hg
 have HR7:=zh ((uh HR6).more (uh HG) (by first|exact hown|(rw[<- List.map_append];exact hown)))
 have HB7:Hid (Below w.heap.size w w7):=below_grown (uh HB6) (uh HR6) hg
 have HP7:=zh ((uh HP6).grow2 hg (uh HR6).off)
 obtain⟨va7,vn7,vc7,rfl⟩:=(uh HR7).form
 clear hown hg HR6 HB6 HP6
 obtain⟨L7,HEL7⟩:∃ L:List Int,Hid (L=L5++M6):=⟨_,rfl⟩
 have nL7:L7.length<=10:=by rw[uh HEL7];rw[List.length_append];first|omega|(simp;omega)
 rw[<- uh HEL7]at HR7
 clear HY HG
 -- cutF
 have b7:=(uh HP7).props
 rw[show q.props.val=.slice q.props.ao q.props.n q.props.cap from rfl,uh HQN]at b7
 go_wp2_with fail
 refine ((uh HBY) _ (uh HB7)).mono ?_
 rintro e w8 ⟨v8,rfl,HY,hb4⟩
 have HB8:Hid (Below w.heap.size w w8):=bnx2 (uh HB7) hb4
 have HP8:=zh ((uh HP7).below hb4)
 have HR8:=zh ((uh HR7).below hb4)
 have HG:=zh (uh HY).range
 obtain⟨va8,vc8,rfl,-,-⟩:=(uh HY).form
 clear hb4 HR7 HB7 HP7
 obtain⟨M8,HEM8⟩:∃ L:List Int,Hid (L=pbs l):=⟨_,rfl⟩
 have nM8:M8.length<=5000000:=by rw[uh HEM8];exact hple
 rw[<- uh HEM8]at HY HG |-
 clear b7
 go_wp2_with (first
  | (at_builtin;refine wpList_append_byt _ rfl _ _ rfl (w.heap.size+1) (.slice va7 vn7 vc7) L7.length L7 rfl (uh HR8).1 (.slice va8 M8.length vc8) M8 rfl (uh HY) (by first|omega|(simp;omega)) (cell_lt (uh HP8).kind) ?_)
  | go_in)
 intro v9 w9 hown hg
 have HR9:=zh ((uh HR8).more (uh HG) (by first|exact hown|(rw[<- List.map_append];exact hown)))
 have HB9:Hid (Below w.heap.size w w9):=below_grown (uh HB8) (uh HR8) hg
 have HP9:=zh ((uh HP8).grow2 hg (uh HR8).off)
 obtain⟨va9,vn9,vc9,rfl⟩:=(uh HR9).form
 clear hown hg HR8 HB8 HP8
 obtain⟨L9,HEL9⟩:∃ L:List Int,Hid (L=L7++M8):=⟨_,rfl⟩
 have nL9:L9.length<=5000010:=by rw[uh HEL9];rw[List.length_append];first|omega|(simp;omega)
 rw[<- uh HEL9]at HR9
 clear HY HG
 -- cutG
 have b8:=(uh HP9).client
 go_wp2_with fail
 refine (Go.Proofs.YtmpijpjlbhfccaaGreatDoor.bin_any q.client _ hcl).mono ?_
 rintro e w10 ⟨v10,rfl,hown1,hb1⟩
 have HB10:=zh (bnx2 (uh HB9) hb1)
 have HP10:=zh ((uh HP9).below hb1)
 have HR10:=zh ((uh HR9).below hb1)
 have HG:=zh (tx_range q.client hcl)
 have HY:Hid (Byt w10 v10 (tx q.client)):=Rwb.byt (B:=0) ⟨by rw[tx_length];exact owns_mono (uh hown1) (Nat.zero_le _),uh HG⟩
 obtain⟨va10,vc10,rfl,-,-⟩:=(uh HY).form
 clear hown1 hb1 HB9 HP9 HR9
 obtain⟨M10,HEM10⟩:∃ L:List Int,Hid (L=tx q.client):=⟨_,rfl⟩
 have nM10:M10.length<=65537:=by rw[uh HEM10];rw[tx_length];omega
 rw[<- uh HEM10]at HY HG |-
 clear b8
 go_wp2_with (first
  | (at_builtin;refine wpList_append_byt _ rfl _ _ rfl (w.heap.size+1) (.slice va9 vn9 vc9) L9.length L9 rfl (uh HR10).1 (.slice va10 M10.length vc10) M10 rfl (uh HY) (by first|omega|(simp;omega)) (cell_lt (uh HP10).kind) ?_)
  | go_in)
 intro v11 w11 hown hg
 have HR11:=zh ((uh HR10).more (uh HG) (by first|exact hown|(rw[<- List.map_append];exact hown)))
 have HB11:Hid (Below w.heap.size w w11):=below_grown (uh HB10) (uh HR10) hg
 have HP11:=zh ((uh HP10).grow2 hg (uh HR10).off)
 obtain⟨va11,vn11,vc11,rfl⟩:=(uh HR11).form
 clear hown hg HR10 HB10 HP10
 obtain⟨L11,HEL11⟩:∃ L:List Int,Hid (L=L9++M10):=⟨_,rfl⟩
 have nL11:L11.length<=5065547:=by rw[uh HEL11];rw[List.length_append];first|omega|(simp;omega)
 rw[<- uh HEL11]at HR11
 clear HY HG
 -- cutH
 have b11:=(uh HP11).wills
 rw[uh HV1]at b11
 go_upto_if 67 with fail
 go_cut [3,5] from 6 (fun s3 s5 wx=>∃ R,R.length<=10196621/\Hid (R=L11++ws.flatMap gwl)/\Hid (Rwb wx (w.heap.size+1) s3 R)/\Hid (Below w.heap.size w wx)/\Hid (Pk wx w.heap.size q))
 case first =>
  obtain rfl|rfl:m1=0\/m1=1:=by omega
  ·have HE0:=zh (flat_nil gwl (uh HN1))
   go_wp2
   go_meet
   case rel=>exact⟨L11,by omega,by show _=_;rw[uh HE0,List.append_nil],HR11,HB11,HP11⟩
  ·have h0l:0<ws.length:=by rw[uh HN1];omega
   obtain⟨b,off,hao,hat⟩:∃ b off,ao1=some ⟨b,off,none⟩/\WlAt w b off ws:=by
    rcases uh HS1 with e|k
    ·rw[e]at h0l;simp at h0l
    ·exact k
   rw[hao]at b11
   have hat:=hat 0 h0l
   have hzz:=(uh HZW) 0 h0l
   have HAO:=zh hao
   obtain⟨po,pn,pc,⟨d0,d1,d2,d3,d4⟩,hpr,hpn⟩:=hat
   simp only[Nat.zero_mul,Nat.add_zero]at d0 d1 d2 d3 d4
   have hbl:b<w.heap.size:=cell_lt d0
   obtain⟨ht,hp,-,-,hok⟩:=hzz
   have HE1:=zh (flat_one gwl wl0 (uh HN1))
   obtain⟨hok1,h32w⟩:=chkP0 (of_decide_eq_true hok)
   have hplw:=pbs_le (of_decide_eq_true hok)
   have hpl:=prp_len hpr
   have e0:=((uh HB11).cell hbl).trans d0
   have e1:=((uh HB11).cell hbl).trans d1
   have e2:=((uh HB11).cell hbl).trans d2
   have e3:=((uh HB11).cell hbl).trans d3
   have e4:=((uh HB11).cell hbl).trans d4
   generalize ws.getD 0 wl0=u at e0 e1 e2 e3 e4 ht hp hok1 h32w hplw hpl HE1 hpr
   obtain rfl:=hpl
   have HBW:Hid (∀ W,Below w.heap.size w W->Calls Tryz.prog 71 #[.slice po u.props.length pc] W (PutP (pbs u.props) W)):=fun W hW=>rbytes_any _ u.props 16 W (hpr.below hW) (by omega) hok1
   clear d0 d1 d2 d3 d4 hpr hpn h0l hok hok1
   obtain⟨ut,hut⟩:∃ s,s=u.topic:=⟨_,rfl⟩
   obtain⟨up,hup⟩:∃ s,s=u.payload:=⟨_,rfl⟩
   have HGW:Hid (gwl u=(pbs u.props++tx ut)++tx up):=by rw[hut,hup];rfl
   rw[<- hut]at e0 ht
   rw[<- hup]at e1 hp
   clear hut hup
   -- cutI
   go_upto_region 10 with fail
   iterate 13 go_step
   refine Go.Proofs.YtmpijpjlbhfccaaGreatDoor.wpList_value rfl (gwill_alloc _ _ _ _ _ _) ?_
   simp only[sp]
   refine Go.Proofs.YtmpijpjlbhfccaaGreatDoor.wpList_skip rfl (gwill_store _ _ _ _ _ _ _ ut up u.qos u.retain po u.props.length pc w11 rfl rfl) ?_
   simp only[Act.put]
   have HX12:=zh (wbx_new w11 ut up u.qos u.retain (.slice po u.props.length pc))
   have hbx:Below w11.heap.size w11 (w11.alloc (.cells (wlc ut up u.qos u.retain (.slice po u.props.length pc)) 90)):=bal _ _
   have HB12:=zh (bnx2 (uh HB11) hbx)
   have HP12:=zh ((uh HP11).below hbx)
   have HR12:=zh ((uh HR11).below hbx)
   generalize w11.alloc (.cells (wlc ut up u.qos u.retain (.slice po u.props.length pc)) 90)=w12 at HX12 HB12 HP12 HR12 |-
   obtain⟨G,hG⟩:∃ g,g=w11.heap.size:=⟨_,rfl⟩
   rw[<- hG]at HX12 |-
   clear hbx HB11 HP11 HR11 e0 e1 e2 e3 e4 b11 hG
   -- cutJ
   have f4:=(uh HX12).c4
   go_wp2_with fail
   refine ((uh HBW) _ (uh HB12)).mono ?_
   rintro e w13 ⟨v13,rfl,HY,hb4⟩
   have HB13:Hid (Below w.heap.size w w13):=bnx2 (uh HB12) hb4
   have HP13:=zh ((uh HP12).below hb4)
   have HR13:=zh ((uh HR12).below hb4)
   have HG:=zh (uh HY).range
   obtain⟨va13,vc13,rfl,-,-⟩:=(uh HY).form
   have HX13:=zh ((uh HX12).below hb4)
   clear HX12
   clear hb4 HR12 HB12 HP12
   obtain⟨M13,HEM13⟩:∃ L:List Int,Hid (L=pbs u.props):=⟨_,rfl⟩
   have nM13:M13.length<=5000000:=by rw[uh HEM13];exact hplw
   rw[<- uh HEM13]at HY HG |-
   clear f4
   go_wp2_with (first
    | (at_builtin;refine wpList_append_byt _ rfl _ _ rfl (w.heap.size+1) (.slice va11 vn11 vc11) L11.length L11 rfl (uh HR13).1 (.slice va13 M13.length vc13) M13 rfl (uh HY) (by first|omega|(simp;omega)) (cell_lt (uh HP13).kind) ?_)
    | go_in)
   intro v14 w14 hown hg
   have HR14:=zh ((uh HR13).more (uh HG) (by first|exact hown|(rw[<- List.map_append];exact hown)))
   have HB14:Hid (Below w.heap.size w w14):=below_grown (uh HB13) (uh HR13) hg
   have HP14:=zh ((uh HP13).grow2 hg (uh HR13).off)
   have HX14:=zh ((uh HX13).grow hg (fun e=>wbox_off (uh HR13) (uh HX13).blk e.symm))
   clear HX13
   obtain⟨va14,vn14,vc14,rfl⟩:=(uh HR14).form
   clear hown hg HR13 HB13 HP13
   obtain⟨L14,HEL14⟩:∃ L:List Int,Hid (L=L11++M13):=⟨_,rfl⟩
   have nL14:L14.length<=10065547:=by rw[uh HEL14];rw[List.length_append];first|omega|(simp;omega)
   rw[<- uh HEL14]at HR14
   clear HY HG
   -- cutK
   have f0:=(uh HX14).c0
   go_wp2_with fail
   refine (Go.Proofs.YtmpijpjlbhfccaaGreatDoor.bin_any ut _ ht).mono ?_
   rintro e w15 ⟨v15,rfl,hown1,hb1⟩
   have HB15:=zh (bnx2 (uh HB14) hb1)
   have HP15:=zh ((uh HP14).below hb1)
   have HR15:=zh ((uh HR14).below hb1)
   have HG:=zh (tx_range ut ht)
   have HY:Hid (Byt w15 v15 (tx ut)):=Rwb.byt (B:=0) ⟨by rw[tx_length];exact owns_mono (uh hown1) (Nat.zero_le _),uh HG⟩
   obtain⟨va15,vc15,rfl,-,-⟩:=(uh HY).form
   have HX15:=zh ((uh HX14).below hb1)
   clear HX14
   clear hown1 hb1 HB14 HP14 HR14
   obtain⟨M15,HEM15⟩:∃ L:List Int,Hid (L=tx ut):=⟨_,rfl⟩
   have nM15:M15.length<=65537:=by rw[uh HEM15];rw[tx_length];omega
   rw[<- uh HEM15]at HY HG |-
   clear f0
   go_wp2_with (first
    | (at_builtin;refine wpList_append_byt _ rfl _ _ rfl (w.heap.size+1) (.slice va14 vn14 vc14) L14.length L14 rfl (uh HR15).1 (.slice va15 M15.length vc15) M15 rfl (uh HY) (by first|omega|(simp;omega)) (cell_lt (uh HP15).kind) ?_)
    | go_in)
   intro v16 w16 hown hg
   have HR16:=zh ((uh HR15).more (uh HG) (by first|exact hown|(rw[<- List.map_append];exact hown)))
   have HB16:Hid (Below w.heap.size w w16):=below_grown (uh HB15) (uh HR15) hg
   have HP16:=zh ((uh HP15).grow2 hg (uh HR15).off)
   have HX16:=zh ((uh HX15).grow hg (fun e=>wbox_off (uh HR15) (uh HX15).blk e.symm))
   clear HX15
   obtain⟨va16,vn16,vc16,rfl⟩:=(uh HR16).form
   clear hown hg HR15 HB15 HP15
   obtain⟨L16,HEL16⟩:∃ L:List Int,Hid (L=L14++M15):=⟨_,rfl⟩
   have nL16:L16.length<=10131084:=by rw[uh HEL16];rw[List.length_append];first|omega|(simp;omega)
   rw[<- uh HEL16]at HR16
   clear HY HG
   have f1:=(uh HX16).c1
   go_wp2_with fail
   refine (Go.Proofs.YtmpijpjlbhfccaaGreatDoor.bin_any up _ hp).mono ?_
   rintro e w17 ⟨v17,rfl,hown1,hb1⟩
   have HB17:=zh (bnx2 (uh HB16) hb1)
   have HP17:=zh ((uh HP16).below hb1)
   have HR17:=zh ((uh HR16).below hb1)
   have HG:=zh (tx_range up hp)
   have HY:Hid (Byt w17 v17 (tx up)):=Rwb.byt (B:=0) ⟨by rw[tx_length];exact owns_mono (uh hown1) (Nat.zero_le _),uh HG⟩
   obtain⟨va17,vc17,rfl,-,-⟩:=(uh HY).form
   have HX17:=zh ((uh HX16).below hb1)
   clear HX16
   clear hown1 hb1 HB16 HP16 HR16
   obtain⟨M17,HEM17⟩:∃ L:List Int,Hid (L=tx up):=⟨_,rfl⟩
   have nM17:M17.length<=65537:=by rw[uh HEM17];rw[tx_length];omega
   rw[<- uh HEM17]at HY HG |-
   clear f1
   go_wp2_with (first
    | (at_builtin;refine wpList_append_byt _ rfl _ _ rfl (w.heap.size+1) (.slice va16 vn16 vc16) L16.length L16 rfl (uh HR17).1 (.slice va17 M17.length vc17) M17 rfl (uh HY) (by first|omega|(simp;omega)) (cell_lt (uh HP17).kind) ?_)
    | go_in)
   intro v18 w18 hown hg
   have HR18:=zh ((uh HR17).more (uh HG) (by first|exact hown|(rw[<- List.map_append];exact hown)))
   have HB18:Hid (Below w.heap.size w w18):=below_grown (uh HB17) (uh HR17) hg
   have HP18:=zh ((uh HP17).grow2 hg (uh HR17).off)
   have HX18:=zh ((uh HX17).grow hg (fun e=>wbox_off (uh HR17) (uh HX17).blk e.symm))
   clear HX17
   obtain⟨va18,vn18,vc18,rfl⟩:=(uh HR18).form
   clear hown hg HR17 HB17 HP17
   obtain⟨L18,HEL18⟩:∃ L:List Int,Hid (L=L16++M17):=⟨_,rfl⟩
   have nL18:L18.length<=10196621:=by rw[uh HEL18];rw[List.length_append];first|omega|(simp;omega)
   rw[<- uh HEL18]at HR18
   clear HY HG
   go_wp2
   go_meet
   case rel=>exact⟨L18,nL18,by show _=_;rw[uh HE1,uh HGW,uh HEL18,uh HEL16,uh HEL14,uh HEM13,uh HEM15,uh HEM17];simp,HR18,HB18,HP18⟩
 case rest =>
 clear HR11 HB11 HP11 b11
 obtain⟨L19,nL19,HEL19,HR19,HB19,HP19⟩:=hcut
 obtain⟨w19,hw19⟩:∃ x,x=wc:=⟨_,rfl⟩
 subst hw19
 obtain⟨va19,vn19,vc19,rfl⟩:=(uh HR19).form
 -- cutL
 have b12:=(uh HP19).user
 rw[uh HV2]at b12
 go_upto_if 90 with fail
 go_cut [3] from 6 (fun s3 wx=>∃ R,R.length<=10262158/\Hid (R=L19++us.flatMap tx)/\Hid (Rwb wx (w.heap.size+1) s3 R)/\Hid (Below w.heap.size w wx)/\Hid (Pk wx w.heap.size q))
 case first =>
  obtain rfl|rfl:m2=0\/m2=1:=by omega
  ·have HE0:=zh (flat_nil tx (uh HN2))
   go_wp2
   go_meet
   case rel=>exact⟨L19,by omega,by show _=_;rw[uh HE0,List.append_nil],HR19,HB19,HP19⟩
  ·have h0l:0<us.length:=by rw[uh HN2];omega
   obtain⟨b,off,hao,hat⟩:∃ b off,ao2=some ⟨b,off,none⟩/\∀ j,j<us.length->w.cell? ⟨b,off+j,none⟩=some (.string (us.getD j ⟨#[]⟩)):=by
    rcases uh HS2 with e|k
    ·rw[e]at h0l;simp at h0l
    ·exact k
   rw[hao]at b12
   have hat:=hat 0 h0l
   have hzz:=(uh HZU) 0 h0l
   have HAO:=zh hao
   rw[Nat.add_zero]at hat
   have e0:=((uh HB19).cell (cell_lt hat)).trans hat
   have HE1:=zh (flat_one tx ⟨#[]⟩ (uh HN2))
   generalize us.getD 0 ⟨#[]⟩=fl at e0 hat hzz HE1
   clear hat h0l
   go_wp2_with fail
   refine (Go.Proofs.YtmpijpjlbhfccaaGreatDoor.bin_any fl _ hzz).mono ?_
   rintro e w19a ⟨v19a,rfl,hown1,hb1⟩
   have HB19a:=zh (bnx2 (uh HB19) hb1)
   have HP19a:=zh ((uh HP19).below hb1)
   have HR19a:=zh ((uh HR19).below hb1)
   have HG:=zh (tx_range fl hzz)
   have HY:Hid (Byt w19a v19a (tx fl)):=Rwb.byt (B:=0) ⟨by rw[tx_length];exact owns_mono (uh hown1) (Nat.zero_le _),uh HG⟩
   obtain⟨va19a,vc19a,rfl,-,-⟩:=(uh HY).form
   clear hown1 hb1 HB19 HP19 HR19
   obtain⟨M19,HEM19⟩:∃ L:List Int,Hid (L=tx fl):=⟨_,rfl⟩
   have nM19:M19.length<=65537:=by rw[uh HEM19];rw[tx_length];omega
   rw[<- uh HEM19]at HY HG |-
   clear e0 b12
   go_wp2_with (first
    | (at_builtin;refine wpList_append_byt _ rfl _ _ rfl (w.heap.size+1) (.slice va19 vn19 vc19) L19.length L19 rfl (uh HR19a).1 (.slice va19a M19.length vc19a) M19 rfl (uh HY) (by first|omega|(simp;omega)) (cell_lt (uh HP19a).kind) ?_)
    | go_in)
   intro v19b w19b hown hg
   have HR19b:=zh ((uh HR19a).more (uh HG) (by first|exact hown|(rw[<- List.map_append];exact hown)))
   have HB19b:Hid (Below w.heap.size w w19b):=below_grown (uh HB19a) (uh HR19a) hg
   have HP19b:=zh ((uh HP19a).grow2 hg (uh HR19a).off)
   obtain⟨va19b,vn19b,vc19b,rfl⟩:=(uh HR19b).form
   clear hown hg HR19a HB19a HP19a
   obtain⟨N19,HEN19⟩:∃ L:List Int,Hid (L=L19++M19):=⟨_,rfl⟩
   have nN19:N19.length<=10262158:=by rw[uh HEN19];rw[List.length_append];first|omega|(simp;omega)
   rw[<- uh HEN19]at HR19b
   clear HY HG
   go_wp2
   go_meet
   case rel=>exact⟨N19,nN19,by show _=_;rw[uh HE1,uh HEN19,uh HEM19],HR19b,HB19b,HP19b⟩
 case rest =>
 clear HR19 HB19 HP19 b12
 obtain⟨L20,nL20,HEL20,HR20,HB20,HP20⟩:=hcut
 obtain⟨w20,hw20⟩:∃ x,x=wc:=⟨_,rfl⟩
 subst hw20
 obtain⟨va20,vn20,vc20,rfl⟩:=(uh HR20).form
 -- cutM
 have b13:=(uh HP20).pass
 rw[uh HV3]at b13
 go_upto_if 101 with fail
 go_cut [3] from 6 (fun s3 wx=>∃ R,R.length<=10327695/\Hid (R=L20++ps.flatMap tx)/\Hid (Rwb wx (w.heap.size+1) s3 R)/\Hid (Below w.heap.size w wx)/\Hid (Pk wx w.heap.size q))
 case first =>
  obtain rfl|rfl:m3=0\/m3=1:=by omega
  ·have HE0:=zh (flat_nil tx (uh HN3))
   go_wp2
   go_meet
   case rel=>exact⟨L20,by omega,by show _=_;rw[uh HE0,List.append_nil],HR20,HB20,HP20⟩
  ·have h0l:0<ps.length:=by rw[uh HN3];omega
   obtain⟨b,off,hao,hat⟩:∃ b off,ao3=some ⟨b,off,none⟩/\∀ j,j<ps.length->w.cell? ⟨b,off+j,none⟩=some (.string (ps.getD j ⟨#[]⟩)):=by
    rcases uh HS3 with e|k
    ·rw[e]at h0l;simp at h0l
    ·exact k
   rw[hao]at b13
   have hat:=hat 0 h0l
   have hzz:=(uh HZP) 0 h0l
   have HAO:=zh hao
   rw[Nat.add_zero]at hat
   have e0:=((uh HB20).cell (cell_lt hat)).trans hat
   have HE1:=zh (flat_one tx ⟨#[]⟩ (uh HN3))
   generalize ps.getD 0 ⟨#[]⟩=fl at e0 hat hzz HE1
   clear hat h0l
   go_wp2_with fail
   refine (Go.Proofs.YtmpijpjlbhfccaaGreatDoor.bin_any fl _ hzz).mono ?_
   rintro e w20a ⟨v20a,rfl,hown1,hb1⟩
   have HB20a:=zh (bnx2 (uh HB20) hb1)
   have HP20a:=zh ((uh HP20).below hb1)
   have HR20a:=zh ((uh HR20).below hb1)
   have HG:=zh (tx_range fl hzz)
   have HY:Hid (Byt w20a v20a (tx fl)):=Rwb.byt (B:=0) ⟨by rw[tx_length];exact owns_mono (uh hown1) (Nat.zero_le _),uh HG⟩
   obtain⟨va20a,vc20a,rfl,-,-⟩:=(uh HY).form
   clear hown1 hb1 HB20 HP20 HR20
   obtain⟨M20,HEM20⟩:∃ L:List Int,Hid (L=tx fl):=⟨_,rfl⟩
   have nM20:M20.length<=65537:=by rw[uh HEM20];rw[tx_length];omega
   rw[<- uh HEM20]at HY HG |-
   clear e0 b13
   go_wp2_with (first
    | (at_builtin;refine wpList_append_byt _ rfl _ _ rfl (w.heap.size+1) (.slice va20 vn20 vc20) L20.length L20 rfl (uh HR20a).1 (.slice va20a M20.length vc20a) M20 rfl (uh HY) (by first|omega|(simp;omega)) (cell_lt (uh HP20a).kind) ?_)
    | go_in)
   intro v20b w20b hown hg
   have HR20b:=zh ((uh HR20a).more (uh HG) (by first|exact hown|(rw[<- List.map_append];exact hown)))
   have HB20b:Hid (Below w.heap.size w w20b):=below_grown (uh HB20a) (uh HR20a) hg
   have HP20b:=zh ((uh HP20a).grow2 hg (uh HR20a).off)
   obtain⟨va20b,vn20b,vc20b,rfl⟩:=(uh HR20b).form
   clear hown hg HR20a HB20a HP20a
   obtain⟨N20,HEN20⟩:∃ L:List Int,Hid (L=L20++M20):=⟨_,rfl⟩
   have nN20:N20.length<=10327695:=by rw[uh HEN20];rw[List.length_append];first|omega|(simp;omega)
   rw[<- uh HEN20]at HR20b
   clear HY HG
   go_wp2
   go_meet
   case rel=>exact⟨N20,nN20,by show _=_;rw[uh HE1,uh HEN20,uh HEM20],HR20b,HB20b,HP20b⟩
 case rest =>
 clear HR20 HB20 HP20 b13
 obtain⟨L21,nL21,HEL21,HR21,HB21,HP21⟩:=hcut
 obtain⟨w21,hw21⟩:∃ x,x=wc:=⟨_,rfl⟩
 subst hw21
 obtain⟨va21,vn21,vc21,rfl⟩:=(uh HR21).form
 -- cutN
 go_wp2
 go_ret
 exact⟨_,rfl,by rw[uh HEL21,uh HEL20,uh HEL19,uh HEL11,uh HEM10,uh HEL9,uh HEM8,uh HEL7,uh HEM6,uh HEL5,uh HEL2,uh HEL1,uh HZ,uh HF2,uh HF,<- uh HN2,<- uh HN3]at HR21;exact (uh HR21).mono (Nat.le_succ _),uh HB21⟩
end Go.Proofs.YtmpijpjlbhfccaaGreatDoor.K
