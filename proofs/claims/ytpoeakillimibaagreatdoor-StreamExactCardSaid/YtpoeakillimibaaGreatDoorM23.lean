/- Proved here: helpers, one text behind the other. -/
import Derived.Test.YtpoeakillimibaaGreatDoorZPTake
import Derived.Test.YtpoeakillimibaaGreatDoorM21
import Derived.Test.YtpoeakillimibaaGreatDoorM16
import Derived.Test.YtpoeakillimibaaGreatDoorM20
import Derived.Test.YtpoeakillimibaaGreatDoorZKTk
set_option maxHeartbeats 20000000
namespace Go.Proofs.YtpoeakillimibaaGreatDoor
open Go.RowKit
set_option maxRecDepth 100000
def ValOk (l : List Int) (w : World) (e : Ending) (w' : World) : Prop := ∃ v,e = .returned (.tuple #[v,.nilIface]) /\ Hid (Byt w' v l) /\ Below w.heap.size w w'
def ValBad (w : World) (e : Ending) (w' : World) : Prop := ∃ t x n,e = .returned (.tuple #[.slice none 0 0,.iface t x]) /\ Hid (Inn w' (.iface t x) n) /\ Below w.heap.size w w'
theorem range_app {xs ys : List Int} (hx : ∀ j,0 <= xs.getD j 0 /\ xs.getD j 0 <= 255) (hy : ∀ j,0 <= ys.getD j 0 /\ ys.getD j 0 <= 255) : ∀ j,0 <= (xs ++ ys).getD j 0 /\ (xs ++ ys).getD j 0 <= 255 := by
 intro j
 rcases Nat.lt_or_ge j xs.length with h | h
 ·rw [List.getD_eq_getElem?_getD,List.getElem?_append_left h,<- List.getD_eq_getElem?_getD]; exact hx j
 ·rw [List.getD_eq_getElem?_getD,List.getElem?_append_right h,<- List.getD_eq_getElem?_getD]; exact hy _
theorem tput_ok (s : ByteArray) (w : World) (hc : chk (sb s) = 0) : Calls Tryz.prog 175 #[.string s] w (fun e w' => ∃ v,e = .returned (.tuple #[v,.nilIface]) /\ Hid (w'.ownsRow w.heap.size 5 1 v (2 + s.size) ((tx s).map (Value.int .u8))) /\ Hid (Byt w' v (tx s)) /\ Below w.heap.size w w') := by
 refine (put_ok s w hc).mono ?_
 rintro e w' ⟨v,rfl,hown,hb⟩
 exact ⟨v,rfl,hown,byt_of_owns (uh hown) (tx_range s (by have := chk_0 hc; rw [sb_length] at this; exact this)),hb⟩
theorem tput_bad (s : ByteArray) (w : World) (hs : s.size <= 4611686018427387904) (hc : chk (sb s) ≠ 0) : Calls Tryz.prog 175 #[.string s] w (fun e w' => ∃ x n,e = .returned (.tuple #[.slice none 0 0,.iface 149 x]) /\ Hid (Inn w' (.iface 149 x) n) /\ Below w.heap.size w w') := by
 refine (put_bad s _ w hs rfl hc).mono ?_
 rintro e w' ⟨rfl,rfl⟩
 exact ⟨_,chk (sb s),rfl,.inr ⟨_,rfl,by simp⟩,fault_below _ _⟩
theorem pair_ok (s t : ByteArray) (w : World) (hs : chk (sb s) = 0) (ht : chk (sb t) = 0) : Calls Tryz.prog 217 #[.string s,.string t] w (ValOk (tx s ++ tx t) w) := by
 have ls : s.size <= 65535 := by have := chk_0 hs; rw [sb_length] at this; exact this
 have lt : t.size <= 65535 := by have := chk_0 ht; rw [sb_length] at this; exact this
 have HS := zh hs
 have HT := zh ht
 clear hs ht
 go_enter Tryz.func217,Tryz.ntmps217
 go_wp2_with fail
 refine (tput_ok s _ (uh HS)).mono ?_
 rintro e w1 ⟨v1,rfl,hown1,-,hb1⟩
 have HB1 := zh hb1
 clear hb1
 go_wp2_with fail
 refine (tput_ok t _ (uh HT)).mono ?_
 rintro e w2 ⟨v2,rfl,-,hy2,hb2⟩
 have HO2 : Hid (w2.ownsRow w.heap.size 5 1 v1 (2 + s.size) ((tx s).map (Value.int .u8))) := owns_below (uh hown1) hb2
 have HB2 : Hid (Below w.heap.size w w2) := (uh HB1).trans (hb2.mono (uh HB1).size)
 clear hb2 HB1 hown1
 go_wp2_with (first
  | (at_builtin; refine wpList_append_byt _ rfl _ _ rfl w.heap.size _ (2 + s.size) (tx s) rfl (uh HO2) v2 (tx t) rfl (uh hy2) (by rw [tx_length]; omega) (uh HB2).size ?_)
  | go_in)
 intro v3 w3 hown3 hgrow3
 have hb3 : Below w.heap.size w w3 := (uh HB2).grown hgrow3 (uh HB2).size (fun k hk => ((uh HO2).lt k hk).1)
 have HY3 : Hid (Byt w3 v3 (tx s ++ tx t)) := byt_of_owns (by rw [List.map_append]; exact hown3) (range_app (tx_range s ls) (tx_range t lt))
 clear hown3 hgrow3
 go_wp2
 go_ret2
 exact ⟨_,rfl,HY3,hb3⟩
theorem pair_bad1 (s t : ByteArray) (w : World) (hl : s.size <= 4611686018427387904) (hs : chk (sb s) ≠ 0) : Calls Tryz.prog 217 #[.string s,.string t] w (ValBad w) := by
 have HS := zh hs
 clear hs
 go_enter Tryz.func217,Tryz.ntmps217
 go_wp2_with fail
 refine (tput_bad s _ hl (uh HS)).mono ?_
 rintro e w1 ⟨x,n,rfl,hi,hb1⟩
 go_wp2
 go_ret2
 exact ⟨_,_,_,rfl,hi,hb1⟩
theorem pair_bad2 (s t : ByteArray) (w : World) (hl : t.size <= 4611686018427387904) (hs : chk (sb s) = 0) (ht : chk (sb t) ≠ 0) : Calls Tryz.prog 217 #[.string s,.string t] w (ValBad w) := by
 have HS := zh hs
 have HT := zh ht
 clear hs ht
 go_enter Tryz.func217,Tryz.ntmps217
 go_wp2_with fail
 refine (tput_ok s _ (uh HS)).mono ?_
 rintro e w1 ⟨v1,rfl,-,-,hb1⟩
 have HB1 := zh hb1
 clear hb1
 go_wp2_with fail
 refine (tput_bad t _ hl (uh HT)).mono ?_
 rintro e w2 ⟨x,n,rfl,hi,hb2⟩
 go_wp2
 go_ret2
 exact ⟨_,_,_,rfl,hi,(uh HB1).trans (hb2.mono (uh HB1).size)⟩
theorem vput_use (n : Int) (w : World) (h0 : 0 <= n) (h1 : n <= 268435455) : Calls Tryz.prog 58 #[.int .i64 n] w (fun e w' => ∃ v,e = .returned (.tuple #[v,.nilIface]) /\ Hid (w'.ownsRow w.heap.size 5 1 v (V.put n).length ((V.put n).map (Value.int .u8))) /\ Hid (Byt w' v (V.put n)) /\ Below w.heap.size w w') := by
 refine (V.put_use n w h0 h1).mono ?_
 rintro e w' ⟨m,rfl,rfl,hown,hb⟩
 exact ⟨_,rfl,hown,byt_of_owns (uh hown) (V.put_range n h0 h1),hb⟩
theorem nbs_range (k n : Int) (hk : k = 1 /\ n <= 1 \/ k = 2 /\ n <= 65535 \/ k = 4 /\ n <= 4294967295) (h0 : 0 <= n) : ∀ j,0 <= (nbs k n).getD j 0 /\ (nbs k n).getD j 0 <= 255 := by
 intro j
 unfold nbs
 rcases hk with ⟨rfl,h⟩ | ⟨rfl,h⟩ | ⟨rfl,h⟩
 ·rw [if_pos rfl]
  rcases j with _ | j <;> simp <;> omega
 ·rw [if_neg (by omega),if_pos rfl]
  rcases j with _ | _ | j <;> simp <;> omega
 ·rw [if_neg (by omega),if_neg (by omega)]
  rcases j with _ | _ | _ | _ | j <;> simp <;> omega
theorem number_use (k n : Int) (w : World) (hk : k = 1 /\ n <= 1 \/ k = 2 /\ n <= 65535 \/ k = 4 /\ n <= 4294967295) (h0 : 0 <= n) : Calls Tryz.prog 216 #[.int .i64 n,.int .i64 k] w (fun e w' => ∃ v,e = .returned v /\ Hid (Byt w' v (nbs k n)) /\ Below w.heap.size w w') := by
 have hr := nbs_range k n hk h0
 have key : ∀ e w',NumPost k n w e w' -> ∃ v,e = .returned v /\ Hid (Byt w' v (nbs k n)) /\ Below w.heap.size w w' := by
  rintro e w' ⟨v,rfl,hown,hb⟩
  exact ⟨v,rfl,byt_of_owns (uh hown) hr,hb⟩
 rcases hk with ⟨rfl,h⟩ | ⟨rfl,h⟩ | ⟨rfl,h⟩
 ·exact (num_1 n w h0 h).mono key
 ·exact (num_2 n w h0 h).mono key
 ·exact (num_4 n w h0 h).mono key
def numK (k n : Int) : Prop := k = 1 /\ n <= 1 \/ k = 2 /\ n <= 65535 \/ k = 4 /\ n <= 4294967295
theorem value_num (id n k : Int) (s t : ByteArray) (w : World) (lo hi : Int) (hsh : shv id = .agg #[.int .i64 1,.int .i64 k,.int .i64 lo,.int .i64 hi]) (hk : numK k n) (h0 : 0 <= n) :
  Calls Tryz.prog 210 #[.agg #[.int .i64 id,.int .i64 n,.string s,.string t]] w (ValOk (nbs k n) w) := by
 have HSH := zh hsh
 have HK := zh hk
 clear hsh hk
 go_enter Tryz.func210,Tryz.ntmps210
 go_wp2_with fail
 refine (shape_use id 1 k lo hi (uh HSH) _).mono ?_
 rintro e w1 ⟨rfl,hb1⟩
 have HB1 := bal1 hb1
 have c1 : w1.cell? ⟨w.heap.size,1,none⟩ = some (.int .i64 n) := (hb1.cell (p := ⟨w.heap.size,1,none⟩) (by simp)).trans (by simp)
 have c2 : w1.cell? ⟨w.heap.size,2,none⟩ = some (.string s) := (hb1.cell (p := ⟨w.heap.size,2,none⟩) (by simp)).trans (by simp)
 have c3 : w1.cell? ⟨w.heap.size,3,none⟩ = some (.string t) := (hb1.cell (p := ⟨w.heap.size,3,none⟩) (by simp)).trans (by simp)
 have hlt : w.heap.size < w1.heap.size := cell_lt c1
 clear hb1
 go_wp2_with fail
 refine (number_use k n _ (uh HK) h0).mono ?_
 rintro e w2 ⟨v,rfl,hy,hb2⟩
 go_wp2
 go_ret2
 exact ⟨_,rfl,hy,(((uh HB1).alloc (uh HB1).size _).trans (hb2.mono (by simp; omega)))⟩
theorem value_var (id n : Int) (s t : ByteArray) (w : World) (wd lo hi : Int) (hsh : shv id = .agg #[.int .i64 2,.int .i64 wd,.int .i64 lo,.int .i64 hi]) (h0 : 0 <= n) (h1 : n <= 268435455) :
  Calls Tryz.prog 210 #[.agg #[.int .i64 id,.int .i64 n,.string s,.string t]] w (ValOk (V.put n) w) := by
 have HSH := zh hsh
 clear hsh
 go_enter Tryz.func210,Tryz.ntmps210
 go_wp2_with fail
 refine (shape_use id 2 wd lo hi (uh HSH) _).mono ?_
 rintro e w1 ⟨rfl,hb1⟩
 have HB1 := bal1 hb1
 have c1 : w1.cell? ⟨w.heap.size,1,none⟩ = some (.int .i64 n) := (hb1.cell (p := ⟨w.heap.size,1,none⟩) (by simp)).trans (by simp)
 have c2 : w1.cell? ⟨w.heap.size,2,none⟩ = some (.string s) := (hb1.cell (p := ⟨w.heap.size,2,none⟩) (by simp)).trans (by simp)
 have c3 : w1.cell? ⟨w.heap.size,3,none⟩ = some (.string t) := (hb1.cell (p := ⟨w.heap.size,3,none⟩) (by simp)).trans (by simp)
 have hlt : w.heap.size < w1.heap.size := cell_lt c1
 clear hb1
 go_wp2_with fail
 refine (vput_use n _ h0 h1).mono ?_
 rintro e w2 ⟨v,rfl,-,hy,hb2⟩
 go_wp2
 go_ret2
 exact ⟨_,rfl,hy,(((uh HB1).alloc (uh HB1).size _).trans (hb2.mono (by simp; omega)))⟩
theorem value_text (id n : Int) (s t : ByteArray) (w : World) (wd lo hi : Int) (hsh : shv id = .agg #[.int .i64 3,.int .i64 wd,.int .i64 lo,.int .i64 hi]) (hc : chk (sb s) = 0) :
  Calls Tryz.prog 210 #[.agg #[.int .i64 id,.int .i64 n,.string s,.string t]] w (ValOk (tx s) w) := by
 have HSH := zh hsh
 clear hsh
 have Hhc := zh hc
 clear hc
 go_enter Tryz.func210,Tryz.ntmps210
 go_wp2_with fail
 refine (shape_use id 3 wd lo hi (uh HSH) _).mono ?_
 rintro e w1 ⟨rfl,hb1⟩
 have HB1 := bal1 hb1
 have c1 : w1.cell? ⟨w.heap.size,1,none⟩ = some (.int .i64 n) := (hb1.cell (p := ⟨w.heap.size,1,none⟩) (by simp)).trans (by simp)
 have c2 : w1.cell? ⟨w.heap.size,2,none⟩ = some (.string s) := (hb1.cell (p := ⟨w.heap.size,2,none⟩) (by simp)).trans (by simp)
 have c3 : w1.cell? ⟨w.heap.size,3,none⟩ = some (.string t) := (hb1.cell (p := ⟨w.heap.size,3,none⟩) (by simp)).trans (by simp)
 have hlt : w.heap.size < w1.heap.size := cell_lt c1
 clear hb1
 go_wp2_with fail
 refine (tput_ok s _ (uh Hhc)).mono ?_
 rintro e w2 ⟨v,rfl,-,hy,hb2⟩
 go_wp2
 go_ret2
 exact ⟨_,rfl,hy,(((uh HB1).alloc (uh HB1).size _).trans (hb2.mono (by simp; omega)))⟩
theorem value_text_bad (id n : Int) (s t : ByteArray) (w : World) (wd lo hi : Int) (hsh : shv id = .agg #[.int .i64 3,.int .i64 wd,.int .i64 lo,.int .i64 hi]) (hl : s.size <= 4611686018427387904) (hc : chk (sb s) ≠ 0) :
  Calls Tryz.prog 210 #[.agg #[.int .i64 id,.int .i64 n,.string s,.string t]] w (ValBad w) := by
 have HSH := zh hsh
 clear hsh
 have Hhc := zh hc
 clear hc
 go_enter Tryz.func210,Tryz.ntmps210
 go_wp2_with fail
 refine (shape_use id 3 wd lo hi (uh HSH) _).mono ?_
 rintro e w1 ⟨rfl,hb1⟩
 have HB1 := bal1 hb1
 have c1 : w1.cell? ⟨w.heap.size,1,none⟩ = some (.int .i64 n) := (hb1.cell (p := ⟨w.heap.size,1,none⟩) (by simp)).trans (by simp)
 have c2 : w1.cell? ⟨w.heap.size,2,none⟩ = some (.string s) := (hb1.cell (p := ⟨w.heap.size,2,none⟩) (by simp)).trans (by simp)
 have c3 : w1.cell? ⟨w.heap.size,3,none⟩ = some (.string t) := (hb1.cell (p := ⟨w.heap.size,3,none⟩) (by simp)).trans (by simp)
 have hlt : w.heap.size < w1.heap.size := cell_lt c1
 clear hb1
 go_wp2_with fail
 refine (tput_bad s _ hl (uh Hhc)).mono ?_
 rintro e w2 ⟨x,m,rfl,hy,hb2⟩
 go_wp2
 go_ret2
 exact ⟨_,_,_,rfl,hy,(((uh HB1).alloc (uh HB1).size _).trans (hb2.mono (by simp; omega)))⟩
theorem value_bin (id n : Int) (s t : ByteArray) (w : World) (wd lo hi : Int) (hsh : shv id = .agg #[.int .i64 4,.int .i64 wd,.int .i64 lo,.int .i64 hi]) (hc : s.size <= 65535) :
  Calls Tryz.prog 210 #[.agg #[.int .i64 id,.int .i64 n,.string s,.string t]] w (ValOk (tx s) w) := by
 have HSH := zh hsh
 clear hsh
 go_enter Tryz.func210,Tryz.ntmps210
 go_wp2_with fail
 refine (shape_use id 4 wd lo hi (uh HSH) _).mono ?_
 rintro e w1 ⟨rfl,hb1⟩
 have HB1 := bal1 hb1
 have c1 : w1.cell? ⟨w.heap.size,1,none⟩ = some (.int .i64 n) := (hb1.cell (p := ⟨w.heap.size,1,none⟩) (by simp)).trans (by simp)
 have c2 : w1.cell? ⟨w.heap.size,2,none⟩ = some (.string s) := (hb1.cell (p := ⟨w.heap.size,2,none⟩) (by simp)).trans (by simp)
 have c3 : w1.cell? ⟨w.heap.size,3,none⟩ = some (.string t) := (hb1.cell (p := ⟨w.heap.size,3,none⟩) (by simp)).trans (by simp)
 have hlt : w.heap.size < w1.heap.size := cell_lt c1
 clear hb1
 go_wp2_with fail
 refine (putBin_ok s _ hc).mono ?_
 rintro e w2 ⟨v,rfl,hown,hb2⟩
 have hy : Hid (Byt w2 v (tx s)) := byt_of_owns (uh hown) (tx_range s hc)
 go_wp2
 go_ret2
 exact ⟨_,rfl,hy,(((uh HB1).alloc (uh HB1).size _).trans (hb2.mono (by simp; omega)))⟩
theorem value_bin_bad (id n : Int) (s t : ByteArray) (w : World) (wd lo hi : Int) (hsh : shv id = .agg #[.int .i64 4,.int .i64 wd,.int .i64 lo,.int .i64 hi]) (hc : 65535 < s.size) :
  Calls Tryz.prog 210 #[.agg #[.int .i64 id,.int .i64 n,.string s,.string t]] w (ValBad w) := by
 have HSH := zh hsh
 clear hsh
 go_enter Tryz.func210,Tryz.ntmps210
 go_wp2_with fail
 refine (shape_use id 4 wd lo hi (uh HSH) _).mono ?_
 rintro e w1 ⟨rfl,hb1⟩
 have HB1 := bal1 hb1
 have c1 : w1.cell? ⟨w.heap.size,1,none⟩ = some (.int .i64 n) := (hb1.cell (p := ⟨w.heap.size,1,none⟩) (by simp)).trans (by simp)
 have c2 : w1.cell? ⟨w.heap.size,2,none⟩ = some (.string s) := (hb1.cell (p := ⟨w.heap.size,2,none⟩) (by simp)).trans (by simp)
 have c3 : w1.cell? ⟨w.heap.size,3,none⟩ = some (.string t) := (hb1.cell (p := ⟨w.heap.size,3,none⟩) (by simp)).trans (by simp)
 have hlt : w.heap.size < w1.heap.size := cell_lt c1
 clear hb1
 go_wp2_with fail
 refine (putBin_bad s _ hc).mono ?_
 rintro e w2 ⟨rfl,hw2⟩
 have hb2 : Below _ _ w2 := hw2 ▸ fault_below 2 _
 have hy : Hid (Inn w2 (.iface 149 (.pointer (some ⟨w1.heap.size + 1,0,none⟩))) 2) := .inr ⟨_,rfl,by rw [hw2]; simp⟩
 clear hw2
 go_wp2
 go_ret2
 exact ⟨_,_,_,rfl,hy,(((uh HB1).alloc (uh HB1).size _).trans (hb2.mono (by simp; omega)))⟩
theorem value_pair (id n : Int) (s t : ByteArray) (w : World) (wd lo hi : Int) (hsh : shv id = .agg #[.int .i64 5,.int .i64 wd,.int .i64 lo,.int .i64 hi]) (hc : chk (sb s) = 0) (hd : chk (sb t) = 0) :
  Calls Tryz.prog 210 #[.agg #[.int .i64 id,.int .i64 n,.string s,.string t]] w (ValOk (tx s ++ tx t) w) := by
 have HSH := zh hsh
 clear hsh
 have Hhc := zh hc
 clear hc
 have Hhd := zh hd
 clear hd
 go_enter Tryz.func210,Tryz.ntmps210
 go_wp2_with fail
 refine (shape_use id 5 wd lo hi (uh HSH) _).mono ?_
 rintro e w1 ⟨rfl,hb1⟩
 have HB1 := bal1 hb1
 have c1 : w1.cell? ⟨w.heap.size,1,none⟩ = some (.int .i64 n) := (hb1.cell (p := ⟨w.heap.size,1,none⟩) (by simp)).trans (by simp)
 have c2 : w1.cell? ⟨w.heap.size,2,none⟩ = some (.string s) := (hb1.cell (p := ⟨w.heap.size,2,none⟩) (by simp)).trans (by simp)
 have c3 : w1.cell? ⟨w.heap.size,3,none⟩ = some (.string t) := (hb1.cell (p := ⟨w.heap.size,3,none⟩) (by simp)).trans (by simp)
 have hlt : w.heap.size < w1.heap.size := cell_lt c1
 clear hb1
 go_wp2_with fail
 refine (pair_ok s t _ (uh Hhc) (uh Hhd)).mono ?_
 rintro e w2 ⟨v,rfl,hy,hb2⟩
 go_wp2
 go_ret2
 exact ⟨_,rfl,hy,(((uh HB1).alloc (uh HB1).size _).trans (hb2.mono (by simp; omega)))⟩
theorem value_pair_bad1 (id n : Int) (s t : ByteArray) (w : World) (wd lo hi : Int) (hsh : shv id = .agg #[.int .i64 5,.int .i64 wd,.int .i64 lo,.int .i64 hi]) (hl : s.size <= 4611686018427387904) (hc : chk (sb s) ≠ 0) :
  Calls Tryz.prog 210 #[.agg #[.int .i64 id,.int .i64 n,.string s,.string t]] w (ValBad w) := by
 have HSH := zh hsh
 clear hsh
 have Hhc := zh hc
 clear hc
 go_enter Tryz.func210,Tryz.ntmps210
 go_wp2_with fail
 refine (shape_use id 5 wd lo hi (uh HSH) _).mono ?_
 rintro e w1 ⟨rfl,hb1⟩
 have HB1 := bal1 hb1
 have c1 : w1.cell? ⟨w.heap.size,1,none⟩ = some (.int .i64 n) := (hb1.cell (p := ⟨w.heap.size,1,none⟩) (by simp)).trans (by simp)
 have c2 : w1.cell? ⟨w.heap.size,2,none⟩ = some (.string s) := (hb1.cell (p := ⟨w.heap.size,2,none⟩) (by simp)).trans (by simp)
 have c3 : w1.cell? ⟨w.heap.size,3,none⟩ = some (.string t) := (hb1.cell (p := ⟨w.heap.size,3,none⟩) (by simp)).trans (by simp)
 have hlt : w.heap.size < w1.heap.size := cell_lt c1
 clear hb1
 go_wp2_with fail
 refine (pair_bad1 s t _ hl (uh Hhc)).mono ?_
 rintro e w2 ⟨t',x,m,rfl,hy,hb2⟩
 go_wp2
 go_ret2
 exact ⟨_,_,_,rfl,hy,(((uh HB1).alloc (uh HB1).size _).trans (hb2.mono (by simp; omega)))⟩
theorem value_pair_bad2 (id n : Int) (s t : ByteArray) (w : World) (wd lo hi : Int) (hsh : shv id = .agg #[.int .i64 5,.int .i64 wd,.int .i64 lo,.int .i64 hi]) (hl : t.size <= 4611686018427387904) (hc : chk (sb s) = 0) (hd : chk (sb t) ≠ 0) :
  Calls Tryz.prog 210 #[.agg #[.int .i64 id,.int .i64 n,.string s,.string t]] w (ValBad w) := by
 have HSH := zh hsh
 clear hsh
 have Hhc := zh hc
 clear hc
 have Hhd := zh hd
 clear hd
 go_enter Tryz.func210,Tryz.ntmps210
 go_wp2_with fail
 refine (shape_use id 5 wd lo hi (uh HSH) _).mono ?_
 rintro e w1 ⟨rfl,hb1⟩
 have HB1 := bal1 hb1
 have c1 : w1.cell? ⟨w.heap.size,1,none⟩ = some (.int .i64 n) := (hb1.cell (p := ⟨w.heap.size,1,none⟩) (by simp)).trans (by simp)
 have c2 : w1.cell? ⟨w.heap.size,2,none⟩ = some (.string s) := (hb1.cell (p := ⟨w.heap.size,2,none⟩) (by simp)).trans (by simp)
 have c3 : w1.cell? ⟨w.heap.size,3,none⟩ = some (.string t) := (hb1.cell (p := ⟨w.heap.size,3,none⟩) (by simp)).trans (by simp)
 have hlt : w.heap.size < w1.heap.size := cell_lt c1
 clear hb1
 go_wp2_with fail
 refine (pair_bad2 s t _ hl (uh Hhc) (uh Hhd)).mono ?_
 rintro e w2 ⟨t',x,m,rfl,hy,hb2⟩
 go_wp2
 go_ret2
 exact ⟨_,_,_,rfl,hy,(((uh HB1).alloc (uh HB1).size _).trans (hb2.mono (by simp; omega)))⟩
theorem vget_good (v : Value) (l : List Int) (w : World) (h : Byt w v l) (n : Int) (K : Nat) (hv : V.vget l = (n,(K : Int),0)) : Calls Tryz.prog 116 #[v] w fun e w' => e = .returned (.tuple #[.int .i64 n,.int .i64 K,.nilIface]) /\ Below w.heap.size w w' := by
 refine (V.get_any v l w h).mono ?_
 rintro e w' ⟨E,rfl,hE,hb⟩
 rw [hv] at hE |-
 rcases hE with ⟨_,rfl⟩ | ⟨h0,_⟩
 ·exact ⟨rfl,hb⟩
 ·exact absurd rfl h0
theorem vget_fail (v : Value) (l : List Int) (w : World) (h : Byt w v l) (m : Int) (hv : (V.vget l).2.2 = m) (hm : m ≠ 0) : Calls Tryz.prog 116 #[v] w fun e w' => ∃ a b x,e = .returned (.tuple #[.int .i64 a,.int .i64 b,.iface 149 x]) /\ Hid (Inn w' (.iface 149 x) m) /\ Below w.heap.size w w' := by
 refine (V.get_any v l w h).mono ?_
 rintro e w' ⟨E,rfl,hE,hb⟩
 rw [hv] at hE
 rcases hE with ⟨h0,_⟩ | ⟨_,b,rfl,hc⟩
 ·exact absurd h0 hm
 ·exact ⟨_,_,_,rfl,.inr ⟨b,rfl,hc⟩,hb⟩
theorem fault_cell (n : Int) (w : World) : (faultW n w).cell? ⟨w.heap.size,1,none⟩ = some (.iface 84 (.int .i64 n)) := by simp [faultW]
theorem gt_cases (l : List Int) : (∃ s K,full l = true /\ utf (sb (gbs l)) = true /\ s = gbs l /\ K = 2 + nb l /\ gt l = (s,(K : Int),0)) \/ (∃ m,m ≠ 0 /\ gt l = (⟨#[]⟩,0,m)) := by
 unfold gt
 by_cases hf : full l = true
 ·rw [if_pos hf]
  by_cases hu : utf (sb (gbs l)) = true
  ·rw [if_pos hu]; exact .inl ⟨_,_,hf,hu,rfl,rfl,rfl⟩
  ·rw [if_neg hu]; exact .inr ⟨1,by decide,rfl⟩
 ·rw [if_neg hf]; exact .inr ⟨3,by decide,rfl⟩
theorem tget_good (v : Value) (l : List Int) (w : World) (h : Byt w v l) (s : ByteArray) (K : Nat) (hv : gt l = (s,(K : Int),0)) : Calls Tryz.prog 191 #[v] w fun e w' => e = .returned (.tuple #[.string s,.int .i64 K,.nilIface]) /\ Below w.heap.size w w' := by
 rcases gt_cases l with ⟨s',K',hf,hu,rfl,rfl,hg⟩ | ⟨m,hm,hg⟩
 ·rw [hg] at hv
  simp only [Prod.mk.injEq] at hv
  obtain ⟨rfl,hk,_⟩ := hv
  refine (get_ok v l w h hf hu).mono ?_
  rintro e w' ⟨rfl,q,rfl⟩
  exact ⟨by rw [hk],below_q q⟩
 ·rw [hg] at hv
  simp only [Prod.mk.injEq] at hv
  exact absurd hv.2.2 hm
theorem tget_fail (v : Value) (l : List Int) (w : World) (h : Byt w v l) (m : Int) (hv : (gt l).2.2 = m) (hm : m ≠ 0) : Calls Tryz.prog 191 #[v] w fun e w' => ∃ s a x,e = .returned (.tuple #[.string s,.int .i64 a,.iface 149 x]) /\ Hid (Inn w' (.iface 149 x) m) /\ Below w.heap.size w w' := by
 unfold gt at hv
 by_cases hf : full l = true
 ·rw [if_pos hf] at hv
  by_cases hu : utf (sb (gbs l)) = true
  ·rw [if_pos hu] at hv; exact absurd hv.symm hm
  ·rw [if_neg hu] at hv
   subst hv
   refine (get_form v l w h hf (by simpa using hu)).mono ?_
   rintro e w' ⟨rfl,q,rfl⟩
   exact ⟨_,_,_,rfl,.inr ⟨_,rfl,fault_cell _ _⟩,(below_q q).trans (fault_below 1 (w.drewN q))⟩
 ·rw [if_neg hf] at hv
  subst hv
  refine (get_short v l w h (by simpa using hf)).mono ?_
  rintro e w' ⟨rfl,q,rfl⟩
  exact ⟨_,_,_,rfl,.inr ⟨_,rfl,fault_cell _ _⟩,(below_q q).trans (fault_below 3 (w.drewN q))⟩
theorem tbin_good (v : Value) (l : List Int) (w : World) (h : Byt w v l) (s : ByteArray) (K : Nat) (hv : gbn l = (s,(K : Int),0)) : Calls Tryz.prog 192 #[v] w fun e w' => e = .returned (.tuple #[.string s,.int .i64 K,.nilIface]) /\ Below w.heap.size w w' := by
 unfold gbn at hv
 by_cases hf : full l = true
 ·rw [if_pos hf] at hv
  simp only [Prod.mk.injEq] at hv
  obtain ⟨rfl,hk,_⟩ := hv
  refine (gbin_ok v l w h hf).mono ?_
  rintro e w' ⟨rfl,q,rfl⟩
  exact ⟨by rw [hk],below_q q⟩
 ·rw [if_neg hf] at hv
  simp at hv
theorem tbin_fail (v : Value) (l : List Int) (w : World) (h : Byt w v l) (m : Int) (hv : (gbn l).2.2 = m) (hm : m ≠ 0) : Calls Tryz.prog 192 #[v] w fun e w' => ∃ s a x,e = .returned (.tuple #[.string s,.int .i64 a,.iface 149 x]) /\ Hid (Inn w' (.iface 149 x) m) /\ Below w.heap.size w w' := by
 unfold gbn at hv
 by_cases hf : full l = true
 ·rw [if_pos hf] at hv; exact absurd hv.symm hm
 ·rw [if_neg hf] at hv
  subst hv
  refine (gbin_short v l w h (by simpa using hf)).mono ?_
  rintro e w' ⟨rfl,q,rfl⟩
  exact ⟨_,_,_,rfl,.inr ⟨_,rfl,fault_cell _ _⟩,(below_q q).trans (fault_below 3 (w.drewN q))⟩
theorem gnum_good (v : Value) (l : List Int) (w : World) (h : Byt w v l) (k : Int) (hk : k = 1 \/ k = 2 \/ k = 4) (hl : k <= l.length) : Calls Tryz.prog 218 #[v,.int .i64 k] w fun e w' => e = .returned (.tuple #[.int .i64 (be k l),.int .i64 k,.nilIface]) /\ Below w.heap.size w w' := by
 obtain ⟨ao,cap,rfl,hlen,hr,hcase⟩ := h
 rcases hcase with rfl | ⟨b,off,rfl,hc⟩
 ·simp at hl; omega
 ·rcases hk with rfl | rfl | rfl
  ·exact gnum_1 b off l.length cap _ w (by omega) hlen.1 hlen.2 (hc 0 (by omega)) (hr 0)
  ·exact gnum_2 b off l.length cap _ _ w (by omega) hlen.1 hlen.2 (hc 0 (by omega)) (hc 1 (by omega)) (hr 0) (hr 1)
  ·exact gnum_4 b off l.length cap _ _ _ _ w (by omega) hlen.1 hlen.2 (hc 0 (by omega)) (hc 1 (by omega)) (hc 2 (by omega)) (hc 3 (by omega)) (hr 0) (hr 1) (hr 2) (hr 3)
theorem gnum_fail (v : Value) (l : List Int) (w : World) (h : Byt w v l) (k : Int) (hl : (l.length : Int) < k) : Calls Tryz.prog 218 #[v,.int .i64 k] w fun e w' => e = .returned (.tuple #[.int .i64 0,.int .i64 0,.iface 84 (.int .i64 3)]) /\ Below w.heap.size w w' := by
 obtain ⟨ao,cap,rfl,_⟩ := h
 refine (gnum_short ao _ cap k w hl).mono ?_
 rintro e w' ⟨rfl,rfl⟩
 exact ⟨rfl,Below.refl _ _⟩
def PairBad (w : World) (e : Ending) (w' : World) : Prop := ∃ s t a x n,e = .returned (.tuple #[.string s,.string t,.int .i64 a,.iface 149 x]) /\ Hid (Inn w' (.iface 149 x) n) /\ Below w.heap.size w w'
theorem gpair_ok (v : Value) (l : List Int) (w : World) (h : Byt w v l) (s t : ByteArray) (K M : Nat) (h1 : gt l = (s,(K : Int),0)) (h2 : gt (l.drop K) = (t,(M : Int),0)) (hK : 2 <= K /\ K <= l.length) (hM : K + M <= l.length) :
  Calls Tryz.prog 219 #[v] w fun e w' => e = .returned (.tuple #[.string s,.string t,.int .i64 (K + M : Nat),.nilIface]) /\ Below w.heap.size w w' := by
 obtain ⟨b,off,cap,rfl,hc1,hc2⟩ := h.form1 (by omega)
 unfold maxLen at hc2
 have HV := zh h
 have H1 := zh h1
 have H2 := zh h2
 clear h h1 h2
 generalize hn : l.length = n at hc1 hK hM HV
 go_enter Tryz.func219,Tryz.ntmps219
 go_wp2_with fail
 refine (tget_good _ l _ (uh HV) s K (uh H1)).mono ?_
 rintro e w1 ⟨rfl,hb1⟩
 have HD1 : Hid (cap = K -> Byt w1 (.slice (some ⟨b,off,none⟩) (n - K) 0) (l.drop K)) := fun e => by
  have := ((uh HV).below hb1).drop' K (by omega)
  rw [if_pos e,e,Nat.sub_self] at this; exact this
 have HD2 : Hid (¬ cap = K -> Byt w1 (.slice (some ⟨b,off + K,none⟩) (n - K) (cap - K)) (l.drop K)) := fun e => by
  have := ((uh HV).below hb1).drop' K (by omega)
  rw [if_neg e] at this; exact this
 have HB1 := zh hb1
 clear hb1
 go_wp2_with fail
 case inl h =>
  refine (tget_good _ _ _ ((uh HD1) h) t M (uh H2)).mono ?_
  rintro e w2 ⟨rfl,hb2⟩
  go_wp2
  go_returns
  exact ⟨by go_num,(uh HB1).trans (hb2.mono (uh HB1).size)⟩
 case inr h =>
  refine (tget_good _ _ _ ((uh HD2) h) t M (uh H2)).mono ?_
  rintro e w2 ⟨rfl,hb2⟩
  go_wp2
  go_returns
  exact ⟨by go_num,(uh HB1).trans (hb2.mono (uh HB1).size)⟩
theorem gpair_bad1 (v : Value) (l : List Int) (w : World) (h : Byt w v l) (m : Int) (h1 : (gt l).2.2 = m) (hm : m ≠ 0) : Calls Tryz.prog 219 #[v] w (PairBad w) := by
 obtain ⟨ao,cap,rfl,hc1,hc2⟩ := h.form
 have HV := zh h
 have H1 := zh h1
 clear h h1
 generalize hn : l.length = n at hc1 HV
 go_enter Tryz.func219,Tryz.ntmps219
 go_wp2_with fail
 refine (tget_fail _ l _ (uh HV) m (uh H1) hm).mono ?_
 rintro e w1 ⟨s,a,x,rfl,hi,hb1⟩
 go_wp2
 go_returns
 exact ⟨_,_,_,_,_,rfl,hi,hb1⟩
theorem gpair_bad2 (v : Value) (l : List Int) (w : World) (h : Byt w v l) (s : ByteArray) (K : Nat) (h1 : gt l = (s,(K : Int),0)) (hK : 2 <= K /\ K <= l.length) (m : Int) (h2 : (gt (l.drop K)).2.2 = m) (hm : m ≠ 0) : Calls Tryz.prog 219 #[v] w (PairBad w) := by
 obtain ⟨b,off,cap,rfl,hc1,hc2⟩ := h.form1 (by omega)
 unfold maxLen at hc2
 have HV := zh h
 have H1 := zh h1
 have H2 := zh h2
 clear h h1 h2
 generalize hn : l.length = n at hc1 hK HV
 go_enter Tryz.func219,Tryz.ntmps219
 go_wp2_with fail
 refine (tget_good _ l _ (uh HV) s K (uh H1)).mono ?_
 rintro e w1 ⟨rfl,hb1⟩
 have HD1 : Hid (cap = K -> Byt w1 (.slice (some ⟨b,off,none⟩) (n - K) 0) (l.drop K)) := fun e => by
  have := ((uh HV).below hb1).drop' K (by omega)
  rw [if_pos e,e,Nat.sub_self] at this; exact this
 have HD2 : Hid (¬ cap = K -> Byt w1 (.slice (some ⟨b,off + K,none⟩) (n - K) (cap - K)) (l.drop K)) := fun e => by
  have := ((uh HV).below hb1).drop' K (by omega)
  rw [if_neg e] at this; exact this
 have HB1 := zh hb1
 clear hb1
 go_wp2_with fail
 case inl h =>
  refine (tget_fail _ _ _ ((uh HD1) h) m (uh H2) hm).mono ?_
  rintro e w2 ⟨s,a,x,rfl,hi,hb2⟩
  go_wp2
  go_returns
  exact ⟨_,_,_,_,_,rfl,hi,(uh HB1).trans (hb2.mono (uh HB1).size)⟩
 case inr h =>
  refine (tget_fail _ _ _ ((uh HD2) h) m (uh H2) hm).mono ?_
  rintro e w2 ⟨s,a,x,rfl,hi,hb2⟩
  go_wp2
  go_returns
  exact ⟨_,_,_,_,_,rfl,hi,(uh HB1).trans (hb2.mono (uh HB1).size)⟩
theorem cell_set (w : World) (p q : Addr) (v : Value) (h : (w.cell? q).isSome = true) : (w.setCell p v).cell? q = if p = q then some v else w.cell? q := by
 by_cases e : p = q
 ·subst e
  rw [if_pos rfl]
  exact World.cell?_setCell_same' w p v h
 ·rw [if_neg e]
  exact World.cell?_setCell_other _ _ _ _ e
theorem res_p {fn : Func} {a t u : Tmp} (h : fn.results = #[.cell a 120,.tmp t,.tmp u]) {tmps : Array Value} {w : World} {B : Nat} {v0 v1 v2 v3 : Value} (ha : tmps[a]?.getD undef = .pointer (some ⟨B,0,none⟩)) (c0 : w.cell? ⟨B,0,none⟩ = some v0) (c1 : w.cell? ⟨B,1,none⟩ = some v1) (c2 : w.cell? ⟨B,2,none⟩ = some v2) (c3 : w.cell? ⟨B,3,none⟩ = some v3) :
  (results fn tmps).run Tryz.prog w = .ok (.tuple #[.agg #[v0,v1,v2,v3],tmps[t]?.getD undef,tmps[u]?.getD undef]) w := by
 simp [results,h,ha,go_sem,c0,c1,c2,c3]
def InnOff (B : Nat) (w : World) (v : Value) (n : Int) : Prop := v = .iface 84 (.int .i64 n) \/ ∃ b,b ≠ B /\ v = .iface 149 (.pointer (some ⟨b,0,none⟩)) /\ w.cell? ⟨b,1,none⟩ = some (.iface 84 (.int .i64 n))
theorem InnOff.inn {B : Nat} {w : World} {v : Value} {n : Int} (h : InnOff B w v n) : Inn w v n := by
 rcases h with h | ⟨b,_,h1,h2⟩
 ·exact .inl h
 ·exact .inr ⟨b,h1,h2⟩
theorem InnOff.set {B : Nat} {w : World} {v : Value} {n : Int} (h : InnOff B w v n) {p : Addr} {u : Value} (hp : p.block = B) : InnOff B (w.setCell p u) v n := by
 rcases h with h | ⟨b,h0,h1,h2⟩
 ·exact .inl h
 ·exact .inr ⟨b,h0,h1,by rw [World.cell?_setCell_far _ _ _ _ (by rw [hp]; exact Ne.symm h0)]; exact h2⟩
theorem Inn.off {B : Nat} {w : World} {v : Value} {n z : Int} (h : Inn w v n) (hB : w.cell? ⟨B,1,none⟩ = some (.int .i64 z)) : InnOff B w v n := by
 rcases h with h | ⟨b,h1,h2⟩
 ·exact .inl h
 ·refine .inr ⟨b,?_,h1,h2⟩
  rintro rfl
  rw [hB] at h2
  simp at h2
def GvOk (n : Int) (s t : ByteArray) (K : Int) (w : World) (e : Ending) (w' : World) : Prop := e = .returned (.tuple #[.agg #[.int .i64 0,.int .i64 n,.string s,.string t],.int .i64 K,.nilIface]) /\ Below w.heap.size w w'
def GvBad (w : World) (e : Ending) (w' : World) : Prop := ∃ i n s t K ty x m,e = .returned (.tuple #[.agg #[.int .i64 i,.int .i64 n,.string s,.string t],.int .i64 K,.iface ty x]) /\ Hid (Inn w' (.iface ty x) m) /\ Below w.heap.size w w'
abbrev shp (f k lo hi : Int) : Value := .agg #[.int .i64 f,.int .i64 k,.int .i64 lo,.int .i64 hi]
theorem gval_num (v : Value) (l : List Int) (w : World) (h : Byt w v l) (k lo hi : Int) (hk : k = 1 \/ k = 2 \/ k = 4) (hl : k <= l.length) : Calls Tryz.prog 211 #[v,shp 1 k lo hi] w (GvOk (be k l) es es k w) := by
 obtain ⟨ao,cap,rfl,hc1,hc2⟩ := h.form
 have HV := zh h
 have Hhk := zh hk
 clear hk
 have Hhl := zh hl
 clear hl
 clear h
 generalize hn : l.length = n at hc1 HV
 go_enter Tryz.func211,Tryz.ntmps211
 go_wp2_with fail
 refine (gnum_good _ l _ ((uh HV).below (by go_grown)) k (uh Hhk) (uh Hhl)).mono ?_
 rintro e w1 ⟨rfl,hb1⟩
 have HB1 : Hid (Below w.heap.size w w1) := ((bal _ _).alloc (by simp) _).trans (hb1.mono (by simp; omega))
 have q0 : w1.cell? ⟨w.heap.size + 1,0,none⟩ = some (.int .i64 0) := (hb1.cell (p := ⟨w.heap.size + 1,0,none⟩) (by simp)).trans (by simp)
 have q1 : w1.cell? ⟨w.heap.size + 1,1,none⟩ = some (.int .i64 0) := (hb1.cell (p := ⟨w.heap.size + 1,1,none⟩) (by simp)).trans (by simp)
 have q2 : w1.cell? ⟨w.heap.size + 1,2,none⟩ = some (.string ⟨#[]⟩) := (hb1.cell (p := ⟨w.heap.size + 1,2,none⟩) (by simp)).trans (by simp)
 have q3 : w1.cell? ⟨w.heap.size + 1,3,none⟩ = some (.string ⟨#[]⟩) := (hb1.cell (p := ⟨w.heap.size + 1,3,none⟩) (by simp)).trans (by simp)
 have f0 : w1.frozen? ⟨w.heap.size + 1,0,none⟩ = false := (hb1.frozen (p := ⟨w.heap.size + 1,0,none⟩) (by simp)).trans (by simp)
 have f1 : w1.frozen? ⟨w.heap.size + 1,1,none⟩ = false := (hb1.frozen (p := ⟨w.heap.size + 1,1,none⟩) (by simp)).trans (by simp)
 have f2 : w1.frozen? ⟨w.heap.size + 1,2,none⟩ = false := (hb1.frozen (p := ⟨w.heap.size + 1,2,none⟩) (by simp)).trans (by simp)
 have f3 : w1.frozen? ⟨w.heap.size + 1,3,none⟩ = false := (hb1.frozen (p := ⟨w.heap.size + 1,3,none⟩) (by simp)).trans (by simp)
 clear hb1
 go_wp2
 (try simp only [Exit.inBlock,Exit.then])
 refine bodyPost_ret (res_p (B := w.heap.size + 1) (v0 := .int .i64 0) (v1 := .int .i64 (be k l)) (v2 := .string ⟨#[]⟩) (v3 := .string ⟨#[]⟩) rfl rfl ?c0 ?c1 ?c2 ?c3) rfl ?_
 case c0 => simp (maxDischargeDepth := 12) [cell_set,q0]
 case c1 => simp (maxDischargeDepth := 12) [cell_set,q1]
 case c2 => simp (maxDischargeDepth := 12) [cell_set,q2]
 case c3 => simp (maxDischargeDepth := 12) [cell_set,q3]
 exact ⟨rfl,by have := uh HB1; go_grown⟩
theorem gval_num_bad (v : Value) (l : List Int) (w : World) (h : Byt w v l) (k lo hi : Int) (hl : (l.length : Int) < k) : Calls Tryz.prog 211 #[v,shp 1 k lo hi] w (GvBad w) := by
 obtain ⟨ao,cap,rfl,hc1,hc2⟩ := h.form
 have HV := zh h
 have Hhl := zh hl
 clear hl
 clear h
 generalize hn : l.length = n at hc1 HV
 go_enter Tryz.func211,Tryz.ntmps211
 go_wp2_with fail
 refine (gnum_fail _ l _ ((uh HV).below (by go_grown)) k (uh Hhl)).mono ?_
 rintro e w1 ⟨rfl,hb1⟩
 have HB1 : Hid (Below w.heap.size w w1) := ((bal _ _).alloc (by simp) _).trans (hb1.mono (by simp; omega))
 have q0 : w1.cell? ⟨w.heap.size + 1,0,none⟩ = some (.int .i64 0) := (hb1.cell (p := ⟨w.heap.size + 1,0,none⟩) (by simp)).trans (by simp)
 have q1 : w1.cell? ⟨w.heap.size + 1,1,none⟩ = some (.int .i64 0) := (hb1.cell (p := ⟨w.heap.size + 1,1,none⟩) (by simp)).trans (by simp)
 have q2 : w1.cell? ⟨w.heap.size + 1,2,none⟩ = some (.string ⟨#[]⟩) := (hb1.cell (p := ⟨w.heap.size + 1,2,none⟩) (by simp)).trans (by simp)
 have q3 : w1.cell? ⟨w.heap.size + 1,3,none⟩ = some (.string ⟨#[]⟩) := (hb1.cell (p := ⟨w.heap.size + 1,3,none⟩) (by simp)).trans (by simp)
 have f0 : w1.frozen? ⟨w.heap.size + 1,0,none⟩ = false := (hb1.frozen (p := ⟨w.heap.size + 1,0,none⟩) (by simp)).trans (by simp)
 have f1 : w1.frozen? ⟨w.heap.size + 1,1,none⟩ = false := (hb1.frozen (p := ⟨w.heap.size + 1,1,none⟩) (by simp)).trans (by simp)
 have f2 : w1.frozen? ⟨w.heap.size + 1,2,none⟩ = false := (hb1.frozen (p := ⟨w.heap.size + 1,2,none⟩) (by simp)).trans (by simp)
 have f3 : w1.frozen? ⟨w.heap.size + 1,3,none⟩ = false := (hb1.frozen (p := ⟨w.heap.size + 1,3,none⟩) (by simp)).trans (by simp)
 clear hb1
 go_wp2
 (try simp only [Exit.inBlock,Exit.then])
 refine bodyPost_ret (res_p (B := w.heap.size + 1) (v0 := .int .i64 0) (v1 := .int .i64 (0)) (v2 := .string ⟨#[]⟩) (v3 := .string ⟨#[]⟩) rfl rfl ?c0 ?c1 ?c2 ?c3) rfl ?_
 case c0 => simp (maxDischargeDepth := 12) [cell_set,q0]
 case c1 => simp (maxDischargeDepth := 12) [cell_set,q1]
 case c2 => simp (maxDischargeDepth := 12) [cell_set,q2]
 case c3 => simp (maxDischargeDepth := 12) [cell_set,q3]
 exact ⟨_,_,_,_,_,_,_,_,rfl,.inl rfl,by have := uh HB1; go_grown⟩
theorem gval_var (v : Value) (l : List Int) (w : World) (h : Byt w v l) (wd lo hi : Int) (N : Int) (K : Nat) (hg : V.vget l = (N,(K : Int),0)) : Calls Tryz.prog 211 #[v,shp 2 wd lo hi] w (GvOk N es es K w) := by
 obtain ⟨ao,cap,rfl,hc1,hc2⟩ := h.form
 have HV := zh h
 have Hhg := zh hg
 clear hg
 clear h
 generalize hn : l.length = n at hc1 HV
 go_enter Tryz.func211,Tryz.ntmps211
 go_wp2_with fail
 refine (vget_good _ l _ ((uh HV).below (by go_grown)) N K (uh Hhg)).mono ?_
 rintro e w1 ⟨rfl,hb1⟩
 have HB1 : Hid (Below w.heap.size w w1) := ((bal _ _).alloc (by simp) _).trans (hb1.mono (by simp; omega))
 have q0 : w1.cell? ⟨w.heap.size + 1,0,none⟩ = some (.int .i64 0) := (hb1.cell (p := ⟨w.heap.size + 1,0,none⟩) (by simp)).trans (by simp)
 have q1 : w1.cell? ⟨w.heap.size + 1,1,none⟩ = some (.int .i64 0) := (hb1.cell (p := ⟨w.heap.size + 1,1,none⟩) (by simp)).trans (by simp)
 have q2 : w1.cell? ⟨w.heap.size + 1,2,none⟩ = some (.string ⟨#[]⟩) := (hb1.cell (p := ⟨w.heap.size + 1,2,none⟩) (by simp)).trans (by simp)
 have q3 : w1.cell? ⟨w.heap.size + 1,3,none⟩ = some (.string ⟨#[]⟩) := (hb1.cell (p := ⟨w.heap.size + 1,3,none⟩) (by simp)).trans (by simp)
 have f0 : w1.frozen? ⟨w.heap.size + 1,0,none⟩ = false := (hb1.frozen (p := ⟨w.heap.size + 1,0,none⟩) (by simp)).trans (by simp)
 have f1 : w1.frozen? ⟨w.heap.size + 1,1,none⟩ = false := (hb1.frozen (p := ⟨w.heap.size + 1,1,none⟩) (by simp)).trans (by simp)
 have f2 : w1.frozen? ⟨w.heap.size + 1,2,none⟩ = false := (hb1.frozen (p := ⟨w.heap.size + 1,2,none⟩) (by simp)).trans (by simp)
 have f3 : w1.frozen? ⟨w.heap.size + 1,3,none⟩ = false := (hb1.frozen (p := ⟨w.heap.size + 1,3,none⟩) (by simp)).trans (by simp)
 clear hb1
 go_wp2
 (try simp only [Exit.inBlock,Exit.then])
 refine bodyPost_ret (res_p (B := w.heap.size + 1) (v0 := .int .i64 0) (v1 := .int .i64 (N)) (v2 := .string ⟨#[]⟩) (v3 := .string ⟨#[]⟩) rfl rfl ?c0 ?c1 ?c2 ?c3) rfl ?_
 case c0 => simp (maxDischargeDepth := 12) [cell_set,q0]
 case c1 => simp (maxDischargeDepth := 12) [cell_set,q1]
 case c2 => simp (maxDischargeDepth := 12) [cell_set,q2]
 case c3 => simp (maxDischargeDepth := 12) [cell_set,q3]
 exact ⟨rfl,by have := uh HB1; go_grown⟩
theorem gval_var_bad (v : Value) (l : List Int) (w : World) (h : Byt w v l) (wd lo hi : Int) (m : Int) (hg : (V.vget l).2.2 = m) (hm : m ≠ 0) : Calls Tryz.prog 211 #[v,shp 2 wd lo hi] w (GvBad w) := by
 obtain ⟨ao,cap,rfl,hc1,hc2⟩ := h.form
 have HV := zh h
 have Hhg := zh hg
 clear hg
 clear h
 generalize hn : l.length = n at hc1 HV
 go_enter Tryz.func211,Tryz.ntmps211
 go_wp2_with fail
 refine (vget_fail _ l _ ((uh HV).below (by go_grown)) m (uh Hhg) hm).mono ?_
 rintro e w1 ⟨a,b,x,rfl,hi,hb1⟩
 have HB1 : Hid (Below w.heap.size w w1) := ((bal _ _).alloc (by simp) _).trans (hb1.mono (by simp; omega))
 have q0 : w1.cell? ⟨w.heap.size + 1,0,none⟩ = some (.int .i64 0) := (hb1.cell (p := ⟨w.heap.size + 1,0,none⟩) (by simp)).trans (by simp)
 have q1 : w1.cell? ⟨w.heap.size + 1,1,none⟩ = some (.int .i64 0) := (hb1.cell (p := ⟨w.heap.size + 1,1,none⟩) (by simp)).trans (by simp)
 have q2 : w1.cell? ⟨w.heap.size + 1,2,none⟩ = some (.string ⟨#[]⟩) := (hb1.cell (p := ⟨w.heap.size + 1,2,none⟩) (by simp)).trans (by simp)
 have q3 : w1.cell? ⟨w.heap.size + 1,3,none⟩ = some (.string ⟨#[]⟩) := (hb1.cell (p := ⟨w.heap.size + 1,3,none⟩) (by simp)).trans (by simp)
 have f0 : w1.frozen? ⟨w.heap.size + 1,0,none⟩ = false := (hb1.frozen (p := ⟨w.heap.size + 1,0,none⟩) (by simp)).trans (by simp)
 have f1 : w1.frozen? ⟨w.heap.size + 1,1,none⟩ = false := (hb1.frozen (p := ⟨w.heap.size + 1,1,none⟩) (by simp)).trans (by simp)
 have f2 : w1.frozen? ⟨w.heap.size + 1,2,none⟩ = false := (hb1.frozen (p := ⟨w.heap.size + 1,2,none⟩) (by simp)).trans (by simp)
 have f3 : w1.frozen? ⟨w.heap.size + 1,3,none⟩ = false := (hb1.frozen (p := ⟨w.heap.size + 1,3,none⟩) (by simp)).trans (by simp)
 clear hb1
 have HOF := zh ((uh hi).off q1)
 clear hi
 go_wp2
 (try simp only [Exit.inBlock,Exit.then])
 refine bodyPost_ret (res_p (B := w.heap.size + 1) (v0 := .int .i64 0) (v1 := .int .i64 (a)) (v2 := .string ⟨#[]⟩) (v3 := .string ⟨#[]⟩) rfl rfl ?c0 ?c1 ?c2 ?c3) rfl ?_
 case c0 => simp (maxDischargeDepth := 12) [cell_set,q0]
 case c1 => simp (maxDischargeDepth := 12) [cell_set,q1]
 case c2 => simp (maxDischargeDepth := 12) [cell_set,q2]
 case c3 => simp (maxDischargeDepth := 12) [cell_set,q3]
 refine ⟨_,_,_,_,_,_,_,m,rfl,InnOff.inn (B := w.heap.size + 1) ?_,?_⟩
 ·refine InnOff.set ?_ rfl; refine InnOff.set ?_ rfl; refine InnOff.set ?_ rfl; refine InnOff.set ?_ rfl; refine InnOff.set ?_ rfl; exact uh HOF
 ·have := uh HB1; go_grown
theorem gval_text (v : Value) (l : List Int) (w : World) (h : Byt w v l) (wd lo hi : Int) (s : ByteArray) (K : Nat) (hg : gt l = (s,(K : Int),0)) : Calls Tryz.prog 211 #[v,shp 3 wd lo hi] w (GvOk 0 s es K w) := by
 obtain ⟨ao,cap,rfl,hc1,hc2⟩ := h.form
 have HV := zh h
 have Hhg := zh hg
 clear hg
 clear h
 generalize hn : l.length = n at hc1 HV
 go_enter Tryz.func211,Tryz.ntmps211
 go_wp2_with fail
 refine (tget_good _ l _ ((uh HV).below (by go_grown)) s K (uh Hhg)).mono ?_
 rintro e w1 ⟨rfl,hb1⟩
 have HB1 : Hid (Below w.heap.size w w1) := ((bal _ _).alloc (by simp) _).trans (hb1.mono (by simp; omega))
 have q0 : w1.cell? ⟨w.heap.size + 1,0,none⟩ = some (.int .i64 0) := (hb1.cell (p := ⟨w.heap.size + 1,0,none⟩) (by simp)).trans (by simp)
 have q1 : w1.cell? ⟨w.heap.size + 1,1,none⟩ = some (.int .i64 0) := (hb1.cell (p := ⟨w.heap.size + 1,1,none⟩) (by simp)).trans (by simp)
 have q2 : w1.cell? ⟨w.heap.size + 1,2,none⟩ = some (.string ⟨#[]⟩) := (hb1.cell (p := ⟨w.heap.size + 1,2,none⟩) (by simp)).trans (by simp)
 have q3 : w1.cell? ⟨w.heap.size + 1,3,none⟩ = some (.string ⟨#[]⟩) := (hb1.cell (p := ⟨w.heap.size + 1,3,none⟩) (by simp)).trans (by simp)
 have f0 : w1.frozen? ⟨w.heap.size + 1,0,none⟩ = false := (hb1.frozen (p := ⟨w.heap.size + 1,0,none⟩) (by simp)).trans (by simp)
 have f1 : w1.frozen? ⟨w.heap.size + 1,1,none⟩ = false := (hb1.frozen (p := ⟨w.heap.size + 1,1,none⟩) (by simp)).trans (by simp)
 have f2 : w1.frozen? ⟨w.heap.size + 1,2,none⟩ = false := (hb1.frozen (p := ⟨w.heap.size + 1,2,none⟩) (by simp)).trans (by simp)
 have f3 : w1.frozen? ⟨w.heap.size + 1,3,none⟩ = false := (hb1.frozen (p := ⟨w.heap.size + 1,3,none⟩) (by simp)).trans (by simp)
 clear hb1
 go_wp2
 (try simp only [Exit.inBlock,Exit.then])
 refine bodyPost_ret (res_p (B := w.heap.size + 1) (v0 := .int .i64 0) (v1 := .int .i64 (0)) (v2 := .string s) (v3 := .string ⟨#[]⟩) rfl rfl ?c0 ?c1 ?c2 ?c3) rfl ?_
 case c0 => simp (maxDischargeDepth := 12) [cell_set,q0]
 case c1 => simp (maxDischargeDepth := 12) [cell_set,q1]
 case c2 => simp (maxDischargeDepth := 12) [cell_set,q2]
 case c3 => simp (maxDischargeDepth := 12) [cell_set,q3]
 exact ⟨rfl,by have := uh HB1; go_grown⟩
theorem gval_text_bad (v : Value) (l : List Int) (w : World) (h : Byt w v l) (wd lo hi : Int) (m : Int) (hg : (gt l).2.2 = m) (hm : m ≠ 0) : Calls Tryz.prog 211 #[v,shp 3 wd lo hi] w (GvBad w) := by
 obtain ⟨ao,cap,rfl,hc1,hc2⟩ := h.form
 have HV := zh h
 have Hhg := zh hg
 clear hg
 clear h
 generalize hn : l.length = n at hc1 HV
 go_enter Tryz.func211,Tryz.ntmps211
 go_wp2_with fail
 refine (tget_fail _ l _ ((uh HV).below (by go_grown)) m (uh Hhg) hm).mono ?_
 rintro e w1 ⟨s,a,x,rfl,hi,hb1⟩
 have HB1 : Hid (Below w.heap.size w w1) := ((bal _ _).alloc (by simp) _).trans (hb1.mono (by simp; omega))
 have q0 : w1.cell? ⟨w.heap.size + 1,0,none⟩ = some (.int .i64 0) := (hb1.cell (p := ⟨w.heap.size + 1,0,none⟩) (by simp)).trans (by simp)
 have q1 : w1.cell? ⟨w.heap.size + 1,1,none⟩ = some (.int .i64 0) := (hb1.cell (p := ⟨w.heap.size + 1,1,none⟩) (by simp)).trans (by simp)
 have q2 : w1.cell? ⟨w.heap.size + 1,2,none⟩ = some (.string ⟨#[]⟩) := (hb1.cell (p := ⟨w.heap.size + 1,2,none⟩) (by simp)).trans (by simp)
 have q3 : w1.cell? ⟨w.heap.size + 1,3,none⟩ = some (.string ⟨#[]⟩) := (hb1.cell (p := ⟨w.heap.size + 1,3,none⟩) (by simp)).trans (by simp)
 have f0 : w1.frozen? ⟨w.heap.size + 1,0,none⟩ = false := (hb1.frozen (p := ⟨w.heap.size + 1,0,none⟩) (by simp)).trans (by simp)
 have f1 : w1.frozen? ⟨w.heap.size + 1,1,none⟩ = false := (hb1.frozen (p := ⟨w.heap.size + 1,1,none⟩) (by simp)).trans (by simp)
 have f2 : w1.frozen? ⟨w.heap.size + 1,2,none⟩ = false := (hb1.frozen (p := ⟨w.heap.size + 1,2,none⟩) (by simp)).trans (by simp)
 have f3 : w1.frozen? ⟨w.heap.size + 1,3,none⟩ = false := (hb1.frozen (p := ⟨w.heap.size + 1,3,none⟩) (by simp)).trans (by simp)
 clear hb1
 have HOF := zh ((uh hi).off q1)
 clear hi
 go_wp2
 (try simp only [Exit.inBlock,Exit.then])
 refine bodyPost_ret (res_p (B := w.heap.size + 1) (v0 := .int .i64 0) (v1 := .int .i64 (0)) (v2 := .string s) (v3 := .string ⟨#[]⟩) rfl rfl ?c0 ?c1 ?c2 ?c3) rfl ?_
 case c0 => simp (maxDischargeDepth := 12) [cell_set,q0]
 case c1 => simp (maxDischargeDepth := 12) [cell_set,q1]
 case c2 => simp (maxDischargeDepth := 12) [cell_set,q2]
 case c3 => simp (maxDischargeDepth := 12) [cell_set,q3]
 refine ⟨_,_,_,_,_,_,_,m,rfl,InnOff.inn (B := w.heap.size + 1) ?_,?_⟩
 ·refine InnOff.set ?_ rfl; refine InnOff.set ?_ rfl; refine InnOff.set ?_ rfl; refine InnOff.set ?_ rfl; refine InnOff.set ?_ rfl; exact uh HOF
 ·have := uh HB1; go_grown
theorem gval_bin (v : Value) (l : List Int) (w : World) (h : Byt w v l) (wd lo hi : Int) (s : ByteArray) (K : Nat) (hg : gbn l = (s,(K : Int),0)) : Calls Tryz.prog 211 #[v,shp 4 wd lo hi] w (GvOk 0 s es K w) := by
 obtain ⟨ao,cap,rfl,hc1,hc2⟩ := h.form
 have HV := zh h
 have Hhg := zh hg
 clear hg
 clear h
 generalize hn : l.length = n at hc1 HV
 go_enter Tryz.func211,Tryz.ntmps211
 go_wp2_with fail
 refine (tbin_good _ l _ ((uh HV).below (by go_grown)) s K (uh Hhg)).mono ?_
 rintro e w1 ⟨rfl,hb1⟩
 have HB1 : Hid (Below w.heap.size w w1) := ((bal _ _).alloc (by simp) _).trans (hb1.mono (by simp; omega))
 have q0 : w1.cell? ⟨w.heap.size + 1,0,none⟩ = some (.int .i64 0) := (hb1.cell (p := ⟨w.heap.size + 1,0,none⟩) (by simp)).trans (by simp)
 have q1 : w1.cell? ⟨w.heap.size + 1,1,none⟩ = some (.int .i64 0) := (hb1.cell (p := ⟨w.heap.size + 1,1,none⟩) (by simp)).trans (by simp)
 have q2 : w1.cell? ⟨w.heap.size + 1,2,none⟩ = some (.string ⟨#[]⟩) := (hb1.cell (p := ⟨w.heap.size + 1,2,none⟩) (by simp)).trans (by simp)
 have q3 : w1.cell? ⟨w.heap.size + 1,3,none⟩ = some (.string ⟨#[]⟩) := (hb1.cell (p := ⟨w.heap.size + 1,3,none⟩) (by simp)).trans (by simp)
 have f0 : w1.frozen? ⟨w.heap.size + 1,0,none⟩ = false := (hb1.frozen (p := ⟨w.heap.size + 1,0,none⟩) (by simp)).trans (by simp)
 have f1 : w1.frozen? ⟨w.heap.size + 1,1,none⟩ = false := (hb1.frozen (p := ⟨w.heap.size + 1,1,none⟩) (by simp)).trans (by simp)
 have f2 : w1.frozen? ⟨w.heap.size + 1,2,none⟩ = false := (hb1.frozen (p := ⟨w.heap.size + 1,2,none⟩) (by simp)).trans (by simp)
 have f3 : w1.frozen? ⟨w.heap.size + 1,3,none⟩ = false := (hb1.frozen (p := ⟨w.heap.size + 1,3,none⟩) (by simp)).trans (by simp)
 clear hb1
 go_wp2
 (try simp only [Exit.inBlock,Exit.then])
 refine bodyPost_ret (res_p (B := w.heap.size + 1) (v0 := .int .i64 0) (v1 := .int .i64 (0)) (v2 := .string s) (v3 := .string ⟨#[]⟩) rfl rfl ?c0 ?c1 ?c2 ?c3) rfl ?_
 case c0 => simp (maxDischargeDepth := 12) [cell_set,q0]
 case c1 => simp (maxDischargeDepth := 12) [cell_set,q1]
 case c2 => simp (maxDischargeDepth := 12) [cell_set,q2]
 case c3 => simp (maxDischargeDepth := 12) [cell_set,q3]
 exact ⟨rfl,by have := uh HB1; go_grown⟩
theorem gval_bin_bad (v : Value) (l : List Int) (w : World) (h : Byt w v l) (wd lo hi : Int) (m : Int) (hg : (gbn l).2.2 = m) (hm : m ≠ 0) : Calls Tryz.prog 211 #[v,shp 4 wd lo hi] w (GvBad w) := by
 obtain ⟨ao,cap,rfl,hc1,hc2⟩ := h.form
 have HV := zh h
 have Hhg := zh hg
 clear hg
 clear h
 generalize hn : l.length = n at hc1 HV
 go_enter Tryz.func211,Tryz.ntmps211
 go_wp2_with fail
 refine (tbin_fail _ l _ ((uh HV).below (by go_grown)) m (uh Hhg) hm).mono ?_
 rintro e w1 ⟨s,a,x,rfl,hi,hb1⟩
 have HB1 : Hid (Below w.heap.size w w1) := ((bal _ _).alloc (by simp) _).trans (hb1.mono (by simp; omega))
 have q0 : w1.cell? ⟨w.heap.size + 1,0,none⟩ = some (.int .i64 0) := (hb1.cell (p := ⟨w.heap.size + 1,0,none⟩) (by simp)).trans (by simp)
 have q1 : w1.cell? ⟨w.heap.size + 1,1,none⟩ = some (.int .i64 0) := (hb1.cell (p := ⟨w.heap.size + 1,1,none⟩) (by simp)).trans (by simp)
 have q2 : w1.cell? ⟨w.heap.size + 1,2,none⟩ = some (.string ⟨#[]⟩) := (hb1.cell (p := ⟨w.heap.size + 1,2,none⟩) (by simp)).trans (by simp)
 have q3 : w1.cell? ⟨w.heap.size + 1,3,none⟩ = some (.string ⟨#[]⟩) := (hb1.cell (p := ⟨w.heap.size + 1,3,none⟩) (by simp)).trans (by simp)
 have f0 : w1.frozen? ⟨w.heap.size + 1,0,none⟩ = false := (hb1.frozen (p := ⟨w.heap.size + 1,0,none⟩) (by simp)).trans (by simp)
 have f1 : w1.frozen? ⟨w.heap.size + 1,1,none⟩ = false := (hb1.frozen (p := ⟨w.heap.size + 1,1,none⟩) (by simp)).trans (by simp)
 have f2 : w1.frozen? ⟨w.heap.size + 1,2,none⟩ = false := (hb1.frozen (p := ⟨w.heap.size + 1,2,none⟩) (by simp)).trans (by simp)
 have f3 : w1.frozen? ⟨w.heap.size + 1,3,none⟩ = false := (hb1.frozen (p := ⟨w.heap.size + 1,3,none⟩) (by simp)).trans (by simp)
 clear hb1
 have HOF := zh ((uh hi).off q1)
 clear hi
 go_wp2
 (try simp only [Exit.inBlock,Exit.then])
 refine bodyPost_ret (res_p (B := w.heap.size + 1) (v0 := .int .i64 0) (v1 := .int .i64 (0)) (v2 := .string s) (v3 := .string ⟨#[]⟩) rfl rfl ?c0 ?c1 ?c2 ?c3) rfl ?_
 case c0 => simp (maxDischargeDepth := 12) [cell_set,q0]
 case c1 => simp (maxDischargeDepth := 12) [cell_set,q1]
 case c2 => simp (maxDischargeDepth := 12) [cell_set,q2]
 case c3 => simp (maxDischargeDepth := 12) [cell_set,q3]
 refine ⟨_,_,_,_,_,_,_,m,rfl,InnOff.inn (B := w.heap.size + 1) ?_,?_⟩
 ·refine InnOff.set ?_ rfl; refine InnOff.set ?_ rfl; refine InnOff.set ?_ rfl; refine InnOff.set ?_ rfl; refine InnOff.set ?_ rfl; exact uh HOF
 ·have := uh HB1; go_grown
theorem gval_pair (v : Value) (l : List Int) (w : World) (h : Byt w v l) (wd lo hi : Int) (s t : ByteArray) (K M : Nat) (h1 : gt l = (s,(K : Int),0)) (h2 : gt (l.drop K) = (t,(M : Int),0)) (hK : 2 <= K /\ K <= l.length) (hM : K + M <= l.length) : Calls Tryz.prog 211 #[v,shp 5 wd lo hi] w (GvOk 0 s t (K + M : Nat) w) := by
 obtain ⟨ao,cap,rfl,hc1,hc2⟩ := h.form
 have HV := zh h
 have Hh1 := zh h1
 clear h1
 have Hh2 := zh h2
 clear h2
 have HhK := zh hK
 clear hK
 have HhM := zh hM
 clear hM
 clear h
 generalize hn : l.length = n at hc1 HV
 go_enter Tryz.func211,Tryz.ntmps211
 go_wp2_with fail
 refine (gpair_ok _ l _ ((uh HV).below (by go_grown)) s t K M (uh Hh1) (uh Hh2) (uh HhK) (uh HhM)).mono ?_
 rintro e w1 ⟨rfl,hb1⟩
 have HB1 : Hid (Below w.heap.size w w1) := ((bal _ _).alloc (by simp) _).trans (hb1.mono (by simp; omega))
 have q0 : w1.cell? ⟨w.heap.size + 1,0,none⟩ = some (.int .i64 0) := (hb1.cell (p := ⟨w.heap.size + 1,0,none⟩) (by simp)).trans (by simp)
 have q1 : w1.cell? ⟨w.heap.size + 1,1,none⟩ = some (.int .i64 0) := (hb1.cell (p := ⟨w.heap.size + 1,1,none⟩) (by simp)).trans (by simp)
 have q2 : w1.cell? ⟨w.heap.size + 1,2,none⟩ = some (.string ⟨#[]⟩) := (hb1.cell (p := ⟨w.heap.size + 1,2,none⟩) (by simp)).trans (by simp)
 have q3 : w1.cell? ⟨w.heap.size + 1,3,none⟩ = some (.string ⟨#[]⟩) := (hb1.cell (p := ⟨w.heap.size + 1,3,none⟩) (by simp)).trans (by simp)
 have f0 : w1.frozen? ⟨w.heap.size + 1,0,none⟩ = false := (hb1.frozen (p := ⟨w.heap.size + 1,0,none⟩) (by simp)).trans (by simp)
 have f1 : w1.frozen? ⟨w.heap.size + 1,1,none⟩ = false := (hb1.frozen (p := ⟨w.heap.size + 1,1,none⟩) (by simp)).trans (by simp)
 have f2 : w1.frozen? ⟨w.heap.size + 1,2,none⟩ = false := (hb1.frozen (p := ⟨w.heap.size + 1,2,none⟩) (by simp)).trans (by simp)
 have f3 : w1.frozen? ⟨w.heap.size + 1,3,none⟩ = false := (hb1.frozen (p := ⟨w.heap.size + 1,3,none⟩) (by simp)).trans (by simp)
 clear hb1
 go_wp2
 (try simp only [Exit.inBlock,Exit.then])
 refine bodyPost_ret (res_p (B := w.heap.size + 1) (v0 := .int .i64 0) (v1 := .int .i64 (0)) (v2 := .string s) (v3 := .string t) rfl rfl ?c0 ?c1 ?c2 ?c3) rfl ?_
 case c0 => simp (maxDischargeDepth := 12) [cell_set,q0]
 case c1 => simp (maxDischargeDepth := 12) [cell_set,q1]
 case c2 => simp (maxDischargeDepth := 12) [cell_set,q2]
 case c3 => simp (maxDischargeDepth := 12) [cell_set,q3]
 exact ⟨rfl,by have := uh HB1; go_grown⟩
theorem gval_pair_bad (v : Value) (l : List Int) (w : World) (h : Byt w v l) (wd lo hi : Int) (hp : ∀ W,Byt W v l -> Calls Tryz.prog 219 #[v] W (PairBad W)) : Calls Tryz.prog 211 #[v,shp 5 wd lo hi] w (GvBad w) := by
 obtain ⟨ao,cap,rfl,hc1,hc2⟩ := h.form
 have Hhp := zh hp
 clear hp
 have HV := zh h
 clear h
 generalize hn : l.length = n at hc1 HV Hhp
 go_enter Tryz.func211,Tryz.ntmps211
 go_wp2_with fail
 refine ((uh Hhp) _ ((uh HV).below (by go_grown))).mono ?_
 rintro e w1 ⟨s,t,a,x,m,rfl,hi,hb1⟩
 have HB1 : Hid (Below w.heap.size w w1) := ((bal _ _).alloc (by simp) _).trans (hb1.mono (by simp; omega))
 have q0 : w1.cell? ⟨w.heap.size + 1,0,none⟩ = some (.int .i64 0) := (hb1.cell (p := ⟨w.heap.size + 1,0,none⟩) (by simp)).trans (by simp)
 have q1 : w1.cell? ⟨w.heap.size + 1,1,none⟩ = some (.int .i64 0) := (hb1.cell (p := ⟨w.heap.size + 1,1,none⟩) (by simp)).trans (by simp)
 have q2 : w1.cell? ⟨w.heap.size + 1,2,none⟩ = some (.string ⟨#[]⟩) := (hb1.cell (p := ⟨w.heap.size + 1,2,none⟩) (by simp)).trans (by simp)
 have q3 : w1.cell? ⟨w.heap.size + 1,3,none⟩ = some (.string ⟨#[]⟩) := (hb1.cell (p := ⟨w.heap.size + 1,3,none⟩) (by simp)).trans (by simp)
 have f0 : w1.frozen? ⟨w.heap.size + 1,0,none⟩ = false := (hb1.frozen (p := ⟨w.heap.size + 1,0,none⟩) (by simp)).trans (by simp)
 have f1 : w1.frozen? ⟨w.heap.size + 1,1,none⟩ = false := (hb1.frozen (p := ⟨w.heap.size + 1,1,none⟩) (by simp)).trans (by simp)
 have f2 : w1.frozen? ⟨w.heap.size + 1,2,none⟩ = false := (hb1.frozen (p := ⟨w.heap.size + 1,2,none⟩) (by simp)).trans (by simp)
 have f3 : w1.frozen? ⟨w.heap.size + 1,3,none⟩ = false := (hb1.frozen (p := ⟨w.heap.size + 1,3,none⟩) (by simp)).trans (by simp)
 clear hb1
 have HOF := zh ((uh hi).off q1)
 clear hi
 go_wp2
 (try simp only [Exit.inBlock,Exit.then])
 refine bodyPost_ret (res_p (B := w.heap.size + 1) (v0 := .int .i64 0) (v1 := .int .i64 (0)) (v2 := .string s) (v3 := .string t) rfl rfl ?c0 ?c1 ?c2 ?c3) rfl ?_
 case c0 => simp (maxDischargeDepth := 12) [cell_set,q0]
 case c1 => simp (maxDischargeDepth := 12) [cell_set,q1]
 case c2 => simp (maxDischargeDepth := 12) [cell_set,q2]
 case c3 => simp (maxDischargeDepth := 12) [cell_set,q3]
 refine ⟨_,_,_,_,_,_,_,m,rfl,InnOff.inn (B := w.heap.size + 1) ?_,?_⟩
 ·refine InnOff.set ?_ rfl; refine InnOff.set ?_ rfl; refine InnOff.set ?_ rfl; refine InnOff.set ?_ rfl; refine InnOff.set ?_ rfl; refine InnOff.set ?_ rfl; exact uh HOF
 ·have := uh HB1; go_grown
theorem gval_none (v : Value) (l : List Int) (w : World) (h : Byt w v l) (wd lo hi : Int) : Calls Tryz.prog 211 #[v,shp 0 wd lo hi] w (GvBad w) := by
 obtain ⟨ao,cap,rfl,hc1,hc2⟩ := h.form
 have HV := zh h
 clear h
 generalize hn : l.length = n at hc1 HV
 go_enter Tryz.func211,Tryz.ntmps211
 go_wp2
 go_returns
 exact ⟨_,_,_,_,_,_,_,_,rfl,.inl rfl,by go_grown⟩
def GoOk (p : Pr) (K : Int) (w : World) (e : Ending) (w' : World) : Prop := e = .returned (.tuple #[.agg #[.int .i64 p.1,.int .i64 p.2.1,.string p.2.2.1,.string p.2.2.2],.int .i64 K,.nilIface]) /\ Below w.heap.size w w'
def set4 (w : World) (B : Nat) (a b : Int) (s t : ByteArray) : World := (((w.setCell ⟨B,0,none⟩ (.int .i64 a)).setCell ⟨B,1,none⟩ (.int .i64 b)).setCell ⟨B,2,none⟩ (.string s)).setCell ⟨B,3,none⟩ (.string t)
theorem set4_c0 (w : World) (B : Nat) (a b : Int) (s t : ByteArray) {x : Value} (h : w.cell? ⟨B,0,none⟩ = some x) : (set4 w B a b s t).cell? ⟨B,0,none⟩ = some (.int .i64 a) := by
 unfold set4
 simp (maxDischargeDepth := 12) [cell_set,h]
theorem set4_c1 (w : World) (B : Nat) (a b : Int) (s t : ByteArray) {x : Value} (h : w.cell? ⟨B,1,none⟩ = some x) : (set4 w B a b s t).cell? ⟨B,1,none⟩ = some (.int .i64 b) := by
 unfold set4
 simp (maxDischargeDepth := 12) [cell_set,h]
theorem set4_c2 (w : World) (B : Nat) (a b : Int) (s t : ByteArray) {x : Value} (h : w.cell? ⟨B,2,none⟩ = some x) : (set4 w B a b s t).cell? ⟨B,2,none⟩ = some (.string s) := by
 unfold set4
 simp (maxDischargeDepth := 12) [cell_set,h]
theorem set4_c3 (w : World) (B : Nat) (a b : Int) (s t : ByteArray) {x : Value} (h : w.cell? ⟨B,3,none⟩ = some x) : (set4 w B a b s t).cell? ⟨B,3,none⟩ = some (.string t) := by
 unfold set4
 simp (maxDischargeDepth := 12) [cell_set,h]
theorem set4_frozen (w : World) (B : Nat) (a b : Int) (s t : ByteArray) (p : Addr) : (set4 w B a b s t).frozen? p = w.frozen? p := by
 unfold set4
 simp [World.frozen?_setCell]
theorem set4_below (w w0 : World) (B B0 : Nat) (a b : Int) (s t : ByteArray) (h : Below B0 w0 w) (hB : B0 <= B) : Below B0 w0 (set4 w B a b s t) := by
 unfold set4
 exact (((h.setCell hB _).setCell hB _).setCell hB _).setCell hB _
theorem set4_off {B : Nat} {w : World} {v : Value} {n : Int} (h : InnOff B w v n) (a b : Int) (s t : ByteArray) : InnOff B (set4 w B a b s t) v n := by
 unfold set4
 exact (((h.set rfl).set rfl).set rfl).set rfl
theorem gone_bad1 (v : Value) (l : List Int) (w : World) (h : Byt w v l) (m : Int) (hv : (V.vget l).2.2 = m) (hm : m ≠ 0) : Calls Tryz.prog 204 #[v] w (GvBad w) := by
 obtain ⟨ao,cap,rfl,hc1,hc2⟩ := h.form
 have HV := zh h
 have Hhv := zh hv
 clear h hv
 generalize hn : l.length = n at hc1 HV
 go_enter Tryz.func204,Tryz.ntmps204
 go_wp2_with fail
 refine (vget_fail _ l _ ((uh HV).below (by go_grown)) m (uh Hhv) hm).mono ?_
 rintro e w1 ⟨a,b,x,rfl,hi,hb1⟩
 have HB1 := bal1 hb1
 have q0 : w1.cell? ⟨w.heap.size,0,none⟩ = some (.int .i64 0) := (hb1.cell (p := ⟨w.heap.size,0,none⟩) (by simp)).trans (by simp)
 have f0 : w1.frozen? ⟨w.heap.size,0,none⟩ = false := (hb1.frozen (p := ⟨w.heap.size,0,none⟩) (by simp)).trans (by simp)
 have q1 : w1.cell? ⟨w.heap.size,1,none⟩ = some (.int .i64 0) := (hb1.cell (p := ⟨w.heap.size,1,none⟩) (by simp)).trans (by simp)
 have f1 : w1.frozen? ⟨w.heap.size,1,none⟩ = false := (hb1.frozen (p := ⟨w.heap.size,1,none⟩) (by simp)).trans (by simp)
 have q2 : w1.cell? ⟨w.heap.size,2,none⟩ = some (.string ⟨#[]⟩) := (hb1.cell (p := ⟨w.heap.size,2,none⟩) (by simp)).trans (by simp)
 have f2 : w1.frozen? ⟨w.heap.size,2,none⟩ = false := (hb1.frozen (p := ⟨w.heap.size,2,none⟩) (by simp)).trans (by simp)
 have q3 : w1.cell? ⟨w.heap.size,3,none⟩ = some (.string ⟨#[]⟩) := (hb1.cell (p := ⟨w.heap.size,3,none⟩) (by simp)).trans (by simp)
 have f3 : w1.frozen? ⟨w.heap.size,3,none⟩ = false := (hb1.frozen (p := ⟨w.heap.size,3,none⟩) (by simp)).trans (by simp)
 have HOF := zh ((uh hi).off q1)
 clear hb1 hi
 go_wp2
 (try simp only [Exit.inBlock,Exit.then])
 refine bodyPost_ret (res_p (B := w.heap.size) (v0 := .int .i64 0) (v1 := .int .i64 0) (v2 := .string ⟨#[]⟩) (v3 := .string ⟨#[]⟩) rfl rfl ?c0 ?c1 ?c2 ?c3) rfl ?_
 case c0 => simp (maxDischargeDepth := 12) [cell_set,q0]
 case c1 => simp (maxDischargeDepth := 12) [cell_set,q1]
 case c2 => simp (maxDischargeDepth := 12) [cell_set,q2]
 case c3 => simp (maxDischargeDepth := 12) [cell_set,q3]
 refine ⟨_,_,_,_,_,_,_,m,rfl,InnOff.inn (B := w.heap.size) ?_,?_⟩
 ·refine InnOff.set ?_ rfl; refine InnOff.set ?_ rfl; refine InnOff.set ?_ rfl; refine InnOff.set ?_ rfl; exact uh HOF
 ·have := uh HB1; go_grown
theorem gone_ok (v : Value) (l : List Int) (w : World) (h : Byt w v l) (id : Int) (Q : Nat) (hv : V.vget l = (id,(Q : Int),0)) (hQ : 1 <= Q /\ Q <= l.length) (f wd lo hi : Int) (hsh : shv id = .agg #[.int .i64 f,.int .i64 wd,.int .i64 lo,.int .i64 hi]) (N : Int) (s t : ByteArray) (M : Nat) (hM : Q + M <= l.length) (hg : ∀ vb W,Byt W vb (l.drop Q) -> Calls Tryz.prog 211 #[vb,shp f wd lo hi] W (GvOk N s t M W)) : Calls Tryz.prog 204 #[v] w (GoOk (id,N,s,t) (Q + M : Nat) w) := by
 obtain ⟨b,off,cap,rfl,hc1,hc2⟩ := h.form1 (by omega)
 unfold maxLen at hc2
 have HV := zh h
 have Hhv := zh hv
 have HSH := zh hsh
 have HG := zh hg
 clear h hv hsh hg
 generalize hn : l.length = n at hc1 hQ HV hM
 have HN := zh hn
 clear hn
 by_cases hcQ : cap = Q
 ·have hcQ2 := hcQ.symm
  clear hcQ
  subst hcQ2
  go_enter Tryz.func204,Tryz.ntmps204
  go_wp2_with fail
  refine (vget_good _ l _ ((uh HV).below (by go_grown)) id Q (uh Hhv)).mono ?_
  rintro e w1 ⟨rfl,hb1⟩
  have HB1 := bal1 hb1
  have HD : Hid (Byt w1 (.slice (some ⟨b,off,none⟩) 0 0) (l.drop Q)) := by
   show Byt _ _ _
   have := ((uh HV).below (uh HB1)).drop' Q (by omega)
   rw [if_pos rfl,Nat.sub_self,show n - Q = 0 from by omega] at this; exact this
  have q0 : w1.cell? ⟨w.heap.size,0,none⟩ = some (.int .i64 0) := (hb1.cell (p := ⟨w.heap.size,0,none⟩) (by simp)).trans (by simp)
  have f0 : w1.frozen? ⟨w.heap.size,0,none⟩ = false := (hb1.frozen (p := ⟨w.heap.size,0,none⟩) (by simp)).trans (by simp)
  have q1 : w1.cell? ⟨w.heap.size,1,none⟩ = some (.int .i64 0) := (hb1.cell (p := ⟨w.heap.size,1,none⟩) (by simp)).trans (by simp)
  have f1 : w1.frozen? ⟨w.heap.size,1,none⟩ = false := (hb1.frozen (p := ⟨w.heap.size,1,none⟩) (by simp)).trans (by simp)
  have q2 : w1.cell? ⟨w.heap.size,2,none⟩ = some (.string ⟨#[]⟩) := (hb1.cell (p := ⟨w.heap.size,2,none⟩) (by simp)).trans (by simp)
  have f2 : w1.frozen? ⟨w.heap.size,2,none⟩ = false := (hb1.frozen (p := ⟨w.heap.size,2,none⟩) (by simp)).trans (by simp)
  have q3 : w1.cell? ⟨w.heap.size,3,none⟩ = some (.string ⟨#[]⟩) := (hb1.cell (p := ⟨w.heap.size,3,none⟩) (by simp)).trans (by simp)
  have f3 : w1.frozen? ⟨w.heap.size,3,none⟩ = false := (hb1.frozen (p := ⟨w.heap.size,3,none⟩) (by simp)).trans (by simp)
  have hl1 : w.heap.size < w1.heap.size := cell_lt q0
  have HC : Hid (Below w1.heap.size w1 w1) := Below.refl _ _
  clear hb1
  go_wp2_with fail
  refine wp_region_noPanic ?_
  refine wp_region_held_drew (S := (fun _ => True)) (by kernel_rfl) trivial (fun hHeld => ?_)
  refine rtk 0 (h := ?_)
  refine rtk 1 (h := ?_)
  refine rtk 2 (h := ?_)
  refine rtk 3 (h := ?_)
  refine rcl 4 (h := fun K hK => ?_)
  go_simp
  refine (shape_use id f wd lo hi (uh HSH) _).mono ?_
  rintro e w2 ⟨rfl,hb2⟩
  have hb2' := below_undrew1 hb2
  clear hb2
  have HD2 := zh ((uh HD).below hb2')
  refine hK.out _ _ trivial (fun hHeld => ?_)
  clear hK K
  refine rcl 5 (h := fun K hK => ?_)
  go_simp
  refine ((uh HG) _ _ (uh HD2)).mono ?_
  rintro e w3 ⟨rfl,hb3⟩
  have HB3 : Hid (Below w1.heap.size w1 w3) := hb2'.trans (hb3.mono hb2'.size)
  have r0 := ((uh HB3).cell (cell_lt q0)).trans q0
  have g0 := ((uh HB3).frozen (p := ⟨w.heap.size,0,none⟩) (cell_lt q0)).trans f0
  have r1 := ((uh HB3).cell (cell_lt q1)).trans q1
  have g1 := ((uh HB3).frozen (p := ⟨w.heap.size,1,none⟩) (cell_lt q1)).trans f1
  have r2 := ((uh HB3).cell (cell_lt q2)).trans q2
  have g2 := ((uh HB3).frozen (p := ⟨w.heap.size,2,none⟩) (cell_lt q2)).trans f2
  have r3 := ((uh HB3).cell (cell_lt q3)).trans q3
  have g3 := ((uh HB3).frozen (p := ⟨w.heap.size,3,none⟩) (cell_lt q3)).trans f3
  clear hb2' hb3
  refine hK.out _ _ trivial (fun hHeld => ?_)
  clear hK K
  refine rtk 6 (h := ?_)
  refine rtk 7 (h := ?_)
  refine rtk 8 (h := ?_)
  refine rtk 9 (h := ?_)
  refine rcl 10 (h := fun K hK => ?_)
  go_simp
  refine hK.out _ _ trivial (fun hHeld => ?_)
  clear hK K
  show wpAnyH _ _ _ _ _ _ _ _ (set4 w3 w.heap.size 0 N s t)
  have c0 := set4_c0 w3 w.heap.size 0 N s t r0
  have c1 := set4_c1 w3 w.heap.size 0 N s t r1
  have c2 := set4_c2 w3 w.heap.size 0 N s t r2
  have c3 := set4_c3 w3 w.heap.size 0 N s t r3
  have e0 := (set4_frozen w3 w.heap.size 0 N s t ⟨w.heap.size,0,none⟩).trans g0
  have e1 := (set4_frozen w3 w.heap.size 0 N s t ⟨w.heap.size,1,none⟩).trans g1
  have e2 := (set4_frozen w3 w.heap.size 0 N s t ⟨w.heap.size,2,none⟩).trans g2
  have e3 := (set4_frozen w3 w.heap.size 0 N s t ⟨w.heap.size,3,none⟩).trans g3
  have HB4 : Hid (Below w.heap.size w (set4 w3 w.heap.size 0 N s t)) := set4_below _ _ _ _ _ _ _ _ ((uh HB1).trans ((uh HB3).mono (uh HB1).size)) (Nat.le_refl _)
  generalize set4 w3 w.heap.size 0 N s t = W4 at c0 c1 c2 c3 e0 e1 e2 e3 HB4  |-
  clear r0 r1 r2 r3 g0 g1 g2 g3 q0 q1 q2 q3 f0 f1 f2 f3 HB3
  refine rcl 11 (h := fun K hK => ?_)
  go_simp
  refine hK.out _ _ trivial (fun hHeld => ?_)
  clear hK K
  refine rcl 12 (h := fun K hK => ?_)
  go_simp
  refine hK.out _ _ trivial (fun hHeld => ?_)
  clear hK K
  refine wpAnyH_done (by kernel_rfl) ?_ _
  refine NoPanic.normal ?_
  clear HD2 HG
  go_wp2
  (try simp only [Exit.inBlock,Exit.then])
  refine bodyPost_ret (res_p (B := w.heap.size) (v0 := .int .i64 (id)) (v1 := .int .i64 (N)) (v2 := .string s) (v3 := .string t) rfl rfl ?c0 ?c1 ?c2 ?c3) rfl ?_
  case c0 => simp (maxDischargeDepth := 12) [cell_set,c0]
  case c1 => simp (maxDischargeDepth := 12) [cell_set,c1]
  case c2 => simp (maxDischargeDepth := 12) [cell_set,c2]
  case c3 => simp (maxDischargeDepth := 12) [cell_set,c3]
  exact ⟨by go_num,by have := uh HB4; go_grown⟩
 ·go_enter Tryz.func204,Tryz.ntmps204
  go_wp2_with fail
  refine (vget_good _ l _ ((uh HV).below (by go_grown)) id Q (uh Hhv)).mono ?_
  rintro e w1 ⟨rfl,hb1⟩
  have HB1 := bal1 hb1
  have HD : Hid (Byt w1 (.slice (some ⟨b,off + Q,none⟩) (n - Q) (cap - Q)) (l.drop Q)) := by
   show Byt _ _ _
   have := ((uh HV).below (uh HB1)).drop' Q (by omega)
   rw [if_neg hcQ] at this; exact this
  have q0 : w1.cell? ⟨w.heap.size,0,none⟩ = some (.int .i64 0) := (hb1.cell (p := ⟨w.heap.size,0,none⟩) (by simp)).trans (by simp)
  have f0 : w1.frozen? ⟨w.heap.size,0,none⟩ = false := (hb1.frozen (p := ⟨w.heap.size,0,none⟩) (by simp)).trans (by simp)
  have q1 : w1.cell? ⟨w.heap.size,1,none⟩ = some (.int .i64 0) := (hb1.cell (p := ⟨w.heap.size,1,none⟩) (by simp)).trans (by simp)
  have f1 : w1.frozen? ⟨w.heap.size,1,none⟩ = false := (hb1.frozen (p := ⟨w.heap.size,1,none⟩) (by simp)).trans (by simp)
  have q2 : w1.cell? ⟨w.heap.size,2,none⟩ = some (.string ⟨#[]⟩) := (hb1.cell (p := ⟨w.heap.size,2,none⟩) (by simp)).trans (by simp)
  have f2 : w1.frozen? ⟨w.heap.size,2,none⟩ = false := (hb1.frozen (p := ⟨w.heap.size,2,none⟩) (by simp)).trans (by simp)
  have q3 : w1.cell? ⟨w.heap.size,3,none⟩ = some (.string ⟨#[]⟩) := (hb1.cell (p := ⟨w.heap.size,3,none⟩) (by simp)).trans (by simp)
  have f3 : w1.frozen? ⟨w.heap.size,3,none⟩ = false := (hb1.frozen (p := ⟨w.heap.size,3,none⟩) (by simp)).trans (by simp)
  have hl1 : w.heap.size < w1.heap.size := cell_lt q0
  have HC : Hid (Below w1.heap.size w1 w1) := Below.refl _ _
  clear hb1
  go_wp2_with fail
  refine wp_region_noPanic ?_
  refine wp_region_held_drew (S := (fun _ => True)) (by kernel_rfl) trivial (fun hHeld => ?_)
  refine rtk 0 (h := ?_)
  refine rtk 1 (h := ?_)
  refine rtk 2 (h := ?_)
  refine rtk 3 (h := ?_)
  refine rcl 4 (h := fun K hK => ?_)
  go_simp
  refine (shape_use id f wd lo hi (uh HSH) _).mono ?_
  rintro e w2 ⟨rfl,hb2⟩
  have hb2' := below_undrew1 hb2
  clear hb2
  have HD2 := zh ((uh HD).below hb2')
  refine hK.out _ _ trivial (fun hHeld => ?_)
  clear hK K
  refine rcl 5 (h := fun K hK => ?_)
  go_simp
  refine ((uh HG) _ _ (uh HD2)).mono ?_
  rintro e w3 ⟨rfl,hb3⟩
  have HB3 : Hid (Below w1.heap.size w1 w3) := hb2'.trans (hb3.mono hb2'.size)
  have r0 := ((uh HB3).cell (cell_lt q0)).trans q0
  have g0 := ((uh HB3).frozen (p := ⟨w.heap.size,0,none⟩) (cell_lt q0)).trans f0
  have r1 := ((uh HB3).cell (cell_lt q1)).trans q1
  have g1 := ((uh HB3).frozen (p := ⟨w.heap.size,1,none⟩) (cell_lt q1)).trans f1
  have r2 := ((uh HB3).cell (cell_lt q2)).trans q2
  have g2 := ((uh HB3).frozen (p := ⟨w.heap.size,2,none⟩) (cell_lt q2)).trans f2
  have r3 := ((uh HB3).cell (cell_lt q3)).trans q3
  have g3 := ((uh HB3).frozen (p := ⟨w.heap.size,3,none⟩) (cell_lt q3)).trans f3
  clear hb2' hb3
  refine hK.out _ _ trivial (fun hHeld => ?_)
  clear hK K
  refine rtk 6 (h := ?_)
  refine rtk 7 (h := ?_)
  refine rtk 8 (h := ?_)
  refine rtk 9 (h := ?_)
  refine rcl 10 (h := fun K hK => ?_)
  go_simp
  refine hK.out _ _ trivial (fun hHeld => ?_)
  clear hK K
  show wpAnyH _ _ _ _ _ _ _ _ (set4 w3 w.heap.size 0 N s t)
  have c0 := set4_c0 w3 w.heap.size 0 N s t r0
  have c1 := set4_c1 w3 w.heap.size 0 N s t r1
  have c2 := set4_c2 w3 w.heap.size 0 N s t r2
  have c3 := set4_c3 w3 w.heap.size 0 N s t r3
  have e0 := (set4_frozen w3 w.heap.size 0 N s t ⟨w.heap.size,0,none⟩).trans g0
  have e1 := (set4_frozen w3 w.heap.size 0 N s t ⟨w.heap.size,1,none⟩).trans g1
  have e2 := (set4_frozen w3 w.heap.size 0 N s t ⟨w.heap.size,2,none⟩).trans g2
  have e3 := (set4_frozen w3 w.heap.size 0 N s t ⟨w.heap.size,3,none⟩).trans g3
  have HB4 : Hid (Below w.heap.size w (set4 w3 w.heap.size 0 N s t)) := set4_below _ _ _ _ _ _ _ _ ((uh HB1).trans ((uh HB3).mono (uh HB1).size)) (Nat.le_refl _)
  generalize set4 w3 w.heap.size 0 N s t = W4 at c0 c1 c2 c3 e0 e1 e2 e3 HB4  |-
  clear r0 r1 r2 r3 g0 g1 g2 g3 q0 q1 q2 q3 f0 f1 f2 f3 HB3
  refine rcl 11 (h := fun K hK => ?_)
  go_simp
  refine hK.out _ _ trivial (fun hHeld => ?_)
  clear hK K
  refine rcl 12 (h := fun K hK => ?_)
  go_simp
  refine hK.out _ _ trivial (fun hHeld => ?_)
  clear hK K
  refine wpAnyH_done (by kernel_rfl) ?_ _
  refine NoPanic.normal ?_
  clear HD2 HG
  go_wp2
  (try simp only [Exit.inBlock,Exit.then])
  refine bodyPost_ret (res_p (B := w.heap.size) (v0 := .int .i64 (id)) (v1 := .int .i64 (N)) (v2 := .string s) (v3 := .string t) rfl rfl ?c0 ?c1 ?c2 ?c3) rfl ?_
  case c0 => simp (maxDischargeDepth := 12) [cell_set,c0]
  case c1 => simp (maxDischargeDepth := 12) [cell_set,c1]
  case c2 => simp (maxDischargeDepth := 12) [cell_set,c2]
  case c3 => simp (maxDischargeDepth := 12) [cell_set,c3]
  exact ⟨by go_num,by have := uh HB4; go_grown⟩
theorem gone_bad2 (v : Value) (l : List Int) (w : World) (h : Byt w v l) (id : Int) (Q : Nat) (hv : V.vget l = (id,(Q : Int),0)) (hQ : 1 <= Q /\ Q <= l.length) (f wd lo hi : Int) (hsh : shv id = .agg #[.int .i64 f,.int .i64 wd,.int .i64 lo,.int .i64 hi]) (hg : ∀ vb W,Byt W vb (l.drop Q) -> Calls Tryz.prog 211 #[vb,shp f wd lo hi] W (GvBad W)) : Calls Tryz.prog 204 #[v] w (GvBad w) := by
 obtain ⟨b,off,cap,rfl,hc1,hc2⟩ := h.form1 (by omega)
 unfold maxLen at hc2
 have HV := zh h
 have Hhv := zh hv
 have HSH := zh hsh
 have HG := zh hg
 clear h hv hsh hg
 generalize hn : l.length = n at hc1 hQ HV 
 have HN := zh hn
 clear hn
 by_cases hcQ : cap = Q
 ·have hcQ2 := hcQ.symm
  clear hcQ
  subst hcQ2
  go_enter Tryz.func204,Tryz.ntmps204
  go_wp2_with fail
  refine (vget_good _ l _ ((uh HV).below (by go_grown)) id Q (uh Hhv)).mono ?_
  rintro e w1 ⟨rfl,hb1⟩
  have HB1 := bal1 hb1
  have HD : Hid (Byt w1 (.slice (some ⟨b,off,none⟩) 0 0) (l.drop Q)) := by
   show Byt _ _ _
   have := ((uh HV).below (uh HB1)).drop' Q (by omega)
   rw [if_pos rfl,Nat.sub_self,show n - Q = 0 from by omega] at this; exact this
  have q0 : w1.cell? ⟨w.heap.size,0,none⟩ = some (.int .i64 0) := (hb1.cell (p := ⟨w.heap.size,0,none⟩) (by simp)).trans (by simp)
  have f0 : w1.frozen? ⟨w.heap.size,0,none⟩ = false := (hb1.frozen (p := ⟨w.heap.size,0,none⟩) (by simp)).trans (by simp)
  have q1 : w1.cell? ⟨w.heap.size,1,none⟩ = some (.int .i64 0) := (hb1.cell (p := ⟨w.heap.size,1,none⟩) (by simp)).trans (by simp)
  have f1 : w1.frozen? ⟨w.heap.size,1,none⟩ = false := (hb1.frozen (p := ⟨w.heap.size,1,none⟩) (by simp)).trans (by simp)
  have q2 : w1.cell? ⟨w.heap.size,2,none⟩ = some (.string ⟨#[]⟩) := (hb1.cell (p := ⟨w.heap.size,2,none⟩) (by simp)).trans (by simp)
  have f2 : w1.frozen? ⟨w.heap.size,2,none⟩ = false := (hb1.frozen (p := ⟨w.heap.size,2,none⟩) (by simp)).trans (by simp)
  have q3 : w1.cell? ⟨w.heap.size,3,none⟩ = some (.string ⟨#[]⟩) := (hb1.cell (p := ⟨w.heap.size,3,none⟩) (by simp)).trans (by simp)
  have f3 : w1.frozen? ⟨w.heap.size,3,none⟩ = false := (hb1.frozen (p := ⟨w.heap.size,3,none⟩) (by simp)).trans (by simp)
  have hl1 : w.heap.size < w1.heap.size := cell_lt q0
  have HC : Hid (Below w1.heap.size w1 w1) := Below.refl _ _
  clear hb1
  go_wp2_with fail
  refine wp_region_noPanic ?_
  refine wp_region_held_drew (S := (fun _ => True)) (by kernel_rfl) trivial (fun hHeld => ?_)
  refine rtk 0 (h := ?_)
  refine rtk 1 (h := ?_)
  refine rtk 2 (h := ?_)
  refine rtk 3 (h := ?_)
  refine rcl 4 (h := fun K hK => ?_)
  go_simp
  refine (shape_use id f wd lo hi (uh HSH) _).mono ?_
  rintro e w2 ⟨rfl,hb2⟩
  have hb2' := below_undrew1 hb2
  clear hb2
  have HD2 := zh ((uh HD).below hb2')
  refine hK.out _ _ trivial (fun hHeld => ?_)
  clear hK K
  refine rcl 5 (h := fun K hK => ?_)
  go_simp
  refine ((uh HG) _ _ (uh HD2)).mono ?_
  rintro e w3 ⟨i3,n3,s3,t3,k3,ty3,x3,m3,rfl,hi3,hb3⟩
  have HB3 : Hid (Below w1.heap.size w1 w3) := hb2'.trans (hb3.mono hb2'.size)
  have r0 := ((uh HB3).cell (cell_lt q0)).trans q0
  have g0 := ((uh HB3).frozen (p := ⟨w.heap.size,0,none⟩) (cell_lt q0)).trans f0
  have r1 := ((uh HB3).cell (cell_lt q1)).trans q1
  have g1 := ((uh HB3).frozen (p := ⟨w.heap.size,1,none⟩) (cell_lt q1)).trans f1
  have r2 := ((uh HB3).cell (cell_lt q2)).trans q2
  have g2 := ((uh HB3).frozen (p := ⟨w.heap.size,2,none⟩) (cell_lt q2)).trans f2
  have r3 := ((uh HB3).cell (cell_lt q3)).trans q3
  have g3 := ((uh HB3).frozen (p := ⟨w.heap.size,3,none⟩) (cell_lt q3)).trans f3
  clear hb2' hb3
  refine hK.out _ _ trivial (fun hHeld => ?_)
  clear hK K
  refine rtk 6 (h := ?_)
  refine rtk 7 (h := ?_)
  refine rtk 8 (h := ?_)
  refine rtk 9 (h := ?_)
  refine rcl 10 (h := fun K hK => ?_)
  go_simp
  refine hK.out _ _ trivial (fun hHeld => ?_)
  clear hK K
  show wpAnyH _ _ _ _ _ _ _ _ (set4 w3 w.heap.size i3 n3 s3 t3)
  have c0 := set4_c0 w3 w.heap.size i3 n3 s3 t3 r0
  have c1 := set4_c1 w3 w.heap.size i3 n3 s3 t3 r1
  have c2 := set4_c2 w3 w.heap.size i3 n3 s3 t3 r2
  have c3 := set4_c3 w3 w.heap.size i3 n3 s3 t3 r3
  have e0 := (set4_frozen w3 w.heap.size i3 n3 s3 t3 ⟨w.heap.size,0,none⟩).trans g0
  have e1 := (set4_frozen w3 w.heap.size i3 n3 s3 t3 ⟨w.heap.size,1,none⟩).trans g1
  have e2 := (set4_frozen w3 w.heap.size i3 n3 s3 t3 ⟨w.heap.size,2,none⟩).trans g2
  have e3 := (set4_frozen w3 w.heap.size i3 n3 s3 t3 ⟨w.heap.size,3,none⟩).trans g3
  have HB4 : Hid (Below w.heap.size w (set4 w3 w.heap.size i3 n3 s3 t3)) := set4_below _ _ _ _ _ _ _ _ ((uh HB1).trans ((uh HB3).mono (uh HB1).size)) (Nat.le_refl _)
  have HOF4 := zh (set4_off ((uh hi3).off r1) i3 n3 s3 t3)
  clear hi3
  generalize set4 w3 w.heap.size i3 n3 s3 t3 = W4 at c0 c1 c2 c3 e0 e1 e2 e3 HB4 HOF4 |-
  clear r0 r1 r2 r3 g0 g1 g2 g3 q0 q1 q2 q3 f0 f1 f2 f3 HB3
  refine rcl 11 (h := fun K hK => ?_)
  go_simp
  refine hK.out _ _ trivial (fun hHeld => ?_)
  clear hK K
  refine rcl 12 (h := fun K hK => ?_)
  go_simp
  refine hK.out _ _ trivial (fun hHeld => ?_)
  clear hK K
  refine wpAnyH_done (by kernel_rfl) ?_ _
  refine NoPanic.normal ?_
  clear HD2 HG
  go_wp2
  (try simp only [Exit.inBlock,Exit.then])
  refine bodyPost_ret (res_p (B := w.heap.size) (v0 := .int .i64 (0)) (v1 := .int .i64 (0)) (v2 := .string ⟨#[]⟩) (v3 := .string ⟨#[]⟩) rfl rfl ?c0 ?c1 ?c2 ?c3) rfl ?_
  case c0 => simp (maxDischargeDepth := 12) [cell_set,c0]
  case c1 => simp (maxDischargeDepth := 12) [cell_set,c1]
  case c2 => simp (maxDischargeDepth := 12) [cell_set,c2]
  case c3 => simp (maxDischargeDepth := 12) [cell_set,c3]
  refine ⟨_,_,_,_,_,_,_,m3,rfl,InnOff.inn (B := w.heap.size) ?_,?_⟩
  ·refine InnOff.set ?_ rfl; refine InnOff.set ?_ rfl; refine InnOff.set ?_ rfl; refine InnOff.set ?_ rfl; exact uh HOF4
  ·have := uh HB4; go_grown
 ·go_enter Tryz.func204,Tryz.ntmps204
  go_wp2_with fail
  refine (vget_good _ l _ ((uh HV).below (by go_grown)) id Q (uh Hhv)).mono ?_
  rintro e w1 ⟨rfl,hb1⟩
  have HB1 := bal1 hb1
  have HD : Hid (Byt w1 (.slice (some ⟨b,off + Q,none⟩) (n - Q) (cap - Q)) (l.drop Q)) := by
   show Byt _ _ _
   have := ((uh HV).below (uh HB1)).drop' Q (by omega)
   rw [if_neg hcQ] at this; exact this
  have q0 : w1.cell? ⟨w.heap.size,0,none⟩ = some (.int .i64 0) := (hb1.cell (p := ⟨w.heap.size,0,none⟩) (by simp)).trans (by simp)
  have f0 : w1.frozen? ⟨w.heap.size,0,none⟩ = false := (hb1.frozen (p := ⟨w.heap.size,0,none⟩) (by simp)).trans (by simp)
  have q1 : w1.cell? ⟨w.heap.size,1,none⟩ = some (.int .i64 0) := (hb1.cell (p := ⟨w.heap.size,1,none⟩) (by simp)).trans (by simp)
  have f1 : w1.frozen? ⟨w.heap.size,1,none⟩ = false := (hb1.frozen (p := ⟨w.heap.size,1,none⟩) (by simp)).trans (by simp)
  have q2 : w1.cell? ⟨w.heap.size,2,none⟩ = some (.string ⟨#[]⟩) := (hb1.cell (p := ⟨w.heap.size,2,none⟩) (by simp)).trans (by simp)
  have f2 : w1.frozen? ⟨w.heap.size,2,none⟩ = false := (hb1.frozen (p := ⟨w.heap.size,2,none⟩) (by simp)).trans (by simp)
  have q3 : w1.cell? ⟨w.heap.size,3,none⟩ = some (.string ⟨#[]⟩) := (hb1.cell (p := ⟨w.heap.size,3,none⟩) (by simp)).trans (by simp)
  have f3 : w1.frozen? ⟨w.heap.size,3,none⟩ = false := (hb1.frozen (p := ⟨w.heap.size,3,none⟩) (by simp)).trans (by simp)
  have hl1 : w.heap.size < w1.heap.size := cell_lt q0
  have HC : Hid (Below w1.heap.size w1 w1) := Below.refl _ _
  clear hb1
  go_wp2_with fail
  refine wp_region_noPanic ?_
  refine wp_region_held_drew (S := (fun _ => True)) (by kernel_rfl) trivial (fun hHeld => ?_)
  refine rtk 0 (h := ?_)
  refine rtk 1 (h := ?_)
  refine rtk 2 (h := ?_)
  refine rtk 3 (h := ?_)
  refine rcl 4 (h := fun K hK => ?_)
  go_simp
  refine (shape_use id f wd lo hi (uh HSH) _).mono ?_
  rintro e w2 ⟨rfl,hb2⟩
  have hb2' := below_undrew1 hb2
  clear hb2
  have HD2 := zh ((uh HD).below hb2')
  refine hK.out _ _ trivial (fun hHeld => ?_)
  clear hK K
  refine rcl 5 (h := fun K hK => ?_)
  go_simp
  refine ((uh HG) _ _ (uh HD2)).mono ?_
  rintro e w3 ⟨i3,n3,s3,t3,k3,ty3,x3,m3,rfl,hi3,hb3⟩
  have HB3 : Hid (Below w1.heap.size w1 w3) := hb2'.trans (hb3.mono hb2'.size)
  have r0 := ((uh HB3).cell (cell_lt q0)).trans q0
  have g0 := ((uh HB3).frozen (p := ⟨w.heap.size,0,none⟩) (cell_lt q0)).trans f0
  have r1 := ((uh HB3).cell (cell_lt q1)).trans q1
  have g1 := ((uh HB3).frozen (p := ⟨w.heap.size,1,none⟩) (cell_lt q1)).trans f1
  have r2 := ((uh HB3).cell (cell_lt q2)).trans q2
  have g2 := ((uh HB3).frozen (p := ⟨w.heap.size,2,none⟩) (cell_lt q2)).trans f2
  have r3 := ((uh HB3).cell (cell_lt q3)).trans q3
  have g3 := ((uh HB3).frozen (p := ⟨w.heap.size,3,none⟩) (cell_lt q3)).trans f3
  clear hb2' hb3
  refine hK.out _ _ trivial (fun hHeld => ?_)
  clear hK K
  refine rtk 6 (h := ?_)
  refine rtk 7 (h := ?_)
  refine rtk 8 (h := ?_)
  refine rtk 9 (h := ?_)
  refine rcl 10 (h := fun K hK => ?_)
  go_simp
  refine hK.out _ _ trivial (fun hHeld => ?_)
  clear hK K
  show wpAnyH _ _ _ _ _ _ _ _ (set4 w3 w.heap.size i3 n3 s3 t3)
  have c0 := set4_c0 w3 w.heap.size i3 n3 s3 t3 r0
  have c1 := set4_c1 w3 w.heap.size i3 n3 s3 t3 r1
  have c2 := set4_c2 w3 w.heap.size i3 n3 s3 t3 r2
  have c3 := set4_c3 w3 w.heap.size i3 n3 s3 t3 r3
  have e0 := (set4_frozen w3 w.heap.size i3 n3 s3 t3 ⟨w.heap.size,0,none⟩).trans g0
  have e1 := (set4_frozen w3 w.heap.size i3 n3 s3 t3 ⟨w.heap.size,1,none⟩).trans g1
  have e2 := (set4_frozen w3 w.heap.size i3 n3 s3 t3 ⟨w.heap.size,2,none⟩).trans g2
  have e3 := (set4_frozen w3 w.heap.size i3 n3 s3 t3 ⟨w.heap.size,3,none⟩).trans g3
  have HB4 : Hid (Below w.heap.size w (set4 w3 w.heap.size i3 n3 s3 t3)) := set4_below _ _ _ _ _ _ _ _ ((uh HB1).trans ((uh HB3).mono (uh HB1).size)) (Nat.le_refl _)
  have HOF4 := zh (set4_off ((uh hi3).off r1) i3 n3 s3 t3)
  clear hi3
  generalize set4 w3 w.heap.size i3 n3 s3 t3 = W4 at c0 c1 c2 c3 e0 e1 e2 e3 HB4 HOF4 |-
  clear r0 r1 r2 r3 g0 g1 g2 g3 q0 q1 q2 q3 f0 f1 f2 f3 HB3
  refine rcl 11 (h := fun K hK => ?_)
  go_simp
  refine hK.out _ _ trivial (fun hHeld => ?_)
  clear hK K
  refine rcl 12 (h := fun K hK => ?_)
  go_simp
  refine hK.out _ _ trivial (fun hHeld => ?_)
  clear hK K
  refine wpAnyH_done (by kernel_rfl) ?_ _
  refine NoPanic.normal ?_
  clear HD2 HG
  go_wp2
  (try simp only [Exit.inBlock,Exit.then])
  refine bodyPost_ret (res_p (B := w.heap.size) (v0 := .int .i64 (0)) (v1 := .int .i64 (0)) (v2 := .string ⟨#[]⟩) (v3 := .string ⟨#[]⟩) rfl rfl ?c0 ?c1 ?c2 ?c3) rfl ?_
  case c0 => simp (maxDischargeDepth := 12) [cell_set,c0]
  case c1 => simp (maxDischargeDepth := 12) [cell_set,c1]
  case c2 => simp (maxDischargeDepth := 12) [cell_set,c2]
  case c3 => simp (maxDischargeDepth := 12) [cell_set,c3]
  refine ⟨_,_,_,_,_,_,_,m3,rfl,InnOff.inn (B := w.heap.size) ?_,?_⟩
  ·refine InnOff.set ?_ rfl; refine InnOff.set ?_ rfl; refine InnOff.set ?_ rfl; refine InnOff.set ?_ rfl; exact uh HOF4
  ·have := uh HB4; go_grown
theorem lst_pos (id : Int) : 0 <= lst id := by unfold lst; split <;> omega
theorem fit_num {id n : Int} {s t : ByteArray} (h : fit (id,n,s,t) = true) : 0 <= n /\ lst id <= n /\ n <= mx id := by
 unfold fit at h
 rw [Bool.and_eq_true,Bool.and_eq_true,decide_eq_true_eq,decide_eq_true_eq] at h
 have := lst_pos id
 have h1 := h.1
 simp only at h1
 omega
theorem shv_of (id k f wd m : Int) (hk : kd id = k) (hf : (if k = 1 \/ k = 2 \/ k = 4 then 1 else if k = 5 then 2 else if k = 6 then 3 else if k = 7 then 4 else if k = 8 then 5 else 0) = f) (hw : (if k = 1 \/ k = 2 \/ k = 4 then k else 0) = wd) (hm : mx id = m) : shv id = .agg #[.int .i64 f,.int .i64 wd,.int .i64 (lst id),.int .i64 m] := by
 unfold shv frm wid
 rw [hk,hf,hw,hm]
theorem pvb_num (id n : Int) (s t : ByteArray) (k : Int) (hk : kd id = k) (h : k = 1 \/ k = 2 \/ k = 4) : pvb (id,n,s,t) = nbs k n := by
 unfold pvb nbs
 rcases h with rfl | rfl | rfl <;> simp [hk]
theorem value_ok (id n : Int) (s t : ByteArray) (w : World) (hm : may (id,n,s,t) = true) : Calls Tryz.prog 210 #[.agg #[.int .i64 id,.int .i64 n,.string s,.string t]] w (ValOk (pvb (id,n,s,t)) w) := by
 unfold may at hm
 rw [Bool.and_eq_true] at hm
 obtain ⟨hf,ht⟩ := hm
 obtain ⟨h0,h1,h2⟩ := fit_num hf
 have hx : mx id = (if kd id = 1 then 1 else if kd id = 2 then 65535 else if kd id = 4 then 4294967295 else if kd id = 5 then 268435455 else 0) := rfl
 rcases kd_cases id with h | h | h | h | h | h | h | h
 ·unfold txo at ht; simp [h] at ht
 ·rw [pvb_num id n s t 1 h (by omega)]
  rw [if_pos h] at hx
  exact value_num id n 1 s t w _ _ (shv_of id 1 1 1 1 h rfl rfl hx) (.inl ⟨rfl,by omega⟩) h0
 ·rw [pvb_num id n s t 2 h (by omega)]
  rw [if_neg (by omega),if_pos h] at hx
  exact value_num id n 2 s t w _ _ (shv_of id 2 1 2 65535 h rfl rfl hx) (.inr (.inl ⟨rfl,by omega⟩)) h0
 ·rw [pvb_num id n s t 4 h (by omega)]
  rw [if_neg (by omega),if_neg (by omega),if_pos h] at hx
  exact value_num id n 4 s t w _ _ (shv_of id 4 1 4 4294967295 h rfl rfl hx) (.inr (.inr ⟨rfl,by omega⟩)) h0
 ·rw [show pvb (id,n,s,t) = V.put n from by unfold pvb; simp [h]]
  rw [if_neg (by omega),if_neg (by omega),if_neg (by omega),if_pos h] at hx
  exact value_var id n s t w _ _ _ (shv_of id 5 2 0 _ h rfl rfl hx) h0 (by omega)
 ·rw [show pvb (id,n,s,t) = tx s from by unfold pvb; simp [h]]
  rw [if_neg (by omega),if_neg (by omega),if_neg (by omega),if_neg (by omega)] at hx
  exact value_text id n s t w _ _ _ (shv_of id 6 3 0 _ h rfl rfl hx) (by unfold txo at ht; simpa [h] using ht)
 ·rw [show pvb (id,n,s,t) = tx s from by unfold pvb; simp [h]]
  rw [if_neg (by omega),if_neg (by omega),if_neg (by omega),if_neg (by omega)] at hx
  exact value_bin id n s t w _ _ _ (shv_of id 7 4 0 _ h rfl rfl hx) (by unfold txo at ht; simpa [h] using ht)
 ·rw [show pvb (id,n,s,t) = tx s ++ tx t from by unfold pvb; simp [h]]
  rw [if_neg (by omega),if_neg (by omega),if_neg (by omega),if_neg (by omega)] at hx
  have hc : chk (sb s) = 0 /\ chk (sb t) = 0 := by unfold txo at ht; simpa [h] using ht
  exact value_pair id n s t w _ _ _ (shv_of id 8 5 0 _ h rfl rfl hx) hc.1 hc.2
theorem value_bad (id n : Int) (s t : ByteArray) (w : World) (hls : s.size <= 4611686018427387904) (hlt : t.size <= 4611686018427387904) (hk : kd id ≠ 0) (ht : txo (id,n,s,t) = false) : Calls Tryz.prog 210 #[.agg #[.int .i64 id,.int .i64 n,.string s,.string t]] w (ValBad w) := by
 have hx : mx id = (if kd id = 1 then 1 else if kd id = 2 then 65535 else if kd id = 4 then 4294967295 else if kd id = 5 then 268435455 else 0) := rfl
 rcases kd_cases id with h | h | h | h | h | h | h | h
 ·exact absurd h hk
 ·unfold txo at ht; simp [h] at ht
 ·unfold txo at ht; simp [h] at ht
 ·unfold txo at ht; simp [h] at ht
 ·unfold txo at ht; simp [h] at ht
 ·rw [if_neg (by omega),if_neg (by omega),if_neg (by omega),if_neg (by omega)] at hx
  exact value_text_bad id n s t w _ _ _ (shv_of id 6 3 0 _ h rfl rfl hx) hls (by unfold txo at ht; simpa [h] using ht)
 ·rw [if_neg (by omega),if_neg (by omega),if_neg (by omega),if_neg (by omega)] at hx
  exact value_bin_bad id n s t w _ _ _ (shv_of id 7 4 0 _ h rfl rfl hx) (by unfold txo at ht; simpa [h] using ht)
 ·rw [if_neg (by omega),if_neg (by omega),if_neg (by omega),if_neg (by omega)] at hx
  have hc : chk (sb s) = 0 -> ¬ chk (sb t) = 0 := by unfold txo at ht; simpa [h] using ht
  by_cases hs : chk (sb s) = 0
  ·exact value_pair_bad2 id n s t w _ _ _ (shv_of id 8 5 0 _ h rfl rfl hx) hlt hs (hc hs)
  ·exact value_pair_bad1 id n s t w _ _ _ (shv_of id 8 5 0 _ h rfl rfl hx) hls hs
theorem one_ok (id n : Int) (s t : ByteArray) (w : World) (hi : 1 <= id /\ id <= 42) (hm : may (id,n,s,t) = true) : Calls Tryz.prog 201 #[.agg #[.int .i64 id,.int .i64 n,.string s,.string t]] w (ValOk (pb (id,n,s,t)) w) := by
 have hle := pvb_le _ hm
 have HM := zh hm
 have HV := zh (fun W => value_ok id n s t W hm)
 have HL := zh (V.put_len id)
 have HP : Hid (pb (id,n,s,t) = V.put id ++ pvb (id,n,s,t)) := rfl
 generalize pb (id,n,s,t) = l at HP |-
 generalize pvb (id,n,s,t) = l2 at HP HV hle
 clear hm HM
 go_enter Tryz.func201,Tryz.ntmps201
 go_wp2_with fail
 refine (vput_use id _ (by omega) (by omega)).mono ?_
 rintro e w1 ⟨v1,rfl,hown1,hy1,hb1⟩
 have HR := zh (uh hy1).range
 have HB1 := bal1 hb1
 have c0 : w1.cell? ⟨w.heap.size,0,none⟩ = some (.int .i64 id) := (hb1.cell (p := ⟨w.heap.size,0,none⟩) (by simp)).trans (by simp)
 have c1 : w1.cell? ⟨w.heap.size,1,none⟩ = some (.int .i64 n) := (hb1.cell (p := ⟨w.heap.size,1,none⟩) (by simp)).trans (by simp)
 have c2 : w1.cell? ⟨w.heap.size,2,none⟩ = some (.string s) := (hb1.cell (p := ⟨w.heap.size,2,none⟩) (by simp)).trans (by simp)
 have c3 : w1.cell? ⟨w.heap.size,3,none⟩ = some (.string t) := (hb1.cell (p := ⟨w.heap.size,3,none⟩) (by simp)).trans (by simp)
 have HO1 : Hid (w1.ownsRow w.heap.size 5 1 v1 (V.put id).length ((V.put id).map (Value.int .u8))) := owns_mono (uh hown1) (by simp)
 clear hb1 hown1 hy1
 go_wp2_with fail
 refine ((uh HV) _).mono ?_
 rintro e w2 ⟨v2,rfl,hy2,hb2⟩
 have HO2 : Hid (w2.ownsRow w.heap.size 5 1 v1 (V.put id).length ((V.put id).map (Value.int .u8))) := owns_below (uh HO1) hb2
 have HB2 : Hid (Below w.heap.size w w2) := (uh HB1).trans (hb2.mono (uh HB1).size)
 clear hb2 HB1 HO1 c0 c1 c2 c3
 go_wp2_with (first
  | (at_builtin; refine wpList_append_byt _ rfl _ _ rfl w.heap.size _ (V.put id).length (V.put id) rfl (uh HO2) v2 l2 rfl (uh hy2) (by have := uh HL; omega) (uh HB2).size ?_)
  | go_in)
 intro v3 w3 hown3 hgrow3
 have hb3 : Below w.heap.size w w3 := (uh HB2).grown hgrow3 (uh HB2).size (fun k hk => ((uh HO2).lt k hk).1)
 have HY3 : Hid (Byt w3 v3 l) := by
  show Byt _ _ _
  rw [uh HP]
  exact byt_of_owns (by rw [List.map_append]; exact hown3) (range_app (uh HR) (uh hy2).range)
 clear hown3 hgrow3
 go_wp2
 go_ret2
 exact ⟨_,rfl,HY3,hb3⟩
theorem one_bad (id n : Int) (s t : ByteArray) (w : World) (hi : 1 <= id /\ id <= 42) (hls : s.size <= 4611686018427387904) (hlt : t.size <= 4611686018427387904) (hk : kd id ≠ 0) (ht : txo (id,n,s,t) = false) : Calls Tryz.prog 201 #[.agg #[.int .i64 id,.int .i64 n,.string s,.string t]] w (ValBad w) := by
 have HV := zh (fun W => value_bad id n s t W hls hlt hk ht)
 clear hls hlt hk ht
 go_enter Tryz.func201,Tryz.ntmps201
 go_wp2_with fail
 refine (vput_use id _ (by omega) (by omega)).mono ?_
 rintro e w1 ⟨v1,rfl,-,-,hb1⟩
 have HB1 := bal1 hb1
 have c0 : w1.cell? ⟨w.heap.size,0,none⟩ = some (.int .i64 id) := (hb1.cell (p := ⟨w.heap.size,0,none⟩) (by simp)).trans (by simp)
 have c1 : w1.cell? ⟨w.heap.size,1,none⟩ = some (.int .i64 n) := (hb1.cell (p := ⟨w.heap.size,1,none⟩) (by simp)).trans (by simp)
 have c2 : w1.cell? ⟨w.heap.size,2,none⟩ = some (.string s) := (hb1.cell (p := ⟨w.heap.size,2,none⟩) (by simp)).trans (by simp)
 have c3 : w1.cell? ⟨w.heap.size,3,none⟩ = some (.string t) := (hb1.cell (p := ⟨w.heap.size,3,none⟩) (by simp)).trans (by simp)
 clear hb1
 go_wp2_with fail
 refine ((uh HV) _).mono ?_
 rintro e w2 ⟨t2,x2,m,rfl,hi2,hb2⟩
 go_wp2
 go_ret2
 exact ⟨_,_,_,rfl,hi2,(uh HB1).trans (hb2.mono (uh HB1).size)⟩
end Go.Proofs.YtpoeakillimibaaGreatDoor
