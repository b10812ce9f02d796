/- Proved here: helpers, one text behind the other. -/
import Derived.Test.YtemedclhglkfjaaGreatDoorZPTake
import Derived.Test.YtemedclhglkfjaaGreatDoorM13
import Derived.Test.YtemedclhglkfjaaGreatDoorM17
set_option maxHeartbeats 20000000
namespace Go.Proofs.YtemedclhglkfjaaGreatDoor
open Go.RowKit
set_option maxRecDepth 100000
def ValOk (l : List Int) (w : World) (e : Ending) (w' : World) : Prop := ∃ v,e = .returned (.tuple #[v,.nilIface]) /\ Hid (Byt w' v l) /\ Below w.heap.size w w'
def ValBad (w : World) (e : Ending) (w' : World) : Prop := ∃ t x n,e = .returned (.tuple #[.slice none 0 0,.iface t x]) /\ Hid (Inn w' (.iface t x) n) /\ Below w.heap.size w w'
theorem range_app {xs ys : List Int} (hx : ∀ j,0 <= xs.getD j 0 /\ xs.getD j 0 <= 255) (hy : ∀ j,0 <= ys.getD j 0 /\ ys.getD j 0 <= 255) : ∀ j,0 <= (xs ++ ys).getD j 0 /\ (xs ++ ys).getD j 0 <= 255 := by
 intro j
 rcases Nat.lt_or_ge j xs.length with h | h
 ·rw [List.getD_eq_getElem?_getD,List.getElem?_append_left h,<- List.getD_eq_getElem?_getD]; exact hx j
 ·rw [List.getD_eq_getElem?_getD,List.getElem?_append_right h,<- List.getD_eq_getElem?_getD]; exact hy _
theorem tput_ok (s : ByteArray) (w : World) (hc : chk (sb s) = 0) : Calls Tryz.prog 117 #[.string s] w (fun e w' => ∃ v,e = .returned (.tuple #[v,.nilIface]) /\ Hid (w'.ownsRow w.heap.size 5 1 v (2 + s.size) ((tx s).map (Value.int .u8))) /\ Hid (Byt w' v (tx s)) /\ Below w.heap.size w w') := by
 refine (put_ok s w hc).mono ?_
 rintro e w' ⟨v,rfl,hown,hb⟩
 exact ⟨v,rfl,hown,byt_of_owns (uh hown) (tx_range s (by have := chk_0 hc; rw [sb_length] at this; exact this)),hb⟩
theorem tput_bad (s : ByteArray) (w : World) (hs : s.size <= 4611686018427387904) (hc : chk (sb s) ≠ 0) : Calls Tryz.prog 117 #[.string s] w (fun e w' => ∃ x n,e = .returned (.tuple #[.slice none 0 0,.iface 112 x]) /\ Hid (Inn w' (.iface 112 x) n) /\ Below w.heap.size w w') := by
 refine (put_bad s _ w hs rfl hc).mono ?_
 rintro e w' ⟨rfl,rfl⟩
 exact ⟨_,chk (sb s),rfl,.inr ⟨_,rfl,by simp⟩,fault_below _ _⟩
theorem pair_ok (s t : ByteArray) (w : World) (hs : chk (sb s) = 0) (ht : chk (sb t) = 0) : Calls Tryz.prog 157 #[.string s,.string t] w (ValOk (tx s ++ tx t) w) := by
 have ls : s.size <= 65535 := by have := chk_0 hs; rw [sb_length] at this; exact this
 have lt : t.size <= 65535 := by have := chk_0 ht; rw [sb_length] at this; exact this
 have HS := zh hs
 have HT := zh ht
 clear hs ht
 go_enter Tryz.func157,Tryz.ntmps157
 go_wp2_with fail
 refine (tput_ok s _ (uh HS)).mono ?_
 rintro e w1 ⟨v1,rfl,hown1,-,hb1⟩
 have HB1 := zh hb1
 clear hb1
 go_wp2_with fail
 refine (tput_ok t _ (uh HT)).mono ?_
 rintro e w2 ⟨v2,rfl,-,hy2,hb2⟩
 have HO2 : Hid (w2.ownsRow w.heap.size 5 1 v1 (2 + s.size) ((tx s).map (Value.int .u8))) := owns_below (uh hown1) hb2
 have HB2 : Hid (Below w.heap.size w w2) := (uh HB1).trans (hb2.mono (uh HB1).size)
 clear hb2 HB1 hown1
 go_wp2_with (first
  | (at_builtin; refine wpList_append_byt _ rfl _ _ rfl w.heap.size _ (2 + s.size) (tx s) rfl (uh HO2) v2 (tx t) rfl (uh hy2) (by rw [tx_length]; omega) (uh HB2).size ?_)
  | go_in)
 intro v3 w3 hown3 hgrow3
 have hb3 : Below w.heap.size w w3 := (uh HB2).grown hgrow3 (uh HB2).size (fun k hk => ((uh HO2).lt k hk).1)
 have HY3 : Hid (Byt w3 v3 (tx s ++ tx t)) := byt_of_owns (by rw [List.map_append]; exact hown3) (range_app (tx_range s ls) (tx_range t lt))
 clear hown3 hgrow3
 go_wp2
 go_ret2
 exact ⟨_,rfl,HY3,hb3⟩
theorem pair_bad1 (s t : ByteArray) (w : World) (hl : s.size <= 4611686018427387904) (hs : chk (sb s) ≠ 0) : Calls Tryz.prog 157 #[.string s,.string t] w (ValBad w) := by
 have HS := zh hs
 clear hs
 go_enter Tryz.func157,Tryz.ntmps157
 go_wp2_with fail
 refine (tput_bad s _ hl (uh HS)).mono ?_
 rintro e w1 ⟨x,n,rfl,hi,hb1⟩
 go_wp2
 go_ret2
 exact ⟨_,_,_,rfl,hi,hb1⟩
theorem pair_bad2 (s t : ByteArray) (w : World) (hl : t.size <= 4611686018427387904) (hs : chk (sb s) = 0) (ht : chk (sb t) ≠ 0) : Calls Tryz.prog 157 #[.string s,.string t] w (ValBad w) := by
 have HS := zh hs
 have HT := zh ht
 clear hs ht
 go_enter Tryz.func157,Tryz.ntmps157
 go_wp2_with fail
 refine (tput_ok s _ (uh HS)).mono ?_
 rintro e w1 ⟨v1,rfl,-,-,hb1⟩
 have HB1 := zh hb1
 clear hb1
 go_wp2_with fail
 refine (tput_bad t _ hl (uh HT)).mono ?_
 rintro e w2 ⟨x,n,rfl,hi,hb2⟩
 go_wp2
 go_ret2
 exact ⟨_,_,_,rfl,hi,(uh HB1).trans (hb2.mono (uh HB1).size)⟩
theorem vput_use (n : Int) (w : World) (h0 : 0 <= n) (h1 : n <= 268435455) : Calls Tryz.prog 26 #[.int .i64 n] w (fun e w' => ∃ v,e = .returned (.tuple #[v,.nilIface]) /\ Hid (w'.ownsRow w.heap.size 5 1 v (V.put n).length ((V.put n).map (Value.int .u8))) /\ Hid (Byt w' v (V.put n)) /\ Below w.heap.size w w') := by
 refine (V.put_use n w h0 h1).mono ?_
 rintro e w' ⟨m,rfl,rfl,hown,hb⟩
 exact ⟨_,rfl,hown,byt_of_owns (uh hown) (V.put_range n h0 h1),hb⟩
theorem nbs_range (k n : Int) (hk : k = 1 /\ n <= 1 \/ k = 2 /\ n <= 65535 \/ k = 4 /\ n <= 4294967295) (h0 : 0 <= n) : ∀ j,0 <= (nbs k n).getD j 0 /\ (nbs k n).getD j 0 <= 255 := by
 intro j
 unfold nbs
 rcases hk with ⟨rfl,h⟩ | ⟨rfl,h⟩ | ⟨rfl,h⟩
 ·rw [if_pos rfl]
  rcases j with _ | j <;> simp <;> omega
 ·rw [if_neg (by omega),if_pos rfl]
  rcases j with _ | _ | j <;> simp <;> omega
 ·rw [if_neg (by omega),if_neg (by omega)]
  rcases j with _ | _ | _ | _ | j <;> simp <;> omega
theorem number_use (k n : Int) (w : World) (hk : k = 1 /\ n <= 1 \/ k = 2 /\ n <= 65535 \/ k = 4 /\ n <= 4294967295) (h0 : 0 <= n) : Calls Tryz.prog 156 #[.int .i64 n,.int .i64 k] w (fun e w' => ∃ v,e = .returned v /\ Hid (Byt w' v (nbs k n)) /\ Below w.heap.size w w') := by
 have hr := nbs_range k n hk h0
 have key : ∀ e w',NumPost k n w e w' -> ∃ v,e = .returned v /\ Hid (Byt w' v (nbs k n)) /\ Below w.heap.size w w' := by
  rintro e w' ⟨v,rfl,hown,hb⟩
  exact ⟨v,rfl,byt_of_owns (uh hown) hr,hb⟩
 rcases hk with ⟨rfl,h⟩ | ⟨rfl,h⟩ | ⟨rfl,h⟩
 ·exact (num_1 n w h0 h).mono key
 ·exact (num_2 n w h0 h).mono key
 ·exact (num_4 n w h0 h).mono key
def numK (k n : Int) : Prop := k = 1 /\ n <= 1 \/ k = 2 /\ n <= 65535 \/ k = 4 /\ n <= 4294967295
theorem value_num (id n k : Int) (s t : ByteArray) (w : World) (lo hi : Int) (hsh : shv id = .agg #[.int .i64 1,.int .i64 k,.int .i64 lo,.int .i64 hi]) (hk : numK k n) (h0 : 0 <= n) :
  Calls Tryz.prog 150 #[.agg #[.int .i64 id,.int .i64 n,.string s,.string t]] w (ValOk (nbs k n) w) := by
 have HSH := zh hsh
 have HK := zh hk
 clear hsh hk
 go_enter Tryz.func150,Tryz.ntmps150
 go_wp2_with fail
 refine (shape_use id 1 k lo hi (uh HSH) _).mono ?_
 rintro e w1 ⟨rfl,hb1⟩
 have HB1 := bal1 hb1
 have c1 : w1.cell? ⟨w.heap.size,1,none⟩ = some (.int .i64 n) := (hb1.cell (p := ⟨w.heap.size,1,none⟩) (by simp)).trans (by simp)
 have c2 : w1.cell? ⟨w.heap.size,2,none⟩ = some (.string s) := (hb1.cell (p := ⟨w.heap.size,2,none⟩) (by simp)).trans (by simp)
 have c3 : w1.cell? ⟨w.heap.size,3,none⟩ = some (.string t) := (hb1.cell (p := ⟨w.heap.size,3,none⟩) (by simp)).trans (by simp)
 have hlt : w.heap.size < w1.heap.size := cell_lt c1
 clear hb1
 go_wp2_with fail
 refine (number_use k n _ (uh HK) h0).mono ?_
 rintro e w2 ⟨v,rfl,hy,hb2⟩
 go_wp2
 go_ret2
 exact ⟨_,rfl,hy,(((uh HB1).alloc (uh HB1).size _).trans (hb2.mono (by simp; omega)))⟩
theorem value_var (id n : Int) (s t : ByteArray) (w : World) (wd lo hi : Int) (hsh : shv id = .agg #[.int .i64 2,.int .i64 wd,.int .i64 lo,.int .i64 hi]) (h0 : 0 <= n) (h1 : n <= 268435455) :
  Calls Tryz.prog 150 #[.agg #[.int .i64 id,.int .i64 n,.string s,.string t]] w (ValOk (V.put n) w) := by
 have HSH := zh hsh
 clear hsh
 go_enter Tryz.func150,Tryz.ntmps150
 go_wp2_with fail
 refine (shape_use id 2 wd lo hi (uh HSH) _).mono ?_
 rintro e w1 ⟨rfl,hb1⟩
 have HB1 := bal1 hb1
 have c1 : w1.cell? ⟨w.heap.size,1,none⟩ = some (.int .i64 n) := (hb1.cell (p := ⟨w.heap.size,1,none⟩) (by simp)).trans (by simp)
 have c2 : w1.cell? ⟨w.heap.size,2,none⟩ = some (.string s) := (hb1.cell (p := ⟨w.heap.size,2,none⟩) (by simp)).trans (by simp)
 have c3 : w1.cell? ⟨w.heap.size,3,none⟩ = some (.string t) := (hb1.cell (p := ⟨w.heap.size,3,none⟩) (by simp)).trans (by simp)
 have hlt : w.heap.size < w1.heap.size := cell_lt c1
 clear hb1
 go_wp2_with fail
 refine (vput_use n _ h0 h1).mono ?_
 rintro e w2 ⟨v,rfl,-,hy,hb2⟩
 go_wp2
 go_ret2
 exact ⟨_,rfl,hy,(((uh HB1).alloc (uh HB1).size _).trans (hb2.mono (by simp; omega)))⟩
theorem value_text (id n : Int) (s t : ByteArray) (w : World) (wd lo hi : Int) (hsh : shv id = .agg #[.int .i64 3,.int .i64 wd,.int .i64 lo,.int .i64 hi]) (hc : chk (sb s) = 0) :
  Calls Tryz.prog 150 #[.agg #[.int .i64 id,.int .i64 n,.string s,.string t]] w (ValOk (tx s) w) := by
 have HSH := zh hsh
 clear hsh
 have Hhc := zh hc
 clear hc
 go_enter Tryz.func150,Tryz.ntmps150
 go_wp2_with fail
 refine (shape_use id 3 wd lo hi (uh HSH) _).mono ?_
 rintro e w1 ⟨rfl,hb1⟩
 have HB1 := bal1 hb1
 have c1 : w1.cell? ⟨w.heap.size,1,none⟩ = some (.int .i64 n) := (hb1.cell (p := ⟨w.heap.size,1,none⟩) (by simp)).trans (by simp)
 have c2 : w1.cell? ⟨w.heap.size,2,none⟩ = some (.string s) := (hb1.cell (p := ⟨w.heap.size,2,none⟩) (by simp)).trans (by simp)
 have c3 : w1.cell? ⟨w.heap.size,3,none⟩ = some (.string t) := (hb1.cell (p := ⟨w.heap.size,3,none⟩) (by simp)).trans (by simp)
 have hlt : w.heap.size < w1.heap.size := cell_lt c1
 clear hb1
 go_wp2_with fail
 refine (tput_ok s _ (uh Hhc)).mono ?_
 rintro e w2 ⟨v,rfl,-,hy,hb2⟩
 go_wp2
 go_ret2
 exact ⟨_,rfl,hy,(((uh HB1).alloc (uh HB1).size _).trans (hb2.mono (by simp; omega)))⟩
theorem value_text_bad (id n : Int) (s t : ByteArray) (w : World) (wd lo hi : Int) (hsh : shv id = .agg #[.int .i64 3,.int .i64 wd,.int .i64 lo,.int .i64 hi]) (hl : s.size <= 4611686018427387904) (hc : chk (sb s) ≠ 0) :
  Calls Tryz.prog 150 #[.agg #[.int .i64 id,.int .i64 n,.string s,.string t]] w (ValBad w) := by
 have HSH := zh hsh
 clear hsh
 have Hhc := zh hc
 clear hc
 go_enter Tryz.func150,Tryz.ntmps150
 go_wp2_with fail
 refine (shape_use id 3 wd lo hi (uh HSH) _).mono ?_
 rintro e w1 ⟨rfl,hb1⟩
 have HB1 := bal1 hb1
 have c1 : w1.cell? ⟨w.heap.size,1,none⟩ = some (.int .i64 n) := (hb1.cell (p := ⟨w.heap.size,1,none⟩) (by simp)).trans (by simp)
 have c2 : w1.cell? ⟨w.heap.size,2,none⟩ = some (.string s) := (hb1.cell (p := ⟨w.heap.size,2,none⟩) (by simp)).trans (by simp)
 have c3 : w1.cell? ⟨w.heap.size,3,none⟩ = some (.string t) := (hb1.cell (p := ⟨w.heap.size,3,none⟩) (by simp)).trans (by simp)
 have hlt : w.heap.size < w1.heap.size := cell_lt c1
 clear hb1
 go_wp2_with fail
 refine (tput_bad s _ hl (uh Hhc)).mono ?_
 rintro e w2 ⟨x,m,rfl,hy,hb2⟩
 go_wp2
 go_ret2
 exact ⟨_,_,_,rfl,hy,(((uh HB1).alloc (uh HB1).size _).trans (hb2.mono (by simp; omega)))⟩
theorem value_bin (id n : Int) (s t : ByteArray) (w : World) (wd lo hi : Int) (hsh : shv id = .agg #[.int .i64 4,.int .i64 wd,.int .i64 lo,.int .i64 hi]) (hc : s.size <= 65535) :
  Calls Tryz.prog 150 #[.agg #[.int .i64 id,.int .i64 n,.string s,.string t]] w (ValOk (tx s) w) := by
 have HSH := zh hsh
 clear hsh
 go_enter Tryz.func150,Tryz.ntmps150
 go_wp2_with fail
 refine (shape_use id 4 wd lo hi (uh HSH) _).mono ?_
 rintro e w1 ⟨rfl,hb1⟩
 have HB1 := bal1 hb1
 have c1 : w1.cell? ⟨w.heap.size,1,none⟩ = some (.int .i64 n) := (hb1.cell (p := ⟨w.heap.size,1,none⟩) (by simp)).trans (by simp)
 have c2 : w1.cell? ⟨w.heap.size,2,none⟩ = some (.string s) := (hb1.cell (p := ⟨w.heap.size,2,none⟩) (by simp)).trans (by simp)
 have c3 : w1.cell? ⟨w.heap.size,3,none⟩ = some (.string t) := (hb1.cell (p := ⟨w.heap.size,3,none⟩) (by simp)).trans (by simp)
 have hlt : w.heap.size < w1.heap.size := cell_lt c1
 clear hb1
 go_wp2_with fail
 refine (putBin_ok s _ hc).mono ?_
 rintro e w2 ⟨v,rfl,hown,hb2⟩
 have hy : Hid (Byt w2 v (tx s)) := byt_of_owns (uh hown) (tx_range s hc)
 go_wp2
 go_ret2
 exact ⟨_,rfl,hy,(((uh HB1).alloc (uh HB1).size _).trans (hb2.mono (by simp; omega)))⟩
theorem value_bin_bad (id n : Int) (s t : ByteArray) (w : World) (wd lo hi : Int) (hsh : shv id = .agg #[.int .i64 4,.int .i64 wd,.int .i64 lo,.int .i64 hi]) (hc : 65535 < s.size) :
  Calls Tryz.prog 150 #[.agg #[.int .i64 id,.int .i64 n,.string s,.string t]] w (ValBad w) := by
 have HSH := zh hsh
 clear hsh
 go_enter Tryz.func150,Tryz.ntmps150
 go_wp2_with fail
 refine (shape_use id 4 wd lo hi (uh HSH) _).mono ?_
 rintro e w1 ⟨rfl,hb1⟩
 have HB1 := bal1 hb1
 have c1 : w1.cell? ⟨w.heap.size,1,none⟩ = some (.int .i64 n) := (hb1.cell (p := ⟨w.heap.size,1,none⟩) (by simp)).trans (by simp)
 have c2 : w1.cell? ⟨w.heap.size,2,none⟩ = some (.string s) := (hb1.cell (p := ⟨w.heap.size,2,none⟩) (by simp)).trans (by simp)
 have c3 : w1.cell? ⟨w.heap.size,3,none⟩ = some (.string t) := (hb1.cell (p := ⟨w.heap.size,3,none⟩) (by simp)).trans (by simp)
 have hlt : w.heap.size < w1.heap.size := cell_lt c1
 clear hb1
 go_wp2_with fail
 refine (putBin_bad s _ hc).mono ?_
 rintro e w2 ⟨rfl,hw2⟩
 have hb2 : Below _ _ w2 := hw2 ▸ fault_below 2 _
 have hy : Hid (Inn w2 (.iface 112 (.pointer (some ⟨w1.heap.size + 1,0,none⟩))) 2) := .inr ⟨_,rfl,by rw [hw2]; simp⟩
 clear hw2
 go_wp2
 go_ret2
 exact ⟨_,_,_,rfl,hy,(((uh HB1).alloc (uh HB1).size _).trans (hb2.mono (by simp; omega)))⟩
theorem value_pair (id n : Int) (s t : ByteArray) (w : World) (wd lo hi : Int) (hsh : shv id = .agg #[.int .i64 5,.int .i64 wd,.int .i64 lo,.int .i64 hi]) (hc : chk (sb s) = 0) (hd : chk (sb t) = 0) :
  Calls Tryz.prog 150 #[.agg #[.int .i64 id,.int .i64 n,.string s,.string t]] w (ValOk (tx s ++ tx t) w) := by
 have HSH := zh hsh
 clear hsh
 have Hhc := zh hc
 clear hc
 have Hhd := zh hd
 clear hd
 go_enter Tryz.func150,Tryz.ntmps150
 go_wp2_with fail
 refine (shape_use id 5 wd lo hi (uh HSH) _).mono ?_
 rintro e w1 ⟨rfl,hb1⟩
 have HB1 := bal1 hb1
 have c1 : w1.cell? ⟨w.heap.size,1,none⟩ = some (.int .i64 n) := (hb1.cell (p := ⟨w.heap.size,1,none⟩) (by simp)).trans (by simp)
 have c2 : w1.cell? ⟨w.heap.size,2,none⟩ = some (.string s) := (hb1.cell (p := ⟨w.heap.size,2,none⟩) (by simp)).trans (by simp)
 have c3 : w1.cell? ⟨w.heap.size,3,none⟩ = some (.string t) := (hb1.cell (p := ⟨w.heap.size,3,none⟩) (by simp)).trans (by simp)
 have hlt : w.heap.size < w1.heap.size := cell_lt c1
 clear hb1
 go_wp2_with fail
 refine (pair_ok s t _ (uh Hhc) (uh Hhd)).mono ?_
 rintro e w2 ⟨v,rfl,hy,hb2⟩
 go_wp2
 go_ret2
 exact ⟨_,rfl,hy,(((uh HB1).alloc (uh HB1).size _).trans (hb2.mono (by simp; omega)))⟩
theorem value_pair_bad1 (id n : Int) (s t : ByteArray) (w : World) (wd lo hi : Int) (hsh : shv id = .agg #[.int .i64 5,.int .i64 wd,.int .i64 lo,.int .i64 hi]) (hl : s.size <= 4611686018427387904) (hc : chk (sb s) ≠ 0) :
  Calls Tryz.prog 150 #[.agg #[.int .i64 id,.int .i64 n,.string s,.string t]] w (ValBad w) := by
 have HSH := zh hsh
 clear hsh
 have Hhc := zh hc
 clear hc
 go_enter Tryz.func150,Tryz.ntmps150
 go_wp2_with fail
 refine (shape_use id 5 wd lo hi (uh HSH) _).mono ?_
 rintro e w1 ⟨rfl,hb1⟩
 have HB1 := bal1 hb1
 have c1 : w1.cell? ⟨w.heap.size,1,none⟩ = some (.int .i64 n) := (hb1.cell (p := ⟨w.heap.size,1,none⟩) (by simp)).trans (by simp)
 have c2 : w1.cell? ⟨w.heap.size,2,none⟩ = some (.string s) := (hb1.cell (p := ⟨w.heap.size,2,none⟩) (by simp)).trans (by simp)
 have c3 : w1.cell? ⟨w.heap.size,3,none⟩ = some (.string t) := (hb1.cell (p := ⟨w.heap.size,3,none⟩) (by simp)).trans (by simp)
 have hlt : w.heap.size < w1.heap.size := cell_lt c1
 clear hb1
 go_wp2_with fail
 refine (pair_bad1 s t _ hl (uh Hhc)).mono ?_
 rintro e w2 ⟨t',x,m,rfl,hy,hb2⟩
 go_wp2
 go_ret2
 exact ⟨_,_,_,rfl,hy,(((uh HB1).alloc (uh HB1).size _).trans (hb2.mono (by simp; omega)))⟩
theorem value_pair_bad2 (id n : Int) (s t : ByteArray) (w : World) (wd lo hi : Int) (hsh : shv id = .agg #[.int .i64 5,.int .i64 wd,.int .i64 lo,.int .i64 hi]) (hl : t.size <= 4611686018427387904) (hc : chk (sb s) = 0) (hd : chk (sb t) ≠ 0) :
  Calls Tryz.prog 150 #[.agg #[.int .i64 id,.int .i64 n,.string s,.string t]] w (ValBad w) := by
 have HSH := zh hsh
 clear hsh
 have Hhc := zh hc
 clear hc
 have Hhd := zh hd
 clear hd
 go_enter Tryz.func150,Tryz.ntmps150
 go_wp2_with fail
 refine (shape_use id 5 wd lo hi (uh HSH) _).mono ?_
 rintro e w1 ⟨rfl,hb1⟩
 have HB1 := bal1 hb1
 have c1 : w1.cell? ⟨w.heap.size,1,none⟩ = some (.int .i64 n) := (hb1.cell (p := ⟨w.heap.size,1,none⟩) (by simp)).trans (by simp)
 have c2 : w1.cell? ⟨w.heap.size,2,none⟩ = some (.string s) := (hb1.cell (p := ⟨w.heap.size,2,none⟩) (by simp)).trans (by simp)
 have c3 : w1.cell? ⟨w.heap.size,3,none⟩ = some (.string t) := (hb1.cell (p := ⟨w.heap.size,3,none⟩) (by simp)).trans (by simp)
 have hlt : w.heap.size < w1.heap.size := cell_lt c1
 clear hb1
 go_wp2_with fail
 refine (pair_bad2 s t _ hl (uh Hhc) (uh Hhd)).mono ?_
 rintro e w2 ⟨t',x,m,rfl,hy,hb2⟩
 go_wp2
 go_ret2
 exact ⟨_,_,_,rfl,hy,(((uh HB1).alloc (uh HB1).size _).trans (hb2.mono (by simp; omega)))⟩
theorem lst_pos (id : Int) : 0 <= lst id := by unfold lst; split <;> omega
theorem fit_num {id n : Int} {s t : ByteArray} (h : fit (id,n,s,t) = true) : 0 <= n /\ lst id <= n /\ n <= mx id := by
 unfold fit at h
 rw [Bool.and_eq_true,Bool.and_eq_true,decide_eq_true_eq,decide_eq_true_eq] at h
 have := lst_pos id
 have h1 := h.1
 simp only at h1
 omega
theorem shv_of (id k f wd m : Int) (hk : kd id = k) (hf : (if k = 1 \/ k = 2 \/ k = 4 then 1 else if k = 5 then 2 else if k = 6 then 3 else if k = 7 then 4 else if k = 8 then 5 else 0) = f) (hw : (if k = 1 \/ k = 2 \/ k = 4 then k else 0) = wd) (hm : mx id = m) : shv id = .agg #[.int .i64 f,.int .i64 wd,.int .i64 (lst id),.int .i64 m] := by
 unfold shv frm wid
 rw [hk,hf,hw,hm]
theorem pvb_num (id n : Int) (s t : ByteArray) (k : Int) (hk : kd id = k) (h : k = 1 \/ k = 2 \/ k = 4) : pvb (id,n,s,t) = nbs k n := by
 unfold pvb nbs
 rcases h with rfl | rfl | rfl <;> simp [hk]
theorem value_ok (id n : Int) (s t : ByteArray) (w : World) (hm : may (id,n,s,t) = true) : Calls Tryz.prog 150 #[.agg #[.int .i64 id,.int .i64 n,.string s,.string t]] w (ValOk (pvb (id,n,s,t)) w) := by
 unfold may at hm
 rw [Bool.and_eq_true] at hm
 obtain ⟨hf,ht⟩ := hm
 obtain ⟨h0,h1,h2⟩ := fit_num hf
 have hx : mx id = (if kd id = 1 then 1 else if kd id = 2 then 65535 else if kd id = 4 then 4294967295 else if kd id = 5 then 268435455 else 0) := rfl
 rcases kd_cases id with h | h | h | h | h | h | h | h
 ·unfold txo at ht; simp [h] at ht
 ·rw [pvb_num id n s t 1 h (by omega)]
  rw [if_pos h] at hx
  exact value_num id n 1 s t w _ _ (shv_of id 1 1 1 1 h rfl rfl hx) (.inl ⟨rfl,by omega⟩) h0
 ·rw [pvb_num id n s t 2 h (by omega)]
  rw [if_neg (by omega),if_pos h] at hx
  exact value_num id n 2 s t w _ _ (shv_of id 2 1 2 65535 h rfl rfl hx) (.inr (.inl ⟨rfl,by omega⟩)) h0
 ·rw [pvb_num id n s t 4 h (by omega)]
  rw [if_neg (by omega),if_neg (by omega),if_pos h] at hx
  exact value_num id n 4 s t w _ _ (shv_of id 4 1 4 4294967295 h rfl rfl hx) (.inr (.inr ⟨rfl,by omega⟩)) h0
 ·rw [show pvb (id,n,s,t) = V.put n from by unfold pvb; simp [h]]
  rw [if_neg (by omega),if_neg (by omega),if_neg (by omega),if_pos h] at hx
  exact value_var id n s t w _ _ _ (shv_of id 5 2 0 _ h rfl rfl hx) h0 (by omega)
 ·rw [show pvb (id,n,s,t) = tx s from by unfold pvb; simp [h]]
  rw [if_neg (by omega),if_neg (by omega),if_neg (by omega),if_neg (by omega)] at hx
  exact value_text id n s t w _ _ _ (shv_of id 6 3 0 _ h rfl rfl hx) (by unfold txo at ht; simpa [h] using ht)
 ·rw [show pvb (id,n,s,t) = tx s from by unfold pvb; simp [h]]
  rw [if_neg (by omega),if_neg (by omega),if_neg (by omega),if_neg (by omega)] at hx
  exact value_bin id n s t w _ _ _ (shv_of id 7 4 0 _ h rfl rfl hx) (by unfold txo at ht; simpa [h] using ht)
 ·rw [show pvb (id,n,s,t) = tx s ++ tx t from by unfold pvb; simp [h]]
  rw [if_neg (by omega),if_neg (by omega),if_neg (by omega),if_neg (by omega)] at hx
  have hc : chk (sb s) = 0 /\ chk (sb t) = 0 := by unfold txo at ht; simpa [h] using ht
  exact value_pair id n s t w _ _ _ (shv_of id 8 5 0 _ h rfl rfl hx) hc.1 hc.2
theorem value_bad (id n : Int) (s t : ByteArray) (w : World) (hls : s.size <= 4611686018427387904) (hlt : t.size <= 4611686018427387904) (hk : kd id ≠ 0) (ht : txo (id,n,s,t) = false) : Calls Tryz.prog 150 #[.agg #[.int .i64 id,.int .i64 n,.string s,.string t]] w (ValBad w) := by
 have hx : mx id = (if kd id = 1 then 1 else if kd id = 2 then 65535 else if kd id = 4 then 4294967295 else if kd id = 5 then 268435455 else 0) := rfl
 rcases kd_cases id with h | h | h | h | h | h | h | h
 ·exact absurd h hk
 ·unfold txo at ht; simp [h] at ht
 ·unfold txo at ht; simp [h] at ht
 ·unfold txo at ht; simp [h] at ht
 ·unfold txo at ht; simp [h] at ht
 ·rw [if_neg (by omega),if_neg (by omega),if_neg (by omega),if_neg (by omega)] at hx
  exact value_text_bad id n s t w _ _ _ (shv_of id 6 3 0 _ h rfl rfl hx) hls (by unfold txo at ht; simpa [h] using ht)
 ·rw [if_neg (by omega),if_neg (by omega),if_neg (by omega),if_neg (by omega)] at hx
  exact value_bin_bad id n s t w _ _ _ (shv_of id 7 4 0 _ h rfl rfl hx) (by unfold txo at ht; simpa [h] using ht)
 ·rw [if_neg (by omega),if_neg (by omega),if_neg (by omega),if_neg (by omega)] at hx
  have hc : chk (sb s) = 0 -> ¬ chk (sb t) = 0 := by unfold txo at ht; simpa [h] using ht
  by_cases hs : chk (sb s) = 0
  ·exact value_pair_bad2 id n s t w _ _ _ (shv_of id 8 5 0 _ h rfl rfl hx) hlt hs (hc hs)
  ·exact value_pair_bad1 id n s t w _ _ _ (shv_of id 8 5 0 _ h rfl rfl hx) hls hs
theorem one_ok (id n : Int) (s t : ByteArray) (w : World) (hi : 1 <= id /\ id <= 42) (hm : may (id,n,s,t) = true) : Calls Tryz.prog 141 #[.agg #[.int .i64 id,.int .i64 n,.string s,.string t]] w (ValOk (pb (id,n,s,t)) w) := by
 have hle := pvb_le _ hm
 have HM := zh hm
 have HV := zh (fun W => value_ok id n s t W hm)
 have HL := zh (V.put_len id)
 have HP : Hid (pb (id,n,s,t) = V.put id ++ pvb (id,n,s,t)) := rfl
 generalize pb (id,n,s,t) = l at HP |-
 generalize pvb (id,n,s,t) = l2 at HP HV hle
 clear hm HM
 go_enter Tryz.func141,Tryz.ntmps141
 go_wp2_with fail
 refine (vput_use id _ (by omega) (by omega)).mono ?_
 rintro e w1 ⟨v1,rfl,hown1,hy1,hb1⟩
 have HR := zh (uh hy1).range
 have HB1 := bal1 hb1
 have c0 : w1.cell? ⟨w.heap.size,0,none⟩ = some (.int .i64 id) := (hb1.cell (p := ⟨w.heap.size,0,none⟩) (by simp)).trans (by simp)
 have c1 : w1.cell? ⟨w.heap.size,1,none⟩ = some (.int .i64 n) := (hb1.cell (p := ⟨w.heap.size,1,none⟩) (by simp)).trans (by simp)
 have c2 : w1.cell? ⟨w.heap.size,2,none⟩ = some (.string s) := (hb1.cell (p := ⟨w.heap.size,2,none⟩) (by simp)).trans (by simp)
 have c3 : w1.cell? ⟨w.heap.size,3,none⟩ = some (.string t) := (hb1.cell (p := ⟨w.heap.size,3,none⟩) (by simp)).trans (by simp)
 have HO1 : Hid (w1.ownsRow w.heap.size 5 1 v1 (V.put id).length ((V.put id).map (Value.int .u8))) := owns_mono (uh hown1) (by simp)
 clear hb1 hown1 hy1
 go_wp2_with fail
 refine ((uh HV) _).mono ?_
 rintro e w2 ⟨v2,rfl,hy2,hb2⟩
 have HO2 : Hid (w2.ownsRow w.heap.size 5 1 v1 (V.put id).length ((V.put id).map (Value.int .u8))) := owns_below (uh HO1) hb2
 have HB2 : Hid (Below w.heap.size w w2) := (uh HB1).trans (hb2.mono (uh HB1).size)
 clear hb2 HB1 HO1 c0 c1 c2 c3
 go_wp2_with (first
  | (at_builtin; refine wpList_append_byt _ rfl _ _ rfl w.heap.size _ (V.put id).length (V.put id) rfl (uh HO2) v2 l2 rfl (uh hy2) (by have := uh HL; omega) (uh HB2).size ?_)
  | go_in)
 intro v3 w3 hown3 hgrow3
 have hb3 : Below w.heap.size w w3 := (uh HB2).grown hgrow3 (uh HB2).size (fun k hk => ((uh HO2).lt k hk).1)
 have HY3 : Hid (Byt w3 v3 l) := by
  show Byt _ _ _
  rw [uh HP]
  exact byt_of_owns (by rw [List.map_append]; exact hown3) (range_app (uh HR) (uh hy2).range)
 clear hown3 hgrow3
 go_wp2
 go_ret2
 exact ⟨_,rfl,HY3,hb3⟩
theorem one_bad (id n : Int) (s t : ByteArray) (w : World) (hi : 1 <= id /\ id <= 42) (hls : s.size <= 4611686018427387904) (hlt : t.size <= 4611686018427387904) (hk : kd id ≠ 0) (ht : txo (id,n,s,t) = false) : Calls Tryz.prog 141 #[.agg #[.int .i64 id,.int .i64 n,.string s,.string t]] w (ValBad w) := by
 have HV := zh (fun W => value_bad id n s t W hls hlt hk ht)
 clear hls hlt hk ht
 go_enter Tryz.func141,Tryz.ntmps141
 go_wp2_with fail
 refine (vput_use id _ (by omega) (by omega)).mono ?_
 rintro e w1 ⟨v1,rfl,-,-,hb1⟩
 have HB1 := bal1 hb1
 have c0 : w1.cell? ⟨w.heap.size,0,none⟩ = some (.int .i64 id) := (hb1.cell (p := ⟨w.heap.size,0,none⟩) (by simp)).trans (by simp)
 have c1 : w1.cell? ⟨w.heap.size,1,none⟩ = some (.int .i64 n) := (hb1.cell (p := ⟨w.heap.size,1,none⟩) (by simp)).trans (by simp)
 have c2 : w1.cell? ⟨w.heap.size,2,none⟩ = some (.string s) := (hb1.cell (p := ⟨w.heap.size,2,none⟩) (by simp)).trans (by simp)
 have c3 : w1.cell? ⟨w.heap.size,3,none⟩ = some (.string t) := (hb1.cell (p := ⟨w.heap.size,3,none⟩) (by simp)).trans (by simp)
 clear hb1
 go_wp2_with fail
 refine ((uh HV) _).mono ?_
 rintro e w2 ⟨t2,x2,m,rfl,hi2,hb2⟩
 go_wp2
 go_ret2
 exact ⟨_,_,_,rfl,hi2,(uh HB1).trans (hb2.mono (uh HB1).size)⟩
end Go.Proofs.YtemedclhglkfjaaGreatDoor
