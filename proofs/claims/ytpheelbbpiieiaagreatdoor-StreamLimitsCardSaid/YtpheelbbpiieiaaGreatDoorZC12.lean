/- Proved here: helpers, one text behind the other. -/
import Derived.Test.YtpheelbbpiieiaaGreatDoorZC11
import Derived.Handy
import Derived.Test.YtpheelbbpiieiaaGreatDoorZC9
import Derived.Deep.WholeRow
set_option maxHeartbeats 20000000
namespace Go.Proofs.YtpheelbbpiieiaaGreatDoor
open Go.RowKit
set_option maxRecDepth 100000
def fitB (f lo hi n:Int) (s t:ByteArray):Bool:=decide (lo<=n) && decide (n<=hi) && (if f=5 then true else if f=3\/f=4 then emp t else emp s && emp t)
theorem kd_cases (id:Int):kd id=0\/kd id=1\/kd id=2\/kd id=4\/kd id=5\/kd id=6\/kd id=7\/kd id=8:=by
 unfold kd
 repeat' split
 all_goals omega
theorem fit_eq (id n:Int) (s t:ByteArray):fit (id,n,s,t)=fitB (frm id) (lst id) (mx id) n s t:=by
 unfold fit fitB frm
 rcases kd_cases id with h | h | h | h | h | h | h | h <;> simp[h]
abbrev FitPost (f lo hi n:Int) (s t:ByteArray) (w:World) (e:Ending) (w':World):Prop:=e=.returned (.bool (fitB f lo hi n s t))/\Below w.heap.size w w'
theorem fits_any (f wd lo hi id n:Int) (s t:ByteArray) (w:World) :
  Calls Tryz.prog 161 #[.agg #[.int .i64 f,.int .i64 wd,.int .i64 lo,.int .i64 hi],.agg #[.int .i64 id,.int .i64 n,.string s,.string t]] w (FitPost f lo hi n s t w):=by
 unfold FitPost
 by_cases h1:n < lo
 ·have hm:Hid (false=fitB f lo hi n s t):=by show _=_;unfold fitB;rw[decide_eq_false (by omega:¬ lo<=n)];rfl
  go_enter Tryz.func161,Tryz.ntmps161
  go_wp2
  go_ret
  exact⟨ret_bool (uh hm),by go_grown⟩
 by_cases h2:hi < n
 ·have hm:Hid (false=fitB f lo hi n s t):=by show _=_;unfold fitB;rw[decide_eq_false (by omega:¬ n<=hi),Bool.and_false];rfl
  go_enter Tryz.func161,Tryz.ntmps161
  go_wp2
  go_ret
  exact⟨ret_bool (uh hm),by go_grown⟩
 have hg:Hid (fitB f lo hi n s t=(if f=5 then true else if f=3\/f=4 then emp t else emp s && emp t)):=by
  show _=_;unfold fitB;rw[decide_eq_true (by omega:lo<=n),decide_eq_true (by omega:n<=hi)];rfl
 by_cases f5:f=5
 ·have hm:Hid (true=fitB f lo hi n s t):=by show _=_;rw[uh hg,if_pos f5]
  subst f5
  go_enter Tryz.func161,Tryz.ntmps161
  go_wp2
  go_ret
  exact⟨ret_bool (uh hm),by go_grown⟩
 by_cases f3:f=3
 ·have hm:Hid (fitB f lo hi n s t=emp t):=by show _=_;rw[uh hg,if_neg f5,if_pos (.inl f3)]
  subst f3
  clear hg f5
  go_enter Tryz.func161,Tryz.ntmps161
  go_wp2
  go_ret
  exact⟨ret_bool (uh hm).symm,by go_grown⟩
 by_cases f4:f=4
 ·have hm:Hid (fitB f lo hi n s t=emp t):=by show _=_;rw[uh hg,if_neg f5,if_pos (.inr f4)]
  subst f4
  clear hg f5 f3
  go_enter Tryz.func161,Tryz.ntmps161
  go_wp2
  go_ret
  exact⟨ret_bool (uh hm).symm,by go_grown⟩
 have hm:Hid (fitB f lo hi n s t=(emp s && emp t)):=by show _=_;rw[uh hg,if_neg f5,if_neg (by omega)]
 have b5:(f == 5)=false:=beq_eq_false_iff_ne.2 f5
 have b4:(f == 4)=false:=beq_eq_false_iff_ne.2 f4
 have b3:(f == 3)=false:=beq_eq_false_iff_ne.2 f3
 clear hg f5 f4 f3
 by_cases hs:s.toList.isEmpty=true
 ·have hm':Hid (fitB f lo hi n s t=emp t):=by show _=_;rw[uh hm];show (s.toList.isEmpty && _)=_;rw[hs];rfl
  clear hm
  go_enter Tryz.func161,Tryz.ntmps161
  go_wp2
  go_ret
  exact⟨ret_bool (uh hm').symm,by go_grown⟩
 ·have hs':s.toList.isEmpty=false:=by simpa using hs
  have hm':Hid (false=fitB f lo hi n s t):=by show _=_;rw[uh hm];show _=(s.toList.isEmpty && _);rw[hs'];rfl
  clear hm hs
  go_enter Tryz.func161,Tryz.ntmps161
  go_wp2
  go_ret
  exact⟨ret_bool (uh hm'),by go_grown⟩
theorem repeat_any (id place:Int) (w:World):Calls Tryz.prog 162 #[.int .i64 id,.int .i64 place] w fun e w'=>e=.returned (.bool (rep id place))/\w'=w:=by
 by_cases h1:id=38
 ·subst h1
  go_enter Tryz.func162,Tryz.ntmps162
  go_wp2
  go_ret
  exact⟨rfl,rfl⟩
 by_cases h2:id=11
 ·subst h2
  go_enter Tryz.func162,Tryz.ntmps162
  go_wp2
  go_ret
  exact⟨rfl,rfl⟩
 ·have hm:Hid (false=rep id place):=by show _=_;unfold rep;simp[h1,h2]
  have b1:(id == 38)=false:=beq_eq_false_iff_ne.2 h1
  have b2:(id == 11)=false:=beq_eq_false_iff_ne.2 h2
  go_enter Tryz.func162,Tryz.ntmps162
  go_wp2
  go_ret
  exact⟨ret_bool (uh hm),rfl⟩
def Ints (w:World) (v:Value) (xs:List Int):Prop :=
 ∃ ao cap,v=.slice ao xs.length cap/\xs.length<=maxLen/\(xs=[]\/∃ b off,ao=some ⟨b,off,none⟩/\∀ j,j < xs.length->w.cell? ⟨b,off+j,none⟩=some (.int .i64 (xs.getD j 0)))
theorem ints_lit (w:World) (xs:List Int) (n:Nat) (hn:xs.length=n) (h:n<=100) (t:TypeId):Ints (w.alloc (.cells (xs.map (Value.int .i64)).toArray t)) (.slice (some ⟨w.heap.size,0,none⟩) n n) xs:=by
 subst hn
 refine⟨_,_,rfl,by unfold maxLen;omega,.inr ⟨_,_,rfl,fun j hj=>?_⟩⟩
 rw[World.cell?_alloc_at _ _ _ _ rfl]
 simp[hj]
theorem mem_getD (xs:List Int) (v:Int):(∃ j,j < xs.length/\xs.getD j 0=v) ↔ v ∈ xs:=by
 rw[List.mem_iff_getElem]
 constructor
 ·rintro⟨j,hj,h⟩;exact⟨j,hj,by rw[List.getD_eq_getElem?_getD,List.getElem?_eq_getElem hj]at h;exact h⟩
 ·rintro⟨j,hj,h⟩;exact⟨j,hj,by rw[List.getD_eq_getElem?_getD,List.getElem?_eq_getElem hj];exact h⟩
theorem index_core (b off n cap:Nat) (f:Nat->Int) (v:Int) (w:World) (hn:n<=maxLen) (hf:∀ j,j < n->w.cell? ⟨b,off+j,none⟩=some (.int .i64 (f j))) :
  Calls Tryz.prog 177 #[.slice (some ⟨b,off,none⟩) n cap,.int .i64 v] w fun e w'=>(∃ r:Int,e=.returned (.int .i64 r)/\(0<=r ↔ ∃ j,j < n/\f j=v))/\w'=w:=by
 unfold maxLen at hn
 have HF:=zh hf
 clear hf
 go_enter Tryz.func177,Tryz.ntmps177
 go_wp2
 go_loop [8] (fun i=>∃ k:Nat,k<=n/\i=.int .i64 k/\Hid (∀ j,j < k->f j≠v)) (fun i=>n - (intOf i).toNat)
 case atStart=>exact⟨0,Nat.zero_le _,rfl,fun j hj=>absurd hj (Nat.not_lt_zero j)⟩
 case round =>
  obtain⟨k,hk,rfl,HA⟩:=hrel
  by_cases hlt:k < n
  ·have hfk:=(uh HF) k hlt
   generalize hx:f k=x at hfk
   have HX:=zh hx
   clear hx
   by_cases hxy:v=x
   ·have hb:(v == x)=true:=beq_iff_eq.2 hxy
    have HE:=zh hxy
    clear hxy
    go_wp2
    go_ret
    exact⟨⟨_,rfl,fun _=>⟨k,hlt,(uh HX).trans (uh HE).symm⟩,fun _=>by omega⟩,rfl⟩
   ·have hb:(v == x)=false:=beq_eq_false_iff_ne.2 hxy
    have HE:=zh hxy
    clear hxy
    go_wp2
    go_round
    case rel=>exact⟨k+1,by omega,by go_num,fun j hj=>by
     rcases Nat.lt_succ_iff_lt_or_eq.1 hj with h | h
     ·exact (uh HA) j h
     ·rw[h,uh HX];exact fun h=>(uh HE) h.symm⟩
    case measure=>simp[intOf];omega
  ·go_wp2
   go_ret
   exact⟨⟨_,rfl,fun h=>absurd h (by omega),fun ⟨j,hj,h⟩=>absurd h ((uh HA) j (by omega))⟩,rfl⟩
theorem index_nil (ao:Option Addr) (cap:Nat) (v:Int) (w:World):Calls Tryz.prog 177 #[.slice ao 0 cap,.int .i64 v] w fun e w'=>e=.returned (.int .i64 (-1))/\w'=w:=by
 go_enter Tryz.func177,Tryz.ntmps177
 go_wp2
 refine wp_loop_rounds 1 ?_
 rw[rounds_succ]
 go_wp2
 go_ret
 exact⟨rfl,rfl⟩
theorem index_any (vx:Value) (xs:List Int) (v:Int) (w:World) (h:Ints w vx xs) :
  Calls Tryz.prog 177 #[vx,.int .i64 v] w fun e w'=>(∃ r:Int,e=.returned (.int .i64 r)/\Hid (decide (0<=r)=decide (v ∈ xs)))/\w'=w:=by
 obtain⟨ao,cap,rfl,hl,hcase⟩:=h
 rcases hcase with rfl | ⟨b,off,rfl,hc⟩
 ·refine (index_nil ao cap v w).mono ?_
  rintro e w' ⟨rfl,rfl⟩
  exact⟨⟨_,rfl,by show decide _=decide _;simp⟩,rfl⟩
 ·refine (index_core b off xs.length cap (fun j=>xs.getD j 0) v w hl hc).mono ?_
  rintro e w' ⟨⟨r,rfl,hr⟩,rfl⟩
  rw[mem_getD]at hr
  exact⟨⟨r,rfl,by show decide _=decide _;rw[decide_eq_decide];exact hr⟩,rfl⟩
theorem oneOf_any (vx:Value) (xs:List Int) (v:Int) (w:World) (h:Ints w vx xs) :
  Calls Tryz.prog 171 #[.int .i64 v,vx] w fun e w'=>e=.returned (.bool (decide (v ∈ xs)))/\w'=w:=by
 have H:=zh h
 clear h
 have hc:Calls Tryz.prog 174 #[vx,.int .i64 v] w fun e w'=>e=.returned (.bool (decide (v ∈ xs)))/\w'=w:=by
  go_enter Tryz.func174,Tryz.ntmps174
  go_wp2_with (go_at_call 177;refine (index_any vx xs v _ (uh H)).mono ?_;rintro e w' ⟨⟨r,rfl,hr⟩,rfl⟩)
  go_ret
  exact⟨ret_bool (uh hr),rfl⟩
 go_enter Tryz.func171,Tryz.ntmps171
 go_wp2_with (go_at_call 174;refine hc.mono ?_;rintro e w' ⟨rfl,rfl⟩)
 go_ret
 exact⟨rfl,rfl⟩
theorem oneOf_use (vx:Value) (xs:List Int) (v:Int) (w:World) (h:Ints w vx xs) :
  Calls Tryz.prog 171 #[.int .i64 v,vx] w fun e w'=>(∃ b:Bool,e=.returned (.bool b)/\Hid (b=decide (v ∈ xs)))/\w'=w:=by
 refine (oneOf_any vx xs v w h).mono ?_
 rintro e w' ⟨rfl,rfl⟩
 exact⟨⟨_,rfl,rfl⟩,rfl⟩
def StandPost (id place:Int) (w:World) (e:Ending) (w':World):Prop:=e=.returned (.bool (mst id place))/\Below w.heap.size w w'
theorem stand_1 (place:Int) (w:World):Calls Tryz.prog 160 #[.int .i64 1,.int .i64 place] w (StandPost 1 place w):=by
 unfold StandPost
 go_enter Tryz.func160,Tryz.ntmps160
 go_wp2_with (go_at_call 171;refine (oneOf_use _ [3,16] place _ (ints_lit _ [3,16] 2 rfl (by omega) 3)).mono ?_;rintro e w' ⟨⟨b,rfl,hb⟩,rfl⟩)
 go_ret
 exact⟨ret_bool (uh hb),by go_grown⟩
theorem stand_2 (place:Int) (w:World):Calls Tryz.prog 160 #[.int .i64 2,.int .i64 place] w (StandPost 2 place w):=by
 unfold StandPost
 go_enter Tryz.func160,Tryz.ntmps160
 go_wp2_with (go_at_call 171;refine (oneOf_use _ [3,16] place _ (ints_lit _ [3,16] 2 rfl (by omega) 3)).mono ?_;rintro e w' ⟨⟨b,rfl,hb⟩,rfl⟩)
 go_ret
 exact⟨ret_bool (uh hb),by go_grown⟩
theorem stand_3 (place:Int) (w:World):Calls Tryz.prog 160 #[.int .i64 3,.int .i64 place] w (StandPost 3 place w):=by
 unfold StandPost
 go_enter Tryz.func160,Tryz.ntmps160
 go_wp2_with (go_at_call 171;refine (oneOf_use _ [3,16] place _ (ints_lit _ [3,16] 2 rfl (by omega) 3)).mono ?_;rintro e w' ⟨⟨b,rfl,hb⟩,rfl⟩)
 go_ret
 exact⟨ret_bool (uh hb),by go_grown⟩
theorem stand_8 (place:Int) (w:World):Calls Tryz.prog 160 #[.int .i64 8,.int .i64 place] w (StandPost 8 place w):=by
 unfold StandPost
 go_enter Tryz.func160,Tryz.ntmps160
 go_wp2_with (go_at_call 171;refine (oneOf_use _ [3,16] place _ (ints_lit _ [3,16] 2 rfl (by omega) 3)).mono ?_;rintro e w' ⟨⟨b,rfl,hb⟩,rfl⟩)
 go_ret
 exact⟨ret_bool (uh hb),by go_grown⟩
theorem stand_9 (place:Int) (w:World):Calls Tryz.prog 160 #[.int .i64 9,.int .i64 place] w (StandPost 9 place w):=by
 unfold StandPost
 go_enter Tryz.func160,Tryz.ntmps160
 go_wp2_with (go_at_call 171;refine (oneOf_use _ [3,16] place _ (ints_lit _ [3,16] 2 rfl (by omega) 3)).mono ?_;rintro e w' ⟨⟨b,rfl,hb⟩,rfl⟩)
 go_ret
 exact⟨ret_bool (uh hb),by go_grown⟩
theorem stand_11 (place:Int) (w:World):Calls Tryz.prog 160 #[.int .i64 11,.int .i64 place] w (StandPost 11 place w):=by
 unfold StandPost
 go_enter Tryz.func160,Tryz.ntmps160
 go_wp2_with (go_at_call 171;refine (oneOf_use _ [3,8] place _ (ints_lit _ [3,8] 2 rfl (by omega) 3)).mono ?_;rintro e w' ⟨⟨b,rfl,hb⟩,rfl⟩)
 go_ret
 exact⟨ret_bool (uh hb),by go_grown⟩
theorem stand_17 (place:Int) (w:World):Calls Tryz.prog 160 #[.int .i64 17,.int .i64 place] w (StandPost 17 place w):=by
 unfold StandPost
 go_enter Tryz.func160,Tryz.ntmps160
 go_wp2_with (go_at_call 171;refine (oneOf_use _ [1,2,14] place _ (ints_lit _ [1,2,14] 3 rfl (by omega) 3)).mono ?_;rintro e w' ⟨⟨b,rfl,hb⟩,rfl⟩)
 go_ret
 exact⟨ret_bool (uh hb),by go_grown⟩
theorem stand_18 (place:Int) (w:World):Calls Tryz.prog 160 #[.int .i64 18,.int .i64 place] w (StandPost 18 place w):=by
 unfold StandPost
 have hm:Hid (mst 18 place=(place == 2)):=by
  show mst 18 place=(place == 2)
  unfold mst
  rw[show plc 18=[2] from rfl]
  simp only[List.mem_singleton]
  rfl
 go_enter Tryz.func160,Tryz.ntmps160
 go_wp2
 go_ret
 exact⟨ret_bool (uh hm).symm,by go_grown⟩
theorem stand_19 (place:Int) (w:World):Calls Tryz.prog 160 #[.int .i64 19,.int .i64 place] w (StandPost 19 place w):=by
 unfold StandPost
 have hm:Hid (mst 19 place=(place == 2)):=by
  show mst 19 place=(place == 2)
  unfold mst
  rw[show plc 19=[2] from rfl]
  simp only[List.mem_singleton]
  rfl
 go_enter Tryz.func160,Tryz.ntmps160
 go_wp2
 go_ret
 exact⟨ret_bool (uh hm).symm,by go_grown⟩
theorem stand_21 (place:Int) (w:World):Calls Tryz.prog 160 #[.int .i64 21,.int .i64 place] w (StandPost 21 place w):=by
 unfold StandPost
 go_enter Tryz.func160,Tryz.ntmps160
 go_wp2_with (go_at_call 171;refine (oneOf_use _ [1,2,15] place _ (ints_lit _ [1,2,15] 3 rfl (by omega) 3)).mono ?_;rintro e w' ⟨⟨b,rfl,hb⟩,rfl⟩)
 go_ret
 exact⟨ret_bool (uh hb),by go_grown⟩
theorem stand_22 (place:Int) (w:World):Calls Tryz.prog 160 #[.int .i64 22,.int .i64 place] w (StandPost 22 place w):=by
 unfold StandPost
 go_enter Tryz.func160,Tryz.ntmps160
 go_wp2_with (go_at_call 171;refine (oneOf_use _ [1,2,15] place _ (ints_lit _ [1,2,15] 3 rfl (by omega) 3)).mono ?_;rintro e w' ⟨⟨b,rfl,hb⟩,rfl⟩)
 go_ret
 exact⟨ret_bool (uh hb),by go_grown⟩
theorem stand_23 (place:Int) (w:World):Calls Tryz.prog 160 #[.int .i64 23,.int .i64 place] w (StandPost 23 place w):=by
 unfold StandPost
 have hm:Hid (mst 23 place=(place == 1)):=by
  show mst 23 place=(place == 1)
  unfold mst
  rw[show plc 23=[1] from rfl]
  simp only[List.mem_singleton]
  rfl
 go_enter Tryz.func160,Tryz.ntmps160
 go_wp2
 go_ret
 exact⟨ret_bool (uh hm).symm,by go_grown⟩
theorem stand_24 (place:Int) (w:World):Calls Tryz.prog 160 #[.int .i64 24,.int .i64 place] w (StandPost 24 place w):=by
 unfold StandPost
 have hm:Hid (mst 24 place=(place == 16)):=by
  show mst 24 place=(place == 16)
  unfold mst
  rw[show plc 24=[16] from rfl]
  simp only[List.mem_singleton]
  rfl
 go_enter Tryz.func160,Tryz.ntmps160
 go_wp2
 go_ret
 exact⟨ret_bool (uh hm).symm,by go_grown⟩
theorem stand_25 (place:Int) (w:World):Calls Tryz.prog 160 #[.int .i64 25,.int .i64 place] w (StandPost 25 place w):=by
 unfold StandPost
 have hm:Hid (mst 25 place=(place == 1)):=by
  show mst 25 place=(place == 1)
  unfold mst
  rw[show plc 25=[1] from rfl]
  simp only[List.mem_singleton]
  rfl
 go_enter Tryz.func160,Tryz.ntmps160
 go_wp2
 go_ret
 exact⟨ret_bool (uh hm).symm,by go_grown⟩
theorem stand_26 (place:Int) (w:World):Calls Tryz.prog 160 #[.int .i64 26,.int .i64 place] w (StandPost 26 place w):=by
 unfold StandPost
 have hm:Hid (mst 26 place=(place == 2)):=by
  show mst 26 place=(place == 2)
  unfold mst
  rw[show plc 26=[2] from rfl]
  simp only[List.mem_singleton]
  rfl
 go_enter Tryz.func160,Tryz.ntmps160
 go_wp2
 go_ret
 exact⟨ret_bool (uh hm).symm,by go_grown⟩
theorem stand_28 (place:Int) (w:World):Calls Tryz.prog 160 #[.int .i64 28,.int .i64 place] w (StandPost 28 place w):=by
 unfold StandPost
 go_enter Tryz.func160,Tryz.ntmps160
 go_wp2_with (go_at_call 171;refine (oneOf_use _ [2,14] place _ (ints_lit _ [2,14] 2 rfl (by omega) 3)).mono ?_;rintro e w' ⟨⟨b,rfl,hb⟩,rfl⟩)
 go_ret
 exact⟨ret_bool (uh hb),by go_grown⟩
theorem stand_31 (place:Int) (w:World):Calls Tryz.prog 160 #[.int .i64 31,.int .i64 place] w (StandPost 31 place w):=by
 unfold StandPost
 go_enter Tryz.func160,Tryz.ntmps160
 go_wp2_with (go_at_call 171;refine (oneOf_use _ [2,4,5,6,7,9,11,14,15] place _ (ints_lit _ [2,4,5,6,7,9,11,14,15] 9 rfl (by omega) 3)).mono ?_;rintro e w' ⟨⟨b,rfl,hb⟩,rfl⟩)
 go_ret
 exact⟨ret_bool (uh hb),by go_grown⟩
theorem stand_33 (place:Int) (w:World):Calls Tryz.prog 160 #[.int .i64 33,.int .i64 place] w (StandPost 33 place w):=by
 unfold StandPost
 go_enter Tryz.func160,Tryz.ntmps160
 go_wp2_with (go_at_call 171;refine (oneOf_use _ [1,2] place _ (ints_lit _ [1,2] 2 rfl (by omega) 3)).mono ?_;rintro e w' ⟨⟨b,rfl,hb⟩,rfl⟩)
 go_ret
 exact⟨ret_bool (uh hb),by go_grown⟩
theorem stand_34 (place:Int) (w:World):Calls Tryz.prog 160 #[.int .i64 34,.int .i64 place] w (StandPost 34 place w):=by
 unfold StandPost
 go_enter Tryz.func160,Tryz.ntmps160
 go_wp2_with (go_at_call 171;refine (oneOf_use _ [1,2] place _ (ints_lit _ [1,2] 2 rfl (by omega) 3)).mono ?_;rintro e w' ⟨⟨b,rfl,hb⟩,rfl⟩)
 go_ret
 exact⟨ret_bool (uh hb),by go_grown⟩
theorem stand_35 (place:Int) (w:World):Calls Tryz.prog 160 #[.int .i64 35,.int .i64 place] w (StandPost 35 place w):=by
 unfold StandPost
 have hm:Hid (mst 35 place=(place == 3)):=by
  show mst 35 place=(place == 3)
  unfold mst
  rw[show plc 35=[3] from rfl]
  simp only[List.mem_singleton]
  rfl
 go_enter Tryz.func160,Tryz.ntmps160
 go_wp2
 go_ret
 exact⟨ret_bool (uh hm).symm,by go_grown⟩
theorem stand_36 (place:Int) (w:World):Calls Tryz.prog 160 #[.int .i64 36,.int .i64 place] w (StandPost 36 place w):=by
 unfold StandPost
 have hm:Hid (mst 36 place=(place == 2)):=by
  show mst 36 place=(place == 2)
  unfold mst
  rw[show plc 36=[2] from rfl]
  simp only[List.mem_singleton]
  rfl
 go_enter Tryz.func160,Tryz.ntmps160
 go_wp2
 go_ret
 exact⟨ret_bool (uh hm).symm,by go_grown⟩
theorem stand_37 (place:Int) (w:World):Calls Tryz.prog 160 #[.int .i64 37,.int .i64 place] w (StandPost 37 place w):=by
 unfold StandPost
 have hm:Hid (mst 37 place=(place == 2)):=by
  show mst 37 place=(place == 2)
  unfold mst
  rw[show plc 37=[2] from rfl]
  simp only[List.mem_singleton]
  rfl
 go_enter Tryz.func160,Tryz.ntmps160
 go_wp2
 go_ret
 exact⟨ret_bool (uh hm).symm,by go_grown⟩
theorem stand_38 (place:Int) (w:World):Calls Tryz.prog 160 #[.int .i64 38,.int .i64 place] w (StandPost 38 place w):=by
 unfold StandPost
 by_cases h:1<=place/\place<=11
 ·obtain⟨h1,h2⟩:=h
  have hm:Hid (mst 38 place=true):=by
   show mst 38 place=true
   unfold mst
   rw[decide_eq_true_eq,show plc 38=[1,2,3,4,5,6,7,8,9,10,11,14,15,16] from rfl]
   simp only[List.mem_cons]
   omega
  go_enter Tryz.func160,Tryz.ntmps160
  go_wp2
  go_ret
  exact⟨ret_bool (uh hm).symm,by go_grown⟩
 ·have hm:Hid (mst 38 place=decide (place ∈ [14,15,16])):=by
   show mst 38 place=decide (place ∈ [14,15,16])
   unfold mst
   rw[decide_eq_decide,show plc 38=[1,2,3,4,5,6,7,8,9,10,11,14,15,16] from rfl]
   simp only[List.mem_cons,List.not_mem_nil,or_false]
   constructor <;> intro a <;> omega
  by_cases h1:1<=place
  ·have h2:¬ place<=11:=fun a=>h ⟨h1,a⟩
   clear h
   go_enter Tryz.func160,Tryz.ntmps160
   go_wp2_with (go_at_call 171;refine (oneOf_use _ [14,15,16] place _ (ints_lit _ [14,15,16] 3 rfl (by omega) 3)).mono ?_;rintro e w' ⟨⟨b,rfl,hb⟩,rfl⟩)
   go_ret
   exact⟨ret_bool ((uh hb).trans (uh hm).symm),by go_grown⟩
  ·clear h
   go_enter Tryz.func160,Tryz.ntmps160
   go_wp2_with (go_at_call 171;refine (oneOf_use _ [14,15,16] place _ (ints_lit _ [14,15,16] 3 rfl (by omega) 3)).mono ?_;rintro e w' ⟨⟨b,rfl,hb⟩,rfl⟩)
   go_ret
   exact⟨ret_bool ((uh hb).trans (uh hm).symm),by go_grown⟩
theorem stand_39 (place:Int) (w:World):Calls Tryz.prog 160 #[.int .i64 39,.int .i64 place] w (StandPost 39 place w):=by
 unfold StandPost
 go_enter Tryz.func160,Tryz.ntmps160
 go_wp2_with (go_at_call 171;refine (oneOf_use _ [1,2] place _ (ints_lit _ [1,2] 2 rfl (by omega) 3)).mono ?_;rintro e w' ⟨⟨b,rfl,hb⟩,rfl⟩)
 go_ret
 exact⟨ret_bool (uh hb),by go_grown⟩
theorem stand_40 (place:Int) (w:World):Calls Tryz.prog 160 #[.int .i64 40,.int .i64 place] w (StandPost 40 place w):=by
 unfold StandPost
 have hm:Hid (mst 40 place=(place == 2)):=by
  show mst 40 place=(place == 2)
  unfold mst
  rw[show plc 40=[2] from rfl]
  simp only[List.mem_singleton]
  rfl
 go_enter Tryz.func160,Tryz.ntmps160
 go_wp2
 go_ret
 exact⟨ret_bool (uh hm).symm,by go_grown⟩
theorem stand_41 (place:Int) (w:World):Calls Tryz.prog 160 #[.int .i64 41,.int .i64 place] w (StandPost 41 place w):=by
 unfold StandPost
 have hm:Hid (mst 41 place=(place == 2)):=by
  show mst 41 place=(place == 2)
  unfold mst
  rw[show plc 41=[2] from rfl]
  simp only[List.mem_singleton]
  rfl
 go_enter Tryz.func160,Tryz.ntmps160
 go_wp2
 go_ret
 exact⟨ret_bool (uh hm).symm,by go_grown⟩
theorem stand_42 (place:Int) (w:World):Calls Tryz.prog 160 #[.int .i64 42,.int .i64 place] w (StandPost 42 place w):=by
 unfold StandPost
 have hm:Hid (mst 42 place=(place == 2)):=by
  show mst 42 place=(place == 2)
  unfold mst
  rw[show plc 42=[2] from rfl]
  simp only[List.mem_singleton]
  rfl
 go_enter Tryz.func160,Tryz.ntmps160
 go_wp2
 go_ret
 exact⟨ret_bool (uh hm).symm,by go_grown⟩
theorem stand_none (id place:Int) (w:World) (hp:plc id=[]) (b1:(id == 1)=false) (b2:(id == 2)=false) (b3:(id == 3)=false) (b8:(id == 8)=false) (b9:(id == 9)=false) (b11:(id == 11)=false) (b17:(id == 17)=false) (b18:(id == 18)=false) (b19:(id == 19)=false) (b21:(id == 21)=false) (b22:(id == 22)=false) (b23:(id == 23)=false) (b24:(id == 24)=false) (b25:(id == 25)=false) (b26:(id == 26)=false) (b28:(id == 28)=false) (b31:(id == 31)=false) (b33:(id == 33)=false) (b34:(id == 34)=false) (b35:(id == 35)=false) (b36:(id == 36)=false) (b37:(id == 37)=false) (b38:(id == 38)=false) (b39:(id == 39)=false) (b40:(id == 40)=false) (b41:(id == 41)=false) (b42:(id == 42)=false):Calls Tryz.prog 160 #[.int .i64 id,.int .i64 place] w (StandPost id place w):=by
 have hm:Hid (mst id place=false):=by show mst id place=false;unfold mst;rw[hp];simp
 clear hp
 unfold StandPost
 go_enter Tryz.func160,Tryz.ntmps160
 go_wp2
 go_ret
 exact⟨ret_bool (uh hm).symm,by go_grown⟩
theorem stand_any (id place:Int) (w:World):Calls Tryz.prog 160 #[.int .i64 id,.int .i64 place] w (StandPost id place w):=by
 refine id_cases (P:=fun id=>Calls Tryz.prog 160 #[.int .i64 id,.int .i64 place] w (StandPost id place w)) id (stand_1 place w) (stand_2 place w) (stand_3 place w) (stand_8 place w) (stand_9 place w) (stand_11 place w) (stand_17 place w) (stand_18 place w) (stand_19 place w) (stand_21 place w) (stand_22 place w) (stand_23 place w) (stand_24 place w) (stand_25 place w) (stand_26 place w) (stand_28 place w) (stand_31 place w) (stand_33 place w) (stand_34 place w) (stand_35 place w) (stand_36 place w) (stand_37 place w) (stand_38 place w) (stand_39 place w) (stand_40 place w) (stand_41 place w) (stand_42 place w) ?_
 intro n1 n2 n3 n8 n9 n11 n17 n18 n19 n21 n22 n23 n24 n25 n26 n28 n31 n33 n34 n35 n36 n37 n38 n39 n40 n41 n42
 exact stand_none id place w (plc_none id n1 n2 n3 n8 n9 n11 n17 n18 n19 n21 n22 n23 n24 n25 n26 n28 n31 n33 n34 n35 n36 n37 n38 n39 n40 n41 n42) (beq_eq_false_iff_ne.2 n1) (beq_eq_false_iff_ne.2 n2) (beq_eq_false_iff_ne.2 n3) (beq_eq_false_iff_ne.2 n8) (beq_eq_false_iff_ne.2 n9) (beq_eq_false_iff_ne.2 n11) (beq_eq_false_iff_ne.2 n17) (beq_eq_false_iff_ne.2 n18) (beq_eq_false_iff_ne.2 n19) (beq_eq_false_iff_ne.2 n21) (beq_eq_false_iff_ne.2 n22) (beq_eq_false_iff_ne.2 n23) (beq_eq_false_iff_ne.2 n24) (beq_eq_false_iff_ne.2 n25) (beq_eq_false_iff_ne.2 n26) (beq_eq_false_iff_ne.2 n28) (beq_eq_false_iff_ne.2 n31) (beq_eq_false_iff_ne.2 n33) (beq_eq_false_iff_ne.2 n34) (beq_eq_false_iff_ne.2 n35) (beq_eq_false_iff_ne.2 n36) (beq_eq_false_iff_ne.2 n37) (beq_eq_false_iff_ne.2 n38) (beq_eq_false_iff_ne.2 n39) (beq_eq_false_iff_ne.2 n40) (beq_eq_false_iff_ne.2 n41) (beq_eq_false_iff_ne.2 n42)
def nbs (k n:Int):List Int:=if k=1 then [n] else if k=2 then [n / 256,n % 256] else [n / 16777216,n / 65536 % 256,n / 256 % 256,n % 256]
def NumPost (k n:Int) (w:World) (e:Ending) (w':World):Prop :=
 ∃ v,e=.returned v/\Hid (w'.ownsRow w.heap.size 5 1 v (nbs k n).length ((nbs k n).map (Value.int .u8)))/\Below w.heap.size w w'
theorem num_1 (n:Int) (w:World) (h0:0<=n) (h1:n<=1):Calls Tryz.prog 175 #[.int .i64 n,.int .i64 1] w (NumPost 1 n w):=by
 unfold NumPost
 have m1:=V.make1
 have hx:n % 256=n:=by omega
 go_enter Tryz.func175,Tryz.ntmps175
 go_wp2
 refine wp_loop_rounds 2 ?_
 rw[rounds_succ]
 go_wp2
 rw[rounds_succ]
 go_wp2
 go_ret
 exact⟨_,rfl,World.ownsRow_lit w _ _ (Nat.le_refl _) (by unfold maxLen;omega) (by simp),by go_grown⟩
theorem num_2 (n:Int) (w:World) (h0:0<=n) (h1:n<=65535):Calls Tryz.prog 175 #[.int .i64 n,.int .i64 2] w (NumPost 2 n w):=by
 unfold NumPost
 have m1:=V.make2
 have hx:n / 256 % 256=n / 256:=by omega
 go_enter Tryz.func175,Tryz.ntmps175
 go_wp2
 refine wp_loop_rounds 3 ?_
 rw[rounds_succ]
 go_wp2
 rw[rounds_succ]
 go_wp2
 rw[rounds_succ]
 go_wp2
 go_ret
 exact⟨_,rfl,World.ownsRow_lit w _ _ (Nat.le_refl _) (by unfold maxLen;omega) (by simp),by go_grown⟩
theorem num_4 (n:Int) (w:World) (h0:0<=n) (h1:n<=4294967295):Calls Tryz.prog 175 #[.int .i64 n,.int .i64 4] w (NumPost 4 n w):=by
 unfold NumPost
 have m1:=V.make4
 have hx:n / 256 / 256 / 256=n / 16777216:=by omega
 have hy:n / 256 / 256 % 256=n / 65536 % 256:=by omega
 go_enter Tryz.func175,Tryz.ntmps175
 go_wp2
 refine wp_loop_rounds 5 ?_
 rw[rounds_succ]
 go_wp2
 rw[rounds_succ]
 go_wp2
 rw[rounds_succ]
 go_wp2
 rw[rounds_succ]
 go_wp2
 rw[rounds_succ]
 go_wp2
 go_ret
 exact⟨_,rfl,World.ownsRow_lit w _ _ (Nat.le_refl _) (by unfold maxLen;omega) (by simp),by go_grown⟩
theorem wpList_value {P:Program} {ops:Array Oper} {rest:List Oper} {o:Oper} {a:Act} {w w':World} {v:Value} {Q:Exit->Act->World->Prop} (hg:o.guard=none) (hr:(execOp a.eval o).run P w=.ok (.value v) w') (h:wpList P ops Q rest (a.put o.dst v) w'):wpList P ops Q (o :: rest) a w :=
 wpList_plain hg fun K hK=>by unfold Oper.wp;rw[hr];exact hK _ _ h
theorem wpList_skip {P:Program} {ops:Array Oper} {rest:List Oper} {o:Oper} {a:Act} {w w':World} {Q:Exit->Act->World->Prop} (hg:o.guard=none) (hr:(execOp a.eval o).run P w=.ok .skip w') (h:wpList P ops Q rest (a.put o.dst undef) w'):wpList P ops Q (o :: rest) a w :=
 wpList_plain hg fun K hK=>by unfold Oper.wp;rw[hr];exact hK _ _ h
def rowA (place:Int):Array Value:=#[.int .i64 place]++Array.replicate 43 (.bool false)
theorem rowA_size (place:Int):(rowA place).size=44:=by simp[rowA]
theorem rowA_one (place:Int):(rowA place).all (·.oneCell')=true:=by kernel_rfl
theorem row_build (a:Act) (dst:Option Tmp) (x:Operand) (ty:TypeId) (pos:String) (after:Array Edge) (place:Int) (hx:a.eval x=.int .i64 place) (w:World) :
  (execOp a.eval ⟨dst,.build 204 #[(0,x)],ty,pos,after,none⟩).run Tryz.prog w=.ok (.value (.agg (rowA place))) w:=by
 unfold execOp
 simp only[List.map_toArray,List.map_cons,List.map_nil,hx]
 kernel_rfl
theorem row_alloc (ρ:Operand->Value) (dst:Option Tmp) (ty:TypeId) (pos:String) (after:Array Edge) (w:World) :
  (execOp ρ ⟨dst,.alloc 204,ty,pos,after,none⟩).run Tryz.prog w=.ok (.value (.pointer (some ⟨w.heap.size,0,none⟩))) (w.alloc (.cells (rowA 0) 204)):=by
 kernel_rfl
theorem row_size:(Tryz.prog.info? 204).map (·.size)=some 44:=by kernel_rfl
theorem row_store (a:Act) (dst:Option Tmp) (x y:Operand) (ty:TypeId) (pos:String) (after:Array Edge) (place:Int) (w:World) (hx:a.eval x=.pointer (some ⟨w.heap.size,0,none⟩)) (hy:a.eval y=.agg (rowA place)) :
  (execOp a.eval ⟨dst,.store 204 x y,ty,pos,after,none⟩).run Tryz.prog (w.alloc (.cells (rowA 0) 204))=.ok .skip (w.alloc (.cells (rowA place) 204)):=by
 show Sem.run Tryz.prog (do Instr.storeAt 204 (a.eval x) (a.eval y);pure Next.skip) _=_
 rw[hx,hy]
 simp only[Sem.run_bind]
 rw[run_storeAt_new w 204 (rowA 0) (rowA place) (by rw[row_size,rowA_size]) (by rw[rowA_size,rowA_size]) (rowA_one place)]
 rfl
end Go.Proofs.YtpheelbbpiieiaaGreatDoor
