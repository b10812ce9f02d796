/- Proved here: helpers, one text behind the other. -/
import Derived.Handy
import Derived.Test.YtpheelbbpiieiaaGreatDoorZC9
import Derived.Test.YtpheelbbpiieiaaGreatDoorZC12
set_option maxHeartbeats 20000000
namespace Go.Proofs.YtpheelbbpiieiaaGreatDoor
open Go.RowKit
set_option maxRecDepth 100000
theorem kind_use (id k:Int) (h:kd id=k) (w:World):Calls Tryz.prog 147 #[.int .i64 id] w fun e w'=>e=.returned (.int .i64 k)/\w'=w:=by
 subst h
 exact kind_any id w
def MayPost (b:Bool) (w:World) (e:Ending) (w':World):Prop:=e=.returned (.bool b)/\Below w.heap.size w w'
def numB (hi lo n:Int) (s t:ByteArray):Bool:=decide (lo<=n) && decide (n<=hi) && (emp s && emp t)
theorem numB_lo (hi lo n:Int) (s t:ByteArray) (h:n < lo):numB hi lo n s t=false:=by unfold numB;rw[decide_eq_false (by omega:¬ lo<=n)];rfl
theorem numB_hi (hi lo n:Int) (s t:ByteArray) (h:hi < n):numB hi lo n s t=false:=by unfold numB;rw[decide_eq_false (by omega:¬ n<=hi),Bool.and_false];rfl
theorem numB_s (hi lo n:Int) (s t:ByteArray) (h:s.toList.isEmpty=false):numB hi lo n s t=false:=by unfold numB emp;rw[h,Bool.false_and,Bool.and_false]
theorem numB_t (hi lo n:Int) (s t:ByteArray) (h0:lo<=n) (h1:n<=hi) (h:s.toList.isEmpty=true):numB hi lo n s t=t.toList.isEmpty:=by unfold numB emp;rw[h,decide_eq_true h0,decide_eq_true h1];rfl
theorem may_num (id n k:Int) (s t:ByteArray) (hk:kd id=k) (h:k=1\/k=2\/k=4\/k=5):may (id,n,s,t)=numB (mx id) (lst id) n s t:=by
 unfold may fit txo numB
 rcases h with rfl | rfl | rfl | rfl <;> simp[hk]
theorem lst_zero (id:Int) (h:kd id=6\/kd id=7\/kd id=8):lst id=0:=by
 unfold lst
 rw[if_neg]
 rintro (rfl | rfl | rfl | rfl) <;> revert h <;> decide
theorem may_1 (id n:Int) (s t:ByteArray) (w:World) (hk:kd id=1):Calls Tryz.prog 148 #[.agg #[.int .i64 id,.int .i64 n,.string s,.string t]] w (MayPost (numB 1 0 n s t) w):=by
 unfold MayPost
 have HK:=zh hk
 clear hk
 by_cases h1:n < 0
 ·skip
  have hm:Hid (numB 1 0 n s t=false):=numB_lo _ _ _ _ _ h1
  go_enter Tryz.func148,Tryz.ntmps148
  go_wp2_with (go_at_call 147;refine (kind_use _ 1 (uh HK) _).mono ?_;rintro e w' ⟨rfl,rfl⟩)
  go_ret
  exact⟨ret_bool (uh hm).symm,by go_grown⟩
 have h1':0<=n:=by omega
 clear h1
 by_cases h2:1 < n
 ·skip
  have hm:Hid (numB 1 0 n s t=false):=numB_hi _ _ _ _ _ h2
  go_enter Tryz.func148,Tryz.ntmps148
  go_wp2_with (go_at_call 147;refine (kind_use _ 1 (uh HK) _).mono ?_;rintro e w' ⟨rfl,rfl⟩)
  go_ret
  exact⟨ret_bool (uh hm).symm,by go_grown⟩
 have h2':n<=1:=by omega
 clear h2
 by_cases hs:s.toList.isEmpty=true
 ·skip
  have hm:Hid (numB 1 0 n s t=t.toList.isEmpty):=numB_t _ _ _ _ _ h1' h2' hs
  go_enter Tryz.func148,Tryz.ntmps148
  go_wp2_with (go_at_call 147;refine (kind_use _ 1 (uh HK) _).mono ?_;rintro e w' ⟨rfl,rfl⟩)
  go_ret
  exact⟨ret_bool (uh hm).symm,by go_grown⟩
 ·have hs':s.toList.isEmpty=false:=by simpa using hs
  clear hs
  have hm:Hid (numB 1 0 n s t=false):=numB_s _ _ _ _ _ hs'
  go_enter Tryz.func148,Tryz.ntmps148
  go_wp2_with (go_at_call 147;refine (kind_use _ 1 (uh HK) _).mono ?_;rintro e w' ⟨rfl,rfl⟩)
  go_ret
  exact⟨ret_bool (uh hm).symm,by go_grown⟩
theorem may_5 (id n:Int) (s t:ByteArray) (w:World) (hk:kd id=5):Calls Tryz.prog 148 #[.agg #[.int .i64 id,.int .i64 n,.string s,.string t]] w (MayPost (numB 268435455 1 n s t) w):=by
 unfold MayPost
 have HK:=zh hk
 clear hk
 by_cases h1:n < 1
 ·skip
  have hm:Hid (numB 268435455 1 n s t=false):=numB_lo _ _ _ _ _ h1
  go_enter Tryz.func148,Tryz.ntmps148
  go_wp2_with (go_at_call 147;refine (kind_use _ 5 (uh HK) _).mono ?_;rintro e w' ⟨rfl,rfl⟩)
  go_ret
  exact⟨ret_bool (uh hm).symm,by go_grown⟩
 have h1':1<=n:=by omega
 clear h1
 by_cases h2:268435455 < n
 ·skip
  have hm:Hid (numB 268435455 1 n s t=false):=numB_hi _ _ _ _ _ h2
  go_enter Tryz.func148,Tryz.ntmps148
  go_wp2_with (go_at_call 147;refine (kind_use _ 5 (uh HK) _).mono ?_;rintro e w' ⟨rfl,rfl⟩)
  go_ret
  exact⟨ret_bool (uh hm).symm,by go_grown⟩
 have h2':n<=268435455:=by omega
 clear h2
 by_cases hs:s.toList.isEmpty=true
 ·skip
  have hm:Hid (numB 268435455 1 n s t=t.toList.isEmpty):=numB_t _ _ _ _ _ h1' h2' hs
  go_enter Tryz.func148,Tryz.ntmps148
  go_wp2_with (go_at_call 147;refine (kind_use _ 5 (uh HK) _).mono ?_;rintro e w' ⟨rfl,rfl⟩)
  go_ret
  exact⟨ret_bool (uh hm).symm,by go_grown⟩
 ·have hs':s.toList.isEmpty=false:=by simpa using hs
  clear hs
  have hm:Hid (numB 268435455 1 n s t=false):=numB_s _ _ _ _ _ hs'
  go_enter Tryz.func148,Tryz.ntmps148
  go_wp2_with (go_at_call 147;refine (kind_use _ 5 (uh HK) _).mono ?_;rintro e w' ⟨rfl,rfl⟩)
  go_ret
  exact⟨ret_bool (uh hm).symm,by go_grown⟩
theorem may_33 (n:Int) (s t:ByteArray) (w:World) (hk:kd 33=2):Calls Tryz.prog 148 #[.agg #[.int .i64 33,.int .i64 n,.string s,.string t]] w (MayPost (numB 65535 1 n s t) w):=by
 unfold MayPost
 have HK:=zh hk
 clear hk
 by_cases h1:n < 1
 ·skip
  have hm:Hid (numB 65535 1 n s t=false):=numB_lo _ _ _ _ _ h1
  go_enter Tryz.func148,Tryz.ntmps148
  go_wp2_with (go_at_call 147;refine (kind_use _ 2 (uh HK) _).mono ?_;rintro e w' ⟨rfl,rfl⟩)
  go_ret
  exact⟨ret_bool (uh hm).symm,by go_grown⟩
 have h1':1<=n:=by omega
 clear h1
 by_cases h2:65535 < n
 ·skip
  have hm:Hid (numB 65535 1 n s t=false):=numB_hi _ _ _ _ _ h2
  go_enter Tryz.func148,Tryz.ntmps148
  go_wp2_with (go_at_call 147;refine (kind_use _ 2 (uh HK) _).mono ?_;rintro e w' ⟨rfl,rfl⟩)
  go_ret
  exact⟨ret_bool (uh hm).symm,by go_grown⟩
 have h2':n<=65535:=by omega
 clear h2
 by_cases hs:s.toList.isEmpty=true
 ·skip
  have hm:Hid (numB 65535 1 n s t=t.toList.isEmpty):=numB_t _ _ _ _ _ h1' h2' hs
  go_enter Tryz.func148,Tryz.ntmps148
  go_wp2_with (go_at_call 147;refine (kind_use _ 2 (uh HK) _).mono ?_;rintro e w' ⟨rfl,rfl⟩)
  go_ret
  exact⟨ret_bool (uh hm).symm,by go_grown⟩
 ·have hs':s.toList.isEmpty=false:=by simpa using hs
  clear hs
  have hm:Hid (numB 65535 1 n s t=false):=numB_s _ _ _ _ _ hs'
  go_enter Tryz.func148,Tryz.ntmps148
  go_wp2_with (go_at_call 147;refine (kind_use _ 2 (uh HK) _).mono ?_;rintro e w' ⟨rfl,rfl⟩)
  go_ret
  exact⟨ret_bool (uh hm).symm,by go_grown⟩
theorem may_35 (n:Int) (s t:ByteArray) (w:World) (hk:kd 35=2):Calls Tryz.prog 148 #[.agg #[.int .i64 35,.int .i64 n,.string s,.string t]] w (MayPost (numB 65535 1 n s t) w):=by
 unfold MayPost
 have HK:=zh hk
 clear hk
 by_cases h1:n < 1
 ·skip
  have hm:Hid (numB 65535 1 n s t=false):=numB_lo _ _ _ _ _ h1
  go_enter Tryz.func148,Tryz.ntmps148
  go_wp2_with (go_at_call 147;refine (kind_use _ 2 (uh HK) _).mono ?_;rintro e w' ⟨rfl,rfl⟩)
  go_ret
  exact⟨ret_bool (uh hm).symm,by go_grown⟩
 have h1':1<=n:=by omega
 clear h1
 by_cases h2:65535 < n
 ·skip
  have hm:Hid (numB 65535 1 n s t=false):=numB_hi _ _ _ _ _ h2
  go_enter Tryz.func148,Tryz.ntmps148
  go_wp2_with (go_at_call 147;refine (kind_use _ 2 (uh HK) _).mono ?_;rintro e w' ⟨rfl,rfl⟩)
  go_ret
  exact⟨ret_bool (uh hm).symm,by go_grown⟩
 have h2':n<=65535:=by omega
 clear h2
 by_cases hs:s.toList.isEmpty=true
 ·skip
  have hm:Hid (numB 65535 1 n s t=t.toList.isEmpty):=numB_t _ _ _ _ _ h1' h2' hs
  go_enter Tryz.func148,Tryz.ntmps148
  go_wp2_with (go_at_call 147;refine (kind_use _ 2 (uh HK) _).mono ?_;rintro e w' ⟨rfl,rfl⟩)
  go_ret
  exact⟨ret_bool (uh hm).symm,by go_grown⟩
 ·have hs':s.toList.isEmpty=false:=by simpa using hs
  clear hs
  have hm:Hid (numB 65535 1 n s t=false):=numB_s _ _ _ _ _ hs'
  go_enter Tryz.func148,Tryz.ntmps148
  go_wp2_with (go_at_call 147;refine (kind_use _ 2 (uh HK) _).mono ?_;rintro e w' ⟨rfl,rfl⟩)
  go_ret
  exact⟨ret_bool (uh hm).symm,by go_grown⟩
theorem may_2 (id n:Int) (s t:ByteArray) (w:World) (hk:kd id=2) (n33:id≠33) (n35:id≠35):Calls Tryz.prog 148 #[.agg #[.int .i64 id,.int .i64 n,.string s,.string t]] w (MayPost (numB 65535 0 n s t) w):=by
 unfold MayPost
 have HK:=zh hk
 clear hk
 have b33:(id == 33)=false:=beq_eq_false_iff_ne.2 n33
 have b35:(id == 35)=false:=beq_eq_false_iff_ne.2 n35
 clear n33 n35
 by_cases h1:n < 0
 ·skip
  have hm:Hid (numB 65535 0 n s t=false):=numB_lo _ _ _ _ _ h1
  go_enter Tryz.func148,Tryz.ntmps148
  go_wp2_with (go_at_call 147;refine (kind_use _ 2 (uh HK) _).mono ?_;rintro e w' ⟨rfl,rfl⟩)
  go_ret
  exact⟨ret_bool (uh hm).symm,by go_grown⟩
 have h1':0<=n:=by omega
 clear h1
 by_cases h2:65535 < n
 ·skip
  have hm:Hid (numB 65535 0 n s t=false):=numB_hi _ _ _ _ _ h2
  go_enter Tryz.func148,Tryz.ntmps148
  go_wp2_with (go_at_call 147;refine (kind_use _ 2 (uh HK) _).mono ?_;rintro e w' ⟨rfl,rfl⟩)
  go_ret
  exact⟨ret_bool (uh hm).symm,by go_grown⟩
 have h2':n<=65535:=by omega
 clear h2
 by_cases hs:s.toList.isEmpty=true
 ·skip
  have hm:Hid (numB 65535 0 n s t=t.toList.isEmpty):=numB_t _ _ _ _ _ h1' h2' hs
  go_enter Tryz.func148,Tryz.ntmps148
  go_wp2_with (go_at_call 147;refine (kind_use _ 2 (uh HK) _).mono ?_;rintro e w' ⟨rfl,rfl⟩)
  go_ret
  exact⟨ret_bool (uh hm).symm,by go_grown⟩
 ·have hs':s.toList.isEmpty=false:=by simpa using hs
  clear hs
  have hm:Hid (numB 65535 0 n s t=false):=numB_s _ _ _ _ _ hs'
  go_enter Tryz.func148,Tryz.ntmps148
  go_wp2_with (go_at_call 147;refine (kind_use _ 2 (uh HK) _).mono ?_;rintro e w' ⟨rfl,rfl⟩)
  go_ret
  exact⟨ret_bool (uh hm).symm,by go_grown⟩
theorem may_39 (n:Int) (s t:ByteArray) (w:World) (hk:kd 39=4):Calls Tryz.prog 148 #[.agg #[.int .i64 39,.int .i64 n,.string s,.string t]] w (MayPost (numB 4294967295 1 n s t) w):=by
 unfold MayPost
 have HK:=zh hk
 clear hk
 by_cases h1:n < 1
 ·skip
  have hm:Hid (numB 4294967295 1 n s t=false):=numB_lo _ _ _ _ _ h1
  go_enter Tryz.func148,Tryz.ntmps148
  go_wp2_with (go_at_call 147;refine (kind_use _ 4 (uh HK) _).mono ?_;rintro e w' ⟨rfl,rfl⟩)
  go_ret
  exact⟨ret_bool (uh hm).symm,by go_grown⟩
 have h1':1<=n:=by omega
 clear h1
 by_cases h2:4294967295 < n
 ·skip
  have hm:Hid (numB 4294967295 1 n s t=false):=numB_hi _ _ _ _ _ h2
  go_enter Tryz.func148,Tryz.ntmps148
  go_wp2_with (go_at_call 147;refine (kind_use _ 4 (uh HK) _).mono ?_;rintro e w' ⟨rfl,rfl⟩)
  go_ret
  exact⟨ret_bool (uh hm).symm,by go_grown⟩
 have h2':n<=4294967295:=by omega
 clear h2
 by_cases hs:s.toList.isEmpty=true
 ·skip
  have hm:Hid (numB 4294967295 1 n s t=t.toList.isEmpty):=numB_t _ _ _ _ _ h1' h2' hs
  go_enter Tryz.func148,Tryz.ntmps148
  go_wp2_with (go_at_call 147;refine (kind_use _ 4 (uh HK) _).mono ?_;rintro e w' ⟨rfl,rfl⟩)
  go_ret
  exact⟨ret_bool (uh hm).symm,by go_grown⟩
 ·have hs':s.toList.isEmpty=false:=by simpa using hs
  clear hs
  have hm:Hid (numB 4294967295 1 n s t=false):=numB_s _ _ _ _ _ hs'
  go_enter Tryz.func148,Tryz.ntmps148
  go_wp2_with (go_at_call 147;refine (kind_use _ 4 (uh HK) _).mono ?_;rintro e w' ⟨rfl,rfl⟩)
  go_ret
  exact⟨ret_bool (uh hm).symm,by go_grown⟩
theorem may_4 (id n:Int) (s t:ByteArray) (w:World) (hk:kd id=4) (n39:id≠39):Calls Tryz.prog 148 #[.agg #[.int .i64 id,.int .i64 n,.string s,.string t]] w (MayPost (numB 4294967295 0 n s t) w):=by
 unfold MayPost
 have HK:=zh hk
 clear hk
 have b39:(id == 39)=false:=beq_eq_false_iff_ne.2 n39
 clear n39
 by_cases h1:n < 0
 ·skip
  have hm:Hid (numB 4294967295 0 n s t=false):=numB_lo _ _ _ _ _ h1
  go_enter Tryz.func148,Tryz.ntmps148
  go_wp2_with (go_at_call 147;refine (kind_use _ 4 (uh HK) _).mono ?_;rintro e w' ⟨rfl,rfl⟩)
  go_ret
  exact⟨ret_bool (uh hm).symm,by go_grown⟩
 have h1':0<=n:=by omega
 clear h1
 by_cases h2:4294967295 < n
 ·skip
  have hm:Hid (numB 4294967295 0 n s t=false):=numB_hi _ _ _ _ _ h2
  go_enter Tryz.func148,Tryz.ntmps148
  go_wp2_with (go_at_call 147;refine (kind_use _ 4 (uh HK) _).mono ?_;rintro e w' ⟨rfl,rfl⟩)
  go_ret
  exact⟨ret_bool (uh hm).symm,by go_grown⟩
 have h2':n<=4294967295:=by omega
 clear h2
 by_cases hs:s.toList.isEmpty=true
 ·skip
  have hm:Hid (numB 4294967295 0 n s t=t.toList.isEmpty):=numB_t _ _ _ _ _ h1' h2' hs
  go_enter Tryz.func148,Tryz.ntmps148
  go_wp2_with (go_at_call 147;refine (kind_use _ 4 (uh HK) _).mono ?_;rintro e w' ⟨rfl,rfl⟩)
  go_ret
  exact⟨ret_bool (uh hm).symm,by go_grown⟩
 ·have hs':s.toList.isEmpty=false:=by simpa using hs
  clear hs
  have hm:Hid (numB 4294967295 0 n s t=false):=numB_s _ _ _ _ _ hs'
  go_enter Tryz.func148,Tryz.ntmps148
  go_wp2_with (go_at_call 147;refine (kind_use _ 4 (uh HK) _).mono ?_;rintro e w' ⟨rfl,rfl⟩)
  go_ret
  exact⟨ret_bool (uh hm).symm,by go_grown⟩
theorem may_text (id n:Int) (s t:ByteArray) (hk:kd id=6):may (id,n,s,t)=(decide (n=0) && (emp t && decide (chk (sb s)=0))):=by
 have hl:=lst_zero id (.inl hk)
 have hx:mx id=0:=by unfold mx;simp[hk]
 have hn:(decide (0<=n) && decide (n<=0))=decide (n=0):=by rw[<- Bool.decide_and,decide_eq_decide];constructor <;> intro h <;> omega
 unfold may fit txo
 simp only[hl,hx,hk,hn]
 cases decide (n=0) <;> cases emp t <;> simp
theorem may_bin (id n:Int) (s t:ByteArray) (hk:kd id=7):may (id,n,s,t)=(decide (n=0) && (emp t && decide (s.size<=65535))):=by
 have hl:=lst_zero id (.inr (.inl hk))
 have hx:mx id=0:=by unfold mx;simp[hk]
 have hn:(decide (0<=n) && decide (n<=0))=decide (n=0):=by rw[<- Bool.decide_and,decide_eq_decide];constructor <;> intro h <;> omega
 unfold may fit txo
 simp only[hl,hx,hk,hn]
 cases decide (n=0) <;> cases emp t <;> simp
theorem may_pair (id n:Int) (s t:ByteArray) (hk:kd id=8):may (id,n,s,t)=(decide (n=0) && (decide (chk (sb s)=0) && decide (chk (sb t)=0))):=by
 have hl:=lst_zero id (.inr (.inr hk))
 have hx:mx id=0:=by unfold mx;simp[hk]
 have hn:(decide (0<=n) && decide (n<=0))=decide (n=0):=by rw[<- Bool.decide_and,decide_eq_decide];constructor <;> intro h <;> omega
 unfold may fit txo
 simp only[hl,hx,hk,hn]
 cases decide (n=0) <;> simp
theorem rcheck_use (s:ByteArray) (c:Int) (h:chk (sb s)=c) (w:World) (hs:s.size<=4611686018427387904):Calls Tryz.prog 163 #[.string s] w fun e w'=>e=.returned (.int .i64 c)/\Below w.heap.size w w':=by
 subst h
 exact rcheck_any s w hs
theorem mayw_6_n (id n:Int) (s t:ByteArray) (w:World) (hk:kd id=6) (h0:n≠0):Calls Tryz.prog 148 #[.agg #[.int .i64 id,.int .i64 n,.string s,.string t]] w (MayPost (may (id,n,s,t)) w):=by
 unfold MayPost
 have HK:=zh hk
 have hm:Hid (may (id,n,s,t)=false):=by show may _=false;rw[may_text id n s t hk];simp[h0]
 clear hk
 have b0:(n == 0)=false:=beq_eq_false_iff_ne.2 h0
 go_enter Tryz.func148,Tryz.ntmps148
 go_wp2_with (go_at_call 147;refine (kind_use _ 6 (uh HK) _).mono ?_;rintro e w' ⟨rfl,rfl⟩)
 go_ret
 exact⟨ret_bool (uh hm).symm,by go_grown⟩
theorem mayw_7_n (id n:Int) (s t:ByteArray) (w:World) (hk:kd id=7) (h0:n≠0):Calls Tryz.prog 148 #[.agg #[.int .i64 id,.int .i64 n,.string s,.string t]] w (MayPost (may (id,n,s,t)) w):=by
 unfold MayPost
 have HK:=zh hk
 have hm:Hid (may (id,n,s,t)=false):=by show may _=false;rw[may_bin id n s t hk];simp[h0]
 clear hk
 have b0:(n == 0)=false:=beq_eq_false_iff_ne.2 h0
 go_enter Tryz.func148,Tryz.ntmps148
 go_wp2_with (go_at_call 147;refine (kind_use _ 7 (uh HK) _).mono ?_;rintro e w' ⟨rfl,rfl⟩)
 go_ret
 exact⟨ret_bool (uh hm).symm,by go_grown⟩
theorem mayw_8_n (id n:Int) (s t:ByteArray) (w:World) (hk:kd id=8) (h0:n≠0):Calls Tryz.prog 148 #[.agg #[.int .i64 id,.int .i64 n,.string s,.string t]] w (MayPost (may (id,n,s,t)) w):=by
 unfold MayPost
 have HK:=zh hk
 have hm:Hid (may (id,n,s,t)=false):=by show may _=false;rw[may_pair id n s t hk];simp[h0]
 clear hk
 have b0:(n == 0)=false:=beq_eq_false_iff_ne.2 h0
 go_enter Tryz.func148,Tryz.ntmps148
 go_wp2_with (go_at_call 147;refine (kind_use _ 8 (uh HK) _).mono ?_;rintro e w' ⟨rfl,rfl⟩)
 go_ret
 exact⟨ret_bool (uh hm).symm,by go_grown⟩
theorem mayw_6_t (id n:Int) (s t:ByteArray) (w:World) (hk:kd id=6) (h0:n=0) (ht:t.toList.isEmpty=false):Calls Tryz.prog 148 #[.agg #[.int .i64 id,.int .i64 n,.string s,.string t]] w (MayPost (may (id,n,s,t)) w):=by
 unfold MayPost
 have HK:=zh hk
 have hm:Hid (may (id,n,s,t)=false):=by show may _=false;rw[may_text id n s t hk];unfold emp;rw[ht,Bool.false_and,Bool.and_false]
 clear hk
 subst h0
 go_enter Tryz.func148,Tryz.ntmps148
 go_wp2_with (go_at_call 147;refine (kind_use _ 6 (uh HK) _).mono ?_;rintro e w' ⟨rfl,rfl⟩)
 go_ret
 exact⟨ret_bool (uh hm).symm,by go_grown⟩
theorem mayw_7_t (id n:Int) (s t:ByteArray) (w:World) (hk:kd id=7) (h0:n=0) (ht:t.toList.isEmpty=false):Calls Tryz.prog 148 #[.agg #[.int .i64 id,.int .i64 n,.string s,.string t]] w (MayPost (may (id,n,s,t)) w):=by
 unfold MayPost
 have HK:=zh hk
 have hm:Hid (may (id,n,s,t)=false):=by show may _=false;rw[may_bin id n s t hk];unfold emp;rw[ht,Bool.false_and,Bool.and_false]
 clear hk
 subst h0
 go_enter Tryz.func148,Tryz.ntmps148
 go_wp2_with (go_at_call 147;refine (kind_use _ 7 (uh HK) _).mono ?_;rintro e w' ⟨rfl,rfl⟩)
 go_ret
 exact⟨ret_bool (uh hm).symm,by go_grown⟩
theorem mayw_7 (id n:Int) (s t:ByteArray) (w:World) (hk:kd id=7) (h0:n=0) (ht:t.toList.isEmpty=true):Calls Tryz.prog 148 #[.agg #[.int .i64 id,.int .i64 n,.string s,.string t]] w (MayPost (may (id,n,s,t)) w):=by
 unfold MayPost
 have HK:=zh hk
 have hm:Hid (may (id,n,s,t)=decide (s.size<=65535)):=by show may _=_;rw[may_bin id n s t hk];unfold emp;rw[ht,h0];rfl
 clear hk
 subst h0
 have hc:((s.size:Int)<=65535)=(s.size<=65535):=by rw[eq_iff_iff];omega
 by_cases h6:s.size<=65535
 ·have hm2:Hid (may (id,0,s,t)=true):=(uh hm).trans (decide_eq_true h6)
  go_enter Tryz.func148,Tryz.ntmps148
  go_wp2_with (go_at_call 147;refine (kind_use _ 7 (uh HK) _).mono ?_;rintro e w' ⟨rfl,rfl⟩)
  go_ret
  exact⟨ret_bool (uh hm2).symm,by go_grown⟩
 ·have hm2:Hid (may (id,0,s,t)=false):=(uh hm).trans (decide_eq_false h6)
  go_enter Tryz.func148,Tryz.ntmps148
  go_wp2_with (go_at_call 147;refine (kind_use _ 7 (uh HK) _).mono ?_;rintro e w' ⟨rfl,rfl⟩)
  go_ret
  exact⟨ret_bool (uh hm2).symm,by go_grown⟩
theorem mayw_6 (id n:Int) (s t:ByteArray) (w:World) (hk:kd id=6) (hs:s.size<=4611686018427387904) (h0:n=0) (ht:t.toList.isEmpty=true):Calls Tryz.prog 148 #[.agg #[.int .i64 id,.int .i64 n,.string s,.string t]] w (MayPost (may (id,n,s,t)) w):=by
 unfold MayPost
 have HK:=zh hk
 have hm:Hid (may (id,n,s,t)=decide (chk (sb s)=0)):=by show may _=_;rw[may_text id n s t hk];unfold emp;rw[ht,h0];rfl
 have HC:=zh (fun W=>rcheck_use s _ rfl W hs)
 clear hk
 subst h0
 generalize chk (sb s)=c at hm HC
 go_enter Tryz.func148,Tryz.ntmps148
 go_wp2_with fail
 refine (kind_use _ 6 (uh HK) _).mono ?_
 rintro e w' ⟨rfl,hw⟩
 obtain rfl:=hw.symm
 clear hw
 go_wp2_with fail
 refine ((uh HC) _).mono ?_
 rintro e w2 ⟨rfl,hb2⟩
 go_wp2
 go_ret
 refine⟨ret_bool ?_,(bal _ _).trans (hb2.mono (by simp))⟩
 rw[uh hm]
 rfl
theorem mayw_8s (id n:Int) (s t:ByteArray) (w:World) (hk:kd id=8) (hs:s.size<=4611686018427387904) (h0:n=0) (hc:chk (sb s)≠0):Calls Tryz.prog 148 #[.agg #[.int .i64 id,.int .i64 n,.string s,.string t]] w (MayPost (may (id,n,s,t)) w):=by
 unfold MayPost
 have HK:=zh hk
 have hm:Hid (may (id,n,s,t)=false):=by show may _=_;rw[may_pair id n s t hk];simp[hc]
 have HC:=zh (fun W=>rcheck_use s _ rfl W hs)
 clear hk
 subst h0
 generalize chk (sb s)=c at hc HC
 have bc:(c == 0)=false:=beq_eq_false_iff_ne.2 hc
 clear hc
 go_enter Tryz.func148,Tryz.ntmps148
 go_wp2_with fail
 refine (kind_use _ 8 (uh HK) _).mono ?_
 rintro e w' ⟨rfl,hw⟩
 obtain rfl:=hw.symm
 clear hw
 go_wp2_with fail
 refine ((uh HC) _).mono ?_
 rintro e w2 ⟨rfl,hb2⟩
 go_wp2
 go_ret
 exact⟨ret_bool (uh hm).symm,(bal _ _).trans (hb2.mono (by simp))⟩
theorem mayw_8 (id n:Int) (s t:ByteArray) (w:World) (hk:kd id=8) (hs:s.size<=4611686018427387904) (ht:t.size<=4611686018427387904) (h0:n=0) (hc:chk (sb s)=0):Calls Tryz.prog 148 #[.agg #[.int .i64 id,.int .i64 n,.string s,.string t]] w (MayPost (may (id,n,s,t)) w):=by
 unfold MayPost
 have HK:=zh hk
 have hm:Hid (may (id,n,s,t)=decide (chk (sb t)=0)):=by show may _=_;rw[may_pair id n s t hk,hc,h0];rfl
 have HC:=zh (fun W=>rcheck_use s 0 hc W hs)
 have HT:=zh (fun W=>rcheck_use t _ rfl W ht)
 clear hk hc
 subst h0
 generalize chk (sb t)=d at hm HT
 go_enter Tryz.func148,Tryz.ntmps148
 go_wp2_with fail
 refine (kind_use _ 8 (uh HK) _).mono ?_
 rintro e w' ⟨rfl,hw⟩
 obtain rfl:=hw.symm
 clear hw
 go_wp2_with fail
 refine ((uh HC) _).mono ?_
 rintro e w2 ⟨rfl,hb2⟩
 have HB2:Hid (Below w.heap.size w w2):=(bal _ _).trans (hb2.mono (by simp))
 have c3:w2.cell? ⟨w.heap.size,3,none⟩=some (.string t):=(hb2.cell (p:=⟨w.heap.size,3,none⟩) (by simp)).trans (by simp)
 clear hb2
 go_wp2_with fail
 refine ((uh HT) _).mono ?_
 rintro e w3 ⟨rfl,hb3⟩
 go_wp2
 go_ret
 refine⟨ret_bool ?_,(uh HB2).trans (hb3.mono (uh HB2).size)⟩
 rw[uh hm]
 rfl
theorem mayw_0 (id n:Int) (s t:ByteArray) (w:World) (hk:kd id=0)  : Calls Tryz.prog 148 #[.agg #[.int .i64 id,.int .i64 n,.string s,.string t]] w (MayPost (may (id,n,s,t)) w):=by
 unfold MayPost
 have HK:=zh hk
 have hm:Hid (may (id,n,s,t)=false):=not_may_none id n s t hk
 clear hk
 go_enter Tryz.func148,Tryz.ntmps148
 go_wp2_with (go_at_call 147;refine (kind_use _ 0 (uh HK) _).mono ?_;rintro e w' ⟨rfl,rfl⟩)
 go_ret
 exact⟨ret_bool (uh hm).symm,by go_grown⟩
theorem may_any (id n:Int) (s t:ByteArray) (w:World) (hs:s.size<=4611686018427387904) (ht:t.size<=4611686018427387904):Calls Tryz.prog 148 #[.agg #[.int .i64 id,.int .i64 n,.string s,.string t]] w (MayPost (may (id,n,s,t)) w):=by
 have hx:mx id=(if kd id=1 then 1 else if kd id=2 then 65535 else if kd id=4 then 4294967295 else if kd id=5 then 268435455 else 0):=rfl
 rcases kd_cases id with h | h | h | h | h | h | h | h
 ·exact mayw_0 id n s t w h
 ·rw[may_num id n 1 s t h (by omega),hx,if_pos h,show lst id=0 from by
   unfold lst;rw[if_neg];rintro (rfl | rfl | rfl | rfl) <;> revert h <;> decide]
  exact may_1 id n s t w h
 ·rw[may_num id n 2 s t h (by omega),hx,if_neg (by omega),if_pos h]
  by_cases e33:id=33
  ·subst e33;exact may_33 n s t w h
  by_cases e35:id=35
  ·subst e35;exact may_35 n s t w h
  rw[show lst id=0 from by
   unfold lst;rw[if_neg];rintro (rfl | rfl | rfl | rfl) <;> first | exact e33 rfl | exact e35 rfl | (revert h;decide)]
  exact may_2 id n s t w h e33 e35
 ·rw[may_num id n 4 s t h (by omega),hx,if_neg (by omega),if_neg (by omega),if_pos h]
  by_cases e39:id=39
  ·subst e39;exact may_39 n s t w h
  rw[show lst id=0 from by
   unfold lst;rw[if_neg];rintro (rfl | rfl | rfl | rfl) <;> first | exact e39 rfl | (revert h;decide)]
  exact may_4 id n s t w h e39
 ·rw[may_num id n 5 s t h (by omega),hx,if_neg (by omega),if_neg (by omega),if_neg (by omega),if_pos h]
  have e11:id=11:=by
   revert h;unfold kd
   repeat' split
   all_goals (intro h;first | omega | assumption)
  subst e11
  exact may_5 11 n s t w h
 ·by_cases h0:n=0
  ·by_cases hte:t.toList.isEmpty=true
   ·exact mayw_6 id n s t w h hs h0 hte
   ·exact mayw_6_t id n s t w h h0 (by simpa using hte)
  ·exact mayw_6_n id n s t w h h0
 ·by_cases h0:n=0
  ·by_cases hte:t.toList.isEmpty=true
   ·exact mayw_7 id n s t w h h0 hte
   ·exact mayw_7_t id n s t w h h0 (by simpa using hte)
  ·exact mayw_7_n id n s t w h h0
 ·by_cases h0:n=0
  ·by_cases hc:chk (sb s)=0
   ·exact mayw_8 id n s t w h hs ht h0 hc
   ·exact mayw_8s id n s t w h hs h0 hc
  ·exact mayw_8_n id n s t w h h0
end Go.Proofs.YtpheelbbpiieiaaGreatDoor
