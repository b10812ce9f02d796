/- Proved here: packet's mayQoS, mayCount, flag, flagsOf as plain functions. Helper contracts. -/
import Derived.Test.YtemedclhglkfjaaGreatDoorProg
import Derived.Test.YtemedclhglkfjaaGreatDoorM24
import Derived.Laws.BitsAllLaws
import Derived.Deep.RegionHeld3
set_option maxHeartbeats 20000000
namespace Go.Proofs.YtemedclhglkfjaaGreatDoor.K
open Go.RowKit
set_option maxRecDepth 100000
structure Sl where
 ao : Option Addr
 n : Nat
 cap : Nat
structure Pkv where
 kind : Int
 dup : Bool
 qos : Int
 retain : Bool
 topic : ByteArray
 id : Int
 payload : ByteArray
 props : Sl
 client : ByteArray
 clean : Bool
 keep : Int
 wills : Sl
 user : Sl
 pass : Sl
 code : Int
 session : Bool
 subs : Sl
 filters : Sl
 codes : Sl
abbrev Sl.val (s : Sl) : Value := .slice s.ao s.n s.cap
abbrev Pkv.val (p : Pkv) : Value := .agg #[.int .i64 p.kind,.bool p.dup,.int .i64 p.qos,.bool p.retain,.string p.topic,.int .i64 p.id,.string p.payload,p.props.val,.string p.client,.bool p.clean,.int .i64 p.keep,p.wills.val,p.user.val,p.pass.val,.int .i64 p.code,.bool p.session,p.subs.val,p.filters.val,p.codes.val]
def mq (n : Int) : Bool := decide (0 <= n) && decide (n <= 2)
theorem mayQoS_any (n : Int) (w : World) : Calls Tryz.prog 41 #[.int .i64 n] w fun e w' => e = .returned (.bool (mq n)) /\ w' = w := by
 by_cases h0 : 0 <= n
 ·by_cases h2 : n <= 2
  ·go_enter Tryz.func41,Tryz.ntmps41
   go_wp2
   go_ret
   exact ⟨by unfold mq; rw [decide_eq_true h0,decide_eq_true h2]; rfl,rfl⟩
  ·go_enter Tryz.func41,Tryz.ntmps41
   go_wp2
   go_ret
   exact ⟨by unfold mq; rw [decide_eq_true h0,decide_eq_false (by omega)]; rfl,rfl⟩
 ·go_enter Tryz.func41,Tryz.ntmps41
  go_wp2
  go_ret
  exact ⟨by unfold mq; rw [decide_eq_false (by omega)]; rfl,rfl⟩
def mc (n : Int) : Bool := decide (1 <= n) && decide (n <= 16)
theorem flag_any (b : Bool) (n : Int) (w : World) : Calls Tryz.prog 42 #[.bool b,.int .i64 n] w fun e w' => e = .returned (.int .i64 (if b then n else 0)) /\ w' = w := by
 cases b
 ·go_enter Tryz.func42,Tryz.ntmps42
  go_wp2
  go_ret
  exact ⟨rfl,rfl⟩
 ·go_enter Tryz.func42,Tryz.ntmps42
  go_wp2
  go_ret
  exact ⟨rfl,rfl⟩
theorem flagsOf_fixed (p : Pkv) (w : World) (h : p.kind = 6 \/ p.kind = 8 \/ p.kind = 10) : Calls Tryz.prog 22 #[p.val] w fun e w' => e = .returned (.tuple #[.int .i64 2,.bool true]) /\ Below w.heap.size w w' := by
 obtain ⟨kind,dup,qos,retain,topic,id,payload,⟨a1,n1,c1⟩,client,clean,keep,⟨a2,n2,c2⟩,⟨a3,n3,c3⟩,⟨a4,n4,c4⟩,code,session,⟨a5,n5,c5⟩,⟨a6,n6,c6⟩,⟨a7,n7,c7⟩⟩ := p
 simp only at h
 rcases h with rfl | rfl | rfl
 ·go_enter Tryz.func22,Tryz.ntmps22
  go_wp2
  go_returns
  exact ⟨rfl,by go_grown⟩
 ·go_enter Tryz.func22,Tryz.ntmps22
  go_wp2
  go_returns
  exact ⟨rfl,by go_grown⟩
 ·go_enter Tryz.func22,Tryz.ntmps22
  go_wp2
  go_returns
  exact ⟨rfl,by go_grown⟩
end Go.Proofs.YtemedclhglkfjaaGreatDoor.K
