/- Proved here: helpers, one text behind the other. -/
import Derived.Deep.RegionHeld
import Derived.Test.YtpheelbbpiieiaaGreatDoorZC1
import Derived.Laws.AppendOwnNone
import Derived.Deep.RegionHeld3
import Derived.Deep.AppendLies
import Derived.Test.YtpheelbbpiieiaaGreatDoorZC3
set_option maxHeartbeats 20000000
namespace Go.Proofs.YtpheelbbpiieiaaGreatDoor
open Go.RowKit
theorem rtk {P:Program} {ops:Array Oper} {Q:Exit->Act->World->Prop} {md:Region.Mode} {S:World->Prop} (i:Nat) {oi:Oper} {v:Value} {fuel:Nat} {listed:Array Bool} {a a':Act} {w:World}
  (hi:ops[i]?=some oi:=by (simp only[List.getElem?_toArray,List.getElem?_cons_succ,List.getElem?_cons_zero];rfl))
  (hs:Region.noSelect ops=true:=by kernel_rfl) (hf:Region.free md ops listed i=true:=by kernel_rfl) (hr:(Region.ready md ops listed).contains i=true:=by kernel_rfl)
  (hy:YieldsIf P ops S oi v a:=by (refine Or.inl ⟨by rfl,?_⟩;intro w hSw;(try dsimp only at hSw);go_simp;(try rw[if_pos (by omega)]);(try with_reducible rfl)))
  (hQ:∀ c a w,Q (.panic c) (a.put oi.dst v) w->Q (.panic c) a w:=by exact fun _ _ _ h=>h) (hS:S w:=by assumption)
  (hp:a.put oi.dst v=a':=by (simp only[Act.put,List.setIfInBounds_toArray,List.set_cons_zero,List.set_cons_succ];rfl))
  (h:wpAnyH P md ops Q S fuel (listed.setIfInBounds i true) a' w):wpAnyH P md ops Q S (fuel+1) listed a w :=
 wpAnyH_take hi hs hf hr hQ hy hS (by rw[hp];exact h)
theorem rsk {P:Program} {ops:Array Oper} {Q:Exit->Act->World->Prop} {md:Region.Mode} {S:World->Prop} (i:Nat) {oi:Oper} {fuel:Nat} {listed:Array Bool} {a a':Act} {w:World}
  (hi:ops[i]?=some oi:=by (simp only[List.getElem?_toArray,List.getElem?_cons_succ,List.getElem?_cons_zero];rfl))
  (hs:Region.noSelect ops=true:=by kernel_rfl) (hf:Region.free md ops listed i=true:=by kernel_rfl) (hr:(Region.ready md ops listed).contains i=true:=by kernel_rfl)
  (hy:YieldsIf P ops S oi undef a:=by exact Or.inr ⟨by rfl,rfl⟩)
  (hQ:∀ c a w,Q (.panic c) (a.put oi.dst undef) w->Q (.panic c) a w:=by exact fun _ _ _ h=>h) (hS:S w:=by assumption)
  (hp:a.put oi.dst undef=a':=by (simp only[Act.put,List.setIfInBounds_toArray,List.set_cons_zero,List.set_cons_succ];rfl))
  (h:wpAnyH P md ops Q S fuel (listed.setIfInBounds i true) a' w):wpAnyH P md ops Q S (fuel+1) listed a w :=
 wpAnyH_take hi hs hf hr hQ hy hS (by rw[hp];exact h)
theorem rcl {P:Program} {ops:Array Oper} {Q:Exit->Act->World->Prop} {md:Region.Mode} {S:World->Prop} (i:Nat) {o:Oper} {fuel:Nat} {listed:Array Bool} {a:Act} {w:World}
  (hr:Region.ready md ops listed=[i]:=by kernel_rfl) (ho:ops[i]?=some o:=by (simp only[List.getElem?_toArray,List.getElem?_cons_succ,List.getElem?_cons_zero];rfl))
  (h:∀ K':Act->World->Prop,Shut (∀ a w,S w->(S w->wpAnyH P md ops Q S fuel (listed.setIfInBounds i true) a w)->K' a w)->if Region.wanted o (yielded ops a.tmps)=true then Oper.wp P o a w K' Q else K' (a.put o.dst undef) w) :
  wpAnyH P md ops Q S (fuel+1) listed a w:=wpAnyH_ready (rs:=[i]) hr (by simp) (AllReadyH.cons ho h AllReadyH.nil)
theorem rac {P:Program} {ops:Array Oper} {Q:Exit->Act->World->Prop} {md:Region.Mode} {S:World->Prop} {fuel:Nat} {listed:Array Bool} {a:Act} {w:World} {i:Nat} {o:Oper} {rs:List Nat}
  (ho:ops[i]?=some o:=by (simp only[List.getElem?_toArray,List.getElem?_cons_succ,List.getElem?_cons_zero];rfl))
  (h:∀ K':Act->World->Prop,Shut (∀ a w,S w->(S w->wpAnyH P md ops Q S fuel (listed.setIfInBounds i true) a w)->K' a w)->if Region.wanted o (yielded ops a.tmps)=true then Oper.wp P o a w K' Q else K' (a.put o.dst undef) w)
  (hs:AllReadyH P md ops Q S fuel listed a w rs):AllReadyH P md ops Q S fuel listed a w (i :: rs):=AllReadyH.cons ho h hs
theorem take_snoc_getD (xs:List Int) (k:Nat) (h:k < xs.length):xs.take k++[xs.getD k 0]=xs.take (k+1):=by
 rw[List.take_succ_eq_append_getElem h,List.getD_eq_getElem?_getD,List.getElem?_eq_getElem h];rfl
theorem copy_core (b off n cap:Nat) (xs:List Int) (w:World) (hn:xs.length=n) (hb:n<=140737488355328)
  (hc:∀ j,j < n->w.cell? ⟨b,off+j,none⟩=some (.int .u8 (xs.getD j 0))) :
  Calls Tryz.prog 6 #[.slice (some ⟨b,off,none⟩) n cap] w fun e w'=>∃ v,e=.returned v/\w'.ownsRow w.heap.size 5 1 v n (xs.map (Value.int .u8))/\Below w.heap.size w w':=by
 obtain⟨i0,hi,hz0,hz1,hz2⟩:=info_parts Tryz.infoU8
 have HC:=zh hc
 have HN:=zh hn
 clear hc hn
 go_enter Tryz.func6,Tryz.ntmps6
 go_wp2
 go_loopw [3,4] (fun m i wr=>∃ k:Nat,k<=n/\i=.int .i64 k/\wr.ownsRow w.heap.size 5 1 m k ((xs.take k).map (Value.int .u8))/\Below w.heap.size w wr) (fun _ i _=>n - (intOf i).toNat)
 case atStart=>exact⟨0,Nat.zero_le _,rfl,World.ownsRow_nil _ _ _ _,Below.refl _ _⟩
 case round =>
  obtain⟨k,hk,rfl,hown,hbel⟩:=hrel
  by_cases hlt:k < n
  ·have hc0:=(uh HC) k hlt
   have hc1:=(hbel.cell (p:=⟨b,off+k,none⟩) (cell_lt hc0)).trans hc0
   clear hc0
   have ht:=zh (take_snoc_getD xs k (by have:=uh HN;omega))
   generalize xs.getD k 0=x at hc1 ht
   go_wp2_with (first
    | (at_builtin;refine wpList_append_own _ rfl _ _ 30 rfl w.heap.size 5 i0 (.int .u8 0) 1 1 Tryz.underlying30 hi hz0 hz1 hz2 rfl (by decide) _ _ _ rfl (hown.alloc _) ⟨wr.heap.size,0,none⟩ 1 1 [.int .u8 x] rfl rfl (one_cell _ _ _) (one_one _ _) (by unfold maxLen;omega) (by omega) (by have:=hbel.size;simp;omega) ?_)
    | go_in)
   intro v' w1 hown' hgrow _
   have hb1:Below w.heap.size w w1:=(hbel.alloc hbel.size _).grown hgrow (by have:=hbel.size;simp;omega) (fun k hk=>(hown.lt k hk).1)
   clear hgrow hown hbel
   go_wp2
   go_roundw
   case rel=>exact⟨k+1,by omega,by go_num,by rw[<- uh ht,List.map_append,List.map_take];exact hown',hb1⟩
   case measure=>simp[intOf];omega
  ·go_wp2
   go_ret
   have hk':k=n:=by omega
   subst hk'
   rw[List.take_of_length_le (by have:=uh HN;omega)]at hown
   exact⟨_,rfl,hown,hbel⟩
theorem addr_add (b off j:Nat):(⟨b,off,none⟩:Addr).add j=⟨b,off+j,none⟩:=by unfold Addr.add;split <;> simp_all
theorem run_append_byt (w:World) (base:Nat) (ty:TypeId) (v:Value) (n:Nat) (xs:List Int) (hown:w.ownsRow base 5 1 v n (xs.map (Value.int .u8))) (vx:Value) (ys:List Int) (hy:Byt w vx ys)
  (hbytes:n+ys.length<=140737488355328) (hbase:base<=w.heap.size) :
  ∃ v' w',(Builtin.append_ #[30,30] ty #[v,vx]).run Tryz.prog w=.ok v' w'/\w'.ownsRow base 5 1 v' (n+ys.length) ((xs++ys).map (Value.int .u8))/\w.grownBy w' v.ownBlock:=by
 obtain⟨i0,hi,hz0,hz1,hz2⟩:=info_parts Tryz.infoU8
 obtain⟨ao,cap,rfl,hlen,hr,hcase⟩:=hy
 have key:∀ (a:Addr),(∀ j,j < ys.length->w.cell? (a.add j)=some (.int .u8 (ys.getD j 0)))->∃ v' w',(Builtin.append_ #[30,30] ty #[v,.slice (some a) ys.length cap]).run Tryz.prog w=.ok v' w'/\w'.ownsRow base 5 1 v' (n+ys.length) ((xs++ys).map (Value.int .u8))/\w.grownBy w' v.ownBlock:=by
  intro a ha
  obtain⟨v',w',h1,h2,h3,_⟩:=run_append_own (P:=Tryz.prog) w base 30 ty 5 i0 (.int .u8 0) 1 1 Tryz.underlying30 hi hz0 hz1 hz2 rfl (by decide) v n _ hown a ys.length cap (ys.map (Value.int .u8)) (by simp)
   (fun j u hj=>by
    rw[List.getElem?_map]at hj
    by_cases hjl:j < ys.length
    ·rw[ha j hjl]
     rw[List.getElem?_eq_getElem hjl]at hj
     rw[List.getD_eq_getElem?_getD,List.getElem?_eq_getElem hjl]
     exact hj
    ·rw[List.getElem?_eq_none (by omega)]at hj;cases hj)
   (fun u hu=>by obtain⟨_,_,rfl⟩:=List.mem_map.1 hu;rfl) (by unfold maxLen;omega) (by omega) hbase
  exact⟨v',w',h1,by rw[List.map_append];exact h2,h3⟩
 rcases hcase with rfl | ⟨b,off,rfl,hc⟩
 ·cases ao with
  | none =>
   refine⟨v,w,?_,?_,⟨rfl,rfl,rfl,Nat.le_refl _,fun _ _ _=>rfl⟩⟩
   ·rcases hown.2 with⟨rfl,rfl⟩ | ⟨g,cap',cur,rfl,_,_,hnc,_⟩
    ·simp[Builtin.append_,run_underlying Tryz.underlying30,sizeOf,typeInfo,hi,Builtin.lenOf,Builtin.firstCells]
    ·simp[Builtin.append_,run_underlying Tryz.underlying30,sizeOf,typeInfo,hi,Builtin.lenOf,Builtin.firstCells,hnc,storeCells]
   ·simpa using hown
  | some a=>exact key a (fun j hj=>by simp at hj)
 ·exact key ⟨b,off,none⟩ (fun j hj=>by rw[addr_add];exact hc j hj)
end Go.Proofs.YtpheelbbpiieiaaGreatDoor
