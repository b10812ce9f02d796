/- Proved here: helpers, one text behind the other. -/
import Derived.Deep.MidRow
import Derived.Test.YtccnjdgaldbgnaaGreatDoorZC10
namespace Go.Proofs.YtccnjdgaldbgnaaGreatDoor.K
open Go.RowKit
set_option maxRecDepth 100000
def Pkv.cells (p:Pkv):List Value:=[.int .i64 p.kind,.bool p.dup,.int .i64 p.qos,.bool p.retain,.string p.topic,.int .i64 p.id,.string p.payload,p.props.val,.string p.client,.bool p.clean,.int .i64 p.keep,p.wills.val,p.user.val,p.pass.val,.int .i64 p.code,.bool p.session,p.subs.val,p.filters.val,p.codes.val]
theorem Pk.range {w:World} {R:Nat} {q:Pkv} (h:Pk w R q):w.rangeAt R 0 q.cells:=by
 intro j v hj
 have hl:j < 19:=(List.getElem?_eq_some_iff.1 hj).1
 rw[Nat.zero_add,(h j hl).1,<- hj]
 match j,hl with
 | 0,_=>rfl
 | 1,_=>rfl
 | 2,_=>rfl
 | 3,_=>rfl
 | 4,_=>rfl
 | 5,_=>rfl
 | 6,_=>rfl
 | 7,_=>rfl
 | 8,_=>rfl
 | 9,_=>rfl
 | 10,_=>rfl
 | 11,_=>rfl
 | 12,_=>rfl
 | 13,_=>rfl
 | 14,_=>rfl
 | 15,_=>rfl
 | 16,_=>rfl
 | 17,_=>rfl
 | 18,_=>rfl
theorem packet_size:(Tryz.prog.info? 45).map (·.size)=some 19:=by kernel_rfl
theorem Pkv.ones (q:Pkv):∀ v ∈ q.cells,v.oneCell'=true:=by
 intro v hv
 simp only[Pkv.cells,List.mem_cons,List.not_mem_nil,or_false]at hv
 rcases hv with rfl | rfl | rfl | rfl | rfl | rfl | rfl | rfl | rfl | rfl | rfl | rfl | rfl | rfl | rfl | rfl | rfl | rfl | rfl <;> rfl
theorem Pkv.ones' (q:Pkv):q.cells.toArray.all (·.oneCell')=true:=all_oneCell_toArray q.ones
theorem Pk.there {w:World} {R:Nat} {q:Pkv} (h:Pk w R q) (r:Pkv):w.there R 0 r.cells.toArray.size:=fun j hj=>by
 have hj:j < 19:=hj
 rw[Nat.zero_add,(h j hj).1]
 exact⟨rfl,(h j hj).2⟩
theorem cells_get (q:Pkv) (j:Nat) (hj:j < 19):q.cells[j]?=some (q.cell j):=by
 match j,hj with
 | 0,_=>rfl
 | 1,_=>rfl
 | 2,_=>rfl
 | 3,_=>rfl
 | 4,_=>rfl
 | 5,_=>rfl
 | 6,_=>rfl
 | 7,_=>rfl
 | 8,_=>rfl
 | 9,_=>rfl
 | 10,_=>rfl
 | 11,_=>rfl
 | 12,_=>rfl
 | 13,_=>rfl
 | 14,_=>rfl
 | 15,_=>rfl
 | 16,_=>rfl
 | 17,_=>rfl
 | 18,_=>rfl
 | n+19,h=>exact absurd h (by omega)
theorem Pk.stored {w:World} {R:Nat} {q:Pkv} (h:Pk w R q) (r:Pkv):Pk (w.setCells R 0 r.cells) R r:=fun j hj=>by
 have k:=World.rangeAt_setCells_same w R 0 r.cells (h.there r) j _ (cells_get r j hj)
 rw[Nat.zero_add]at k
 exact⟨k,by rw[World.frozen?_setCells];exact (h j hj).2⟩
theorem setCells_below {w0 w:World} {B R o:Nat} {vs:List Value} (h:Below B w0 w) (hR:B<=R):Below B w0 (w.setCells R o vs):=by
 induction vs generalizing w o with
 | nil=>exact h
 | cons v vs ih =>
  rw[World.setCells]
  refine ih ?_
  exact⟨h.os,h.tape,h.output,by simpa [World.setCell] using h.size,fun k hk=>(Below.heap_setCell _ _ _ _ (by show k≠R;omega)).trans (h.block k hk)⟩
theorem pk_new (w:World) (q:Pkv):Pk (w.alloc (.cells q.cells.toArray 45)) w.heap.size q:=fun j hj=>by
 refine⟨?_,by simp⟩
 have k:=heap_alloc_new w (.cells q.cells.toArray 45)
 unfold World.cell?
 dsimp only
 rw[k]
 simpa using cells_get q j hj
theorem res_pk2 {fn:Func} {a t:Tmp} (h:fn.results=#[.cell a 45,.tmp t]) {tmps:Array Value} {w:World} {B:Nat} {q:Pkv} (ha:tmps[a]?.getD undef=.pointer (some ⟨B,0,none⟩)) (hq:Pk w B q):(results fn tmps).run Tryz.prog w=.ok (.tuple #[q.val,tmps[t]?.getD undef]) w:=by
 have k:=run_loadVar_mid (P:=Tryz.prog) w B 0 45 q.cells _ hq.range Tryz.underlying45 rfl packet_size
 simp[results,h,ha,asAddr,k]
 rfl
theorem res_pk3 {fn:Func} {a t u:Tmp} (h:fn.results=#[.cell a 45,.tmp t,.tmp u]) {tmps:Array Value} {w:World} {B:Nat} {q:Pkv} (ha:tmps[a]?.getD undef=.pointer (some ⟨B,0,none⟩)) (hq:Pk w B q):(results fn tmps).run Tryz.prog w=.ok (.tuple #[q.val,tmps[t]?.getD undef,tmps[u]?.getD undef]) w:=by
 have k:=run_loadVar_mid (P:=Tryz.prog) w B 0 45 q.cells _ hq.range Tryz.underlying45 rfl packet_size
 simp[results,h,ha,asAddr,k]
 rfl
end Go.Proofs.YtccnjdgaldbgnaaGreatDoor.K
