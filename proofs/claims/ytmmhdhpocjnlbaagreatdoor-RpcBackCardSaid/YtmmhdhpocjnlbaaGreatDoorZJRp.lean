/- Proved here: a message between nodes in memory: its cells, laid, loaded, stored, built. Helper laws. -/
import Derived.Test.YtmmhdhpocjnlbaaGreatDoorZJRd
import Derived.Test.YtmmhdhpocjnlbaaGreatDoorM1
import Derived.Test.YtmmhdhpocjnlbaaGreatDoorZULs
import Derived.Deep.MidRow
namespace Go.Proofs.YtmmhdhpocjnlbaaGreatDoor.Jr
open Go.RowKit Nt Et Qu
set_option maxRecDepth 100000

/-- a message's cells -/
abbrev mc (k f t te ix lt co : Int) (ok : Bool) (ve vm : Value) (d : ByteArray) : List Value := [.int .i64 k, .int .i64 f, .int .i64 t, .int .i64 te, .int .i64 ix, .int .i64 lt, .int .i64 co, .bool ok, ve, vm, .string d]
/-- a message, and the slices by which it lies in memory -/
structure Mq where
  r : Rp
  ea : Option Addr
  en : Nat
  ec : Nat
  ma : Option Addr
  mn : Nat
  mc : Nat
instance : Inhabited Mq := ⟨⟨rp0, none, 0, 0, none, 0, 0⟩⟩
def mcs (q : Mq) : List Value := mc q.r.kind q.r.frm q.r.to q.r.term q.r.index q.r.logt q.r.com q.r.ok (.slice q.ea q.en q.ec) (.slice q.ma q.mn q.mc) q.r.data
def mq0 : Mq := ⟨rp0, none, 0, 0, none, 0, 0⟩
theorem mcs_len (q : Mq) : (mcs q).length = 11 := rfl
theorem mc_one {k f t te ix lt co : Int} {ok : Bool} {a1 a2 : Option Addr} {n1 n2 c1 c2 : Nat} {d : ByteArray} : ∀ u ∈ mc k f t te ix lt co ok (.slice a1 n1 c1) (.slice a2 n2 c2) d, u.oneCell' = true := by
  intro u hu
  simp only [mc, List.mem_cons, List.not_mem_nil, or_false] at hu
  rcases hu with rfl | rfl | rfl | rfl | rfl | rfl | rfl | rfl | rfl | rfl | rfl <;> rfl
theorem mcs_one (q : Mq) : ∀ u ∈ mcs q, u.oneCell' = true := mc_one
theorem mcs_all (q : Mq) : (mcs q).toArray.all (·.oneCell') = true := all_oneCell_toArray (mcs_one q)
theorem rpc_size : (Tryz.prog.info? 27).map (·.size) = some 11 := by kernel_rfl
def Szs (r : Rp) : Prop := r.ents.length ≤ 3518437208780 ∧ r.mems.length ≤ 17592186043904
/-- its slices read as its lists -/
def Rok (w : World) (q : Mq) : Prop := Es w q.ea q.en q.ec q.r.ents ∧ Ls w q.ma q.mn q.mc q.r.mems
theorem Rok.below {w w' : World} {q : Mq} (h : Rok w q) (hb : Below w.heap.size w w') : Rok w' q := ⟨h.1.below hb, h.2.below hb⟩
theorem Rok.szs {w : World} {q : Mq} (h : Rok w q) : Szs q.r := ⟨by rw [h.1.1]; exact h.1.2.2.2.1, by rw [h.2.1]; exact h.2.2.2.2.1⟩
theorem rok0 (w : World) : Rok w mq0 := ⟨⟨rfl, Nat.le_refl _, ⟨by decide, fun _ => rfl⟩, by decide, .inl rfl⟩, ⟨rfl, Nat.le_refl _, ⟨by decide, fun _ => rfl⟩, by decide, .inl rfl⟩⟩
theorem range_below {w w' : World} {b off : Nat} {cs : List Value} (h : w.rangeAt b off cs) (hb : Below w.heap.size w w') : w'.rangeAt b off cs := fun j v hv => (hb.cell (p := ⟨b, off + j, none⟩) (cell_lt (h j v hv))).trans (h j v hv)
def rz : List Value := mcs mq0
theorem rpc_alloc (ρ : Operand → Value) (dst : Option Tmp) (ty : TypeId) (pos : String) (after : Array Edge) (w : World) :
    (execOp ρ ⟨dst, .alloc 27, ty, pos, after, none⟩).run Tryz.prog w = .ok (.value (.pointer (some ⟨w.heap.size, 0, none⟩))) (w.alloc (.cells rz.toArray 27)) := by
  kernel_rfl
theorem rpc_store (a : Act) (dst : Option Tmp) (x y : Operand) (ty : TypeId) (pos : String) (after : Array Edge) (q : Mq) (w : World) (hx : a.eval x = .pointer (some ⟨w.heap.size, 0, none⟩)) (hy : a.eval y = .agg (mcs q).toArray) :
    (execOp a.eval ⟨dst, .store 27 x y, ty, pos, after, none⟩).run Tryz.prog (w.alloc (.cells rz.toArray 27)) = .ok .skip (w.alloc (.cells (mcs q).toArray 27)) := by
  show Sem.run Tryz.prog (do Instr.storeAt 27 (a.eval x) (a.eval y); pure Next.skip) _ = _
  rw [hx, hy]
  simp only [Sem.run_bind]
  rw [run_storeAt_new w 27 rz.toArray (mcs q).toArray (by rw [rpc_size]; rfl) rfl (mcs_all q)]
  rfl
theorem rpc_build0 (ρ : Operand → Value) (dst : Option Tmp) (ty : TypeId) (pos : String) (after : Array Edge) (w : World) :
    (execOp ρ ⟨dst, .build 27 #[], ty, pos, after, none⟩).run Tryz.prog w = .ok (.value (.agg (mcs mq0).toArray)) w := by
  kernel_rfl
/-- a message with a kind, nodes and a flag alone -/
def mqk (k f t : Int) (ok : Bool) : Mq := ⟨⟨k, f, t, 0, 0, 0, 0, ok, [], [], ⟨#[]⟩⟩, none, 0, 0, none, 0, 0⟩
theorem rpc_build4 (k f t : Int) (ok : Bool) (a : Act) (dst : Option Tmp) (x0 x1 x2 x7 : Operand) (ty : TypeId) (pos : String) (after : Array Edge) (h0 : a.eval x0 = .int .i64 k) (h1 : a.eval x1 = .int .i64 f) (h2 : a.eval x2 = .int .i64 t) (h7 : a.eval x7 = .bool ok) (w : World) :
    (execOp a.eval ⟨dst, .build 27 #[(0, x0), (1, x1), (2, x2), (7, x7)], ty, pos, after, none⟩).run Tryz.prog w = .ok (.value (.agg (mcs (mqk k f t ok)).toArray)) w := by
  unfold execOp
  simp only [List.map_toArray, List.map_cons, List.map_nil, h0, h1, h2, h7]
  kernel_rfl
theorem res_r {fn : Func} {a : Tmp} (h : fn.results = #[.cell a 27]) {tmps : Array Value} {w : World} {B : Nat} {q : Mq} (ha : tmps[a]?.getD undef = .pointer (some ⟨B, 0, none⟩)) (hq : w.rangeAt B 0 (mcs q)) : (results fn tmps).run Tryz.prog w = .ok (.agg (mcs q).toArray) w := by
  have k := run_loadVar_mid (P := Tryz.prog) w B 0 27 (mcs q) _ hq Tryz.underlying27 rfl rpc_size
  simp [results, h, ha, asAddr, k]
theorem res_re {fn : Func} {a b : Tmp} (h : fn.results = #[.cell a 27, .tmp b]) {tmps : Array Value} {w : World} {B : Nat} {q : Mq} {E : Value} (ha : tmps[a]?.getD undef = .pointer (some ⟨B, 0, none⟩)) (hE : tmps[b]?.getD undef = E) (hq : w.rangeAt B 0 (mcs q)) : (results fn tmps).run Tryz.prog w = .ok (.tuple #[.agg (mcs q).toArray, E]) w := by
  have k := run_loadVar_mid (P := Tryz.prog) w B 0 27 (mcs q) _ hq Tryz.underlying27 rfl rpc_size
  simp [results, h, ha, hE, asAddr, k]
/-- a message whose rows are its own -/
def MqOwn (w : World) (B : Nat) (q : Mq) : Prop := w.ownsRow B 56 4 (.slice q.ea q.en q.ec) q.en (ecs q.r.ents) ∧ w.ownsRow B 3 1 (.slice q.ma q.mn q.mc) q.mn (q.r.mems.map (Value.int .i64)) ∧ q.en ≤ 3518437208780 ∧ q.mn ≤ 17592186043904
/-- the reader in block r, the message m in block M, the answer's place in block R, nothing else turned -/
structure MG (w0 W : World) (r M R : Nat) (s : St) (cs : List Value) : Prop where
  rd : RdAt W r s
  m : Bx W M cs 27
  a : Bx W R rz 27
  fr : Fr (fun k => k = r) w0 W
  hr : r < w0.heap.size
  hR : w0.heap.size ≤ R
  hM : R < M
theorem MG.call {w0 W W' : World} {r M R : Nat} {s s' : St} {cs : List Value} (h : MG w0 W r M R s cs) (hf : Fr (fun k => k = r) W W') (hd : RdAt W' r s') : MG w0 W' r M R s' cs := by
  obtain ⟨h1, h2, h3, h4, h5, h6, h7⟩ := h
  exact ⟨hd, h2.fr hf (by omega), h3.fr hf (by omega), h4.trans hf, h5, h6, h7⟩
theorem MG.grow {w0 W W' : World} {r M R : Nat} {s : St} {cs : List Value} (h : MG w0 W r M R s cs) (hb : Below W.heap.size W W') : MG w0 W' r M R s cs := by
  obtain ⟨h1, h2, h3, h4, h5, h6, h7⟩ := h
  have hf : Fr (fun _ => False) W W' := Fr.of_below hb
  exact ⟨h1.fr hf (fun _ _ h => h), h2.below hb, h3.below hb, h4.trans' hf (fun _ _ h => h.elim), h5, h6, h7⟩
theorem MG.beyond {F : Nat → Prop} {w0 W W' : World} {r M R : Nat} {s : St} {cs : List Value} (h : MG w0 W r M R s cs) (hf : Fr F W W') (hF : ∀ k, F k → M < k) : MG w0 W' r M R s cs := by
  obtain ⟨h1, h2, h3, h4, h5, h6, h7⟩ := h
  exact ⟨h1.fr hf (fun k hk h => by have := hF k h; omega), h2.fr hf (fun h => by have := hF _ h; omega), h3.fr hf (fun h => by have := hF _ h; omega), h4.trans' hf (fun i hi h => by have := hF i h; omega), h5, h6, h7⟩
theorem MG.set {w0 W : World} {r M R : Nat} {s : St} {cs : List Value} (h : MG w0 W r M R s cs) (j : Nat) (v : Value) (hj : j < cs.length) : MG w0 (W.setCell ⟨M, j, none⟩ v) r M R s (cs.set j v) := by
  obtain ⟨h1, h2, h3, h4, h5, h6, h7⟩ := h
  have hf : Fr (fun k => k = M) W (W.setCell ⟨M, j, none⟩ v) := set_fr rfl
  exact ⟨h1.fr hf (fun k hk e => by omega), h2.set j v hj, h3.fr hf (by omega), h4.trans' hf (fun i hi e => by omega), h5, h6, h7⟩
end Go.Proofs.YtmmhdhpocjnlbaaGreatDoor.Jr
