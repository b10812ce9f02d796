/- Proved here: for NetExact's walk: a net and the page's net side by side; an act in a block of its own; what is told, in memory. Helper laws. -/
import Derived.Test.YtfgelagmjjjlgaaZNPw
import Derived.Test.YtfgelagmjjjlgaaZNOp
namespace Go.Proofs.Ytfgelagmjjjlgaa.Nt
open Go.RowKit
set_option maxRecDepth 100000

/-- a net and the page's net, apart -/
structure NP (w wr : World) (n r : Nat) (v : Value) (ps : List Pc) (vL vA : Value) (qs : List Mq) (ats : List Int) : Prop where
  net : NS wr w.heap.size n v ps
  page : PSx wr w.heap.size r vL vA qs ats
  sep : ∀ g ∈ fp n v ps, g ∉ gp r vL vA qs
  ln : qs.length = ats.length
  bel : Below w.heap.size w wr
theorem NP.fr {w wr w2 : World} {n r : Nat} {v vL vA : Value} {ps : List Pc} {qs : List Mq} {ats : List Int} {F : Nat → Prop} (h : NP w wr n r v ps vL vA qs ats) (hf : Fr F wr w2) (h1 : ∀ g ∈ fp n v ps, ¬ F g) (h2 : ∀ g ∈ gp r vL vA qs, ¬ F g) (h3 : ∀ g, F g → w.heap.size ≤ g) : NP w w2 n r v ps vL vA qs ats :=
  ⟨h.net.fr hf h1, h.page.fr hf h2, h.sep, h.ln, Fr.bel h.bel hf h3 h.bel.size⟩
theorem NP.below {w wr w2 : World} {n r : Nat} {v vL vA : Value} {ps : List Pc} {qs : List Mq} {ats : List Int} (h : NP w wr n r v ps vL vA qs ats) (hb : Below wr.heap.size wr w2) : NP w w2 n r v ps vL vA qs ats :=
  h.fr (F := fun _ => False) (Fr.of_below hb) (fun _ _ => id) (fun _ _ => id) (fun _ h => h.elim)
theorem NP.netS {w wr w2 : World} {n r : Nat} {v v2 vL vA : Value} {ps ps2 : List Pc} {qs : List Mq} {ats : List Int} (h : NP w wr n r v ps vL vA qs ats) (hs : NS w2 w.heap.size n v2 ps2) (hf : Fr (fun k => k ∈ fp n v ps) wr w2) (he : Ext (fp n v ps) (fp n v2 ps2) wr) : NP w w2 n r v2 ps2 vL vA qs ats :=
  ⟨hs, h.page.fr hf (fun g hg hg2 => h.sep g hg2 hg), fun g hg hg2 => by
    rcases he g hg with e | e
    · exact h.sep g e hg2
    · have := (h.page.lt g hg2).2; omega, h.ln, Fr.bel h.bel hf (fun g hg => (h.net.lt g hg).1) h.bel.size⟩
theorem NP.pageS {w wr w2 : World} {n r : Nat} {v vL vA vL2 vA2 : Value} {ps : List Pc} {qs qs2 : List Mq} {ats ats2 : List Int} (h : NP w wr n r v ps vL vA qs ats) (hs : PSx w2 w.heap.size r vL2 vA2 qs2 ats2) (hl : qs2.length = ats2.length) (hf : Fr (fun k => k ∈ gp r vL vA qs) wr w2) (he : Ext (gp r vL vA qs) (gp r vL2 vA2 qs2) wr) : NP w w2 n r v ps vL2 vA2 qs2 ats2 :=
  ⟨h.net.fr hf (fun g hg hg2 => h.sep g hg hg2), hs, fun g hg hg2 => by
    rcases he g hg2 with e | e
    · exact h.sep g hg e
    · have := (h.net.lt g hg).2; omega, hl, Fr.bel h.bel hf (fun g hg => (h.page.lt g hg).1) h.bel.size⟩
/-- a new page beside the net -/
theorem NP.fresh {w w2 w3 : World} {n r : Nat} {v : Value} {ps : List Pc} (hs : NS w2 w.heap.size n v ps) (hb : Below w.heap.size w w2) (hw : Below w2.heap.size w2 w3) (hx : Bx w3 r [.slice none 0 0, .slice none 0 0] 30) (hr : w2.heap.size ≤ r) : NP w w3 n r v ps (.slice none 0 0) (.slice none 0 0) [] [] :=
  ⟨hs.below hw, ⟨hx, by have := hb.size; omega, World.ownsRow_nil _ _ _ _, World.ownsRow_nil _ _ _ _, fun q hq => by simp at hq, by simp [gp, bl, Value.ownBlock]⟩, fun g hg hg2 => by
    have h1 := (hs.lt g hg).2
    have : g = r := by simpa [gp, bl, Value.ownBlock] using hg2
    omega, rfl, bnx hb hw⟩
/-- messages in memory of their own -/
structure Bk (w : World) (B : Nat) (v : Value) (ms : List Mq) : Prop where
  row : w.ownsRow B 33 11 v ms.length (mrow ms)
  own : ∀ q ∈ ms, MqOwn w B q
  nd : (bl v ++ ms.flatMap qb).Nodup
theorem Bk.fr {w w2 : World} {B : Nat} {v : Value} {ms : List Mq} {F : Nat → Prop} (h : Bk w B v ms) (hf : Fr F w w2) (hn : ∀ g ∈ bl v ++ ms.flatMap qb, ¬ F g) : Bk w2 B v ms :=
  ⟨owns_fr h.row hf (fun g hg => hn g (List.mem_append.2 (.inl (mem_bl.2 hg)))), fun q hq => (h.own q hq).fr hf (fun g hg => hn g (List.mem_append.2 (.inr (List.mem_flatMap.2 ⟨q, hq, hg⟩)))), h.nd⟩
theorem Bk.below {w w2 : World} {B : Nat} {v : Value} {ms : List Mq} (h : Bk w B v ms) (hb : Below w.heap.size w w2) : Bk w2 B v ms := h.fr (F := fun _ => False) (Fr.of_below hb) (fun _ _ => id)
theorem Bk.rps {w : World} {B : Nat} {v : Value} {ms : List Mq} (h : Bk w B v ms) : Rps w v ms := rps_of_own h.row (fun q hq => ⟨(h.own q hq).rok, (h.own q hq).2.2⟩)
theorem Bk.lt {w : World} {B : Nat} {v : Value} {ms : List Mq} (h : Bk w B v ms) : ∀ g ∈ bl v ++ ms.flatMap qb, B ≤ g ∧ g < w.heap.size := fun g hg => by
  rcases List.mem_append.1 hg with hg | hg
  · exact owns_blk h.row g (mem_bl.1 hg)
  · obtain ⟨q, hq, h2⟩ := List.mem_flatMap.1 hg
    exact (h.own q hq).blk g h2
theorem flat_pb (ts : List Pc) : (ts.map (·.q)).flatMap qb = ts.flatMap pb := by rw [List.flatMap_map]; rfl
theorem Taken.bk {w : World} {B n : Nat} {v : Value} {ps : List Pc} {now : Int} {w' : World} {vt : Value} {ts : List Pc} {v' : Value} {rs : List Pc} (h : Taken w B n v ps now w' vt ts v' rs) : Bk w' B vt (ts.map (·.q)) ∧ (∀ g ∈ bl vt ++ (ts.map (·.q)).flatMap qb, g ∉ fp n v' rs) ∧ (∀ g ∈ bl vt ++ (ts.map (·.q)).flatMap qb, g ∈ fp n v ps ∨ w.heap.size ≤ g) ∧ Ext (fp n v ps) (fp n v' rs) w := by
  rw [flat_pb]
  have nd := h.nd
  rw [← List.append_assoc] at nd
  obtain ⟨n1, n2, n3⟩ := List.nodup_append.1 nd
  refine ⟨⟨by rw [List.length_map]; exact h.row, fun q hq => ?_, by rw [flat_pb]; exact n1⟩, fun g hg hg2 => n3 g hg g hg2 rfl, fun g hg => h.ext g (by rw [← List.append_assoc]; exact List.mem_append.2 (.inl hg)), fun g hg => h.ext g (by rw [← List.append_assoc]; exact List.mem_append.2 (.inr hg))⟩
  obtain ⟨p, hp, rfl⟩ := List.mem_map.1 hq
  exact h.own p hp
theorem zip_back (R : List (Mq × Int)) : ((R.map (·.1)).map (·.r)).zip (R.map (·.2)) = R.map (fun x => (x.1.r, x.2)) := by
  induction R with
  | nil => rfl
  | cons x l ih => simp only [List.map_cons, List.zip_cons_cons]; rw [ih]
/-- both nets tell the same -/
theorem same_told {ps : List Pc} {qs : List Mq} {ats : List Int} {now : Int} {ts : List Pc} {T : List Tp} (he : ps.map it = (qs.map (·.r)).zip ats) (h1 : Told ((ps.map it).filter (fun x => decide (x.2 ≤ now))) (ts.map it)) (h2 : Told (((qs.map (·.r)).zip ats).filter (fun x => decide (x.2 ≤ now))) (T.map (fun t => (t.1.1.r, t.1.2)))) : (ts.map (·.q)).map (·.r) = (T.map (·.1.1)).map (·.r) := by
  rw [he] at h1
  have e := told_one h1 h2
  have e2 := congrArg (List.map Prod.fst) e
  simpa [it, Function.comp_def] using e2
theorem told_len {C a : List It} (h : Told C a) : a.length = C.length := (told_perm h).length_eq
theorem addI_len (I : List It) (x : It) : (addI I x).length ≤ I.length + 1 := by
  unfold addI
  split
  · simp
  · omega
theorem putI_len (I : List It) (r : Rp) (now pick : Int) : (putI I r now pick).length ≤ I.length + 2 := by
  unfold putI
  have h1 := addI_len I (r, now + 1)
  have h2 := addI_len I (r, now + (2 + dr (dq pick 4) 8))
  have h3 := addI_len (addI I (r, now + 1)) (r, now + (2 + dr (dq pick 4) 8))
  split
  · omega
  · split
    · omega
    · split <;> omega
/-- an act -/
def az : List Value := .int .i64 0 :: (rz ++ [.int .i64 0, .int .i64 0])
theorem acs_one (a : Ac) : ∀ u ∈ acs a, u.oneCell' = true := fun u hu => by
  unfold acs at hu
  rcases List.mem_cons.1 hu with rfl | hu
  · rfl
  · rcases List.mem_append.1 hu with hu | hu
    · exact mcs_one a.q u hu
    · simp at hu
      rcases hu with rfl | rfl <;> rfl
theorem act_size : (Try.prog.info? 35).map (·.size) = some 14 := by kernel_rfl
theorem act_alloc (ρ : Operand → Value) (dst : Option Tmp) (ty : TypeId) (pos : String) (after : Array Edge) (w : World) :
    (execOp ρ ⟨dst, .alloc 35, ty, pos, after, none⟩).run Try.prog w = .ok (.value (.pointer (some ⟨w.heap.size, 0, none⟩))) (w.alloc (.cells az.toArray 35)) := by
  kernel_rfl
theorem act_store (a : Act) (dst : Option Tmp) (x y : Operand) (ty : TypeId) (pos : String) (after : Array Edge) (p : Ac) (w : World) (hx : a.eval x = .pointer (some ⟨w.heap.size, 0, none⟩)) (hy : a.eval y = .agg (acs p).toArray) :
    (execOp a.eval ⟨dst, .store 35 x y, ty, pos, after, none⟩).run Try.prog (w.alloc (.cells az.toArray 35)) = .ok .skip (w.alloc (.cells (acs p).toArray 35)) := by
  show Sem.run Try.prog (do Instr.storeAt 35 (a.eval x) (a.eval y); pure Next.skip) _ = _
  rw [hx, hy]
  simp only [Sem.run_bind]
  rw [run_storeAt_new w 35 az.toArray (acs p).toArray (by rw [act_size]; rfl) rfl (all_oneCell_toArray (acs_one p))]
  rfl
theorem act_mid {w : World} {b : Nat} {a : Ac} {t : TypeId} (h : Bx w b (acs a) t) : w.rangeAt b 1 (mcs a.q) := fun j v hv => by
  have hj : j < 11 := (List.getElem?_eq_some_iff.1 hv).1
  refine h.cell (1 + j) v ?_
  unfold acs
  rw [Nat.add_comm 1 j, List.getElem?_cons_succ, List.getElem?_append_left (by rw [mcs_len]; exact hj)]
  exact hv
end Go.Proofs.Ytfgelagmjjjlgaa.Nt
