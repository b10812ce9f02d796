/- Proved here: contracts of strings.Clone, and of the index's grow and reach: the node that levels lead to, made where there was none. Helper contracts. -/
import Derived.Test.YtdjpllmgjmnolaaGreatDoorZYTr
import Derived.Test.YtdjpllmgjmnolaaGreatDoorZYShelf
import Derived.Test.YtdjpllmgjmnolaaGreatDoorZKTk
import Derived.Test.YtdjpllmgjmnolaaGreatDoorZQTop2
import Derived.Lib.SliceRun
import Derived.Deep.RegionHeld3
import Derived.Handy
import Derived.WalkSpells
namespace Go.Proofs.YtdjpllmgjmnolaaGreatDoor.Y
open Go.RowKit Go.Maps
set_option maxRecDepth 100000

theorem clone_any (s : ByteArray) (w : World) (hs : s.size ≤ 70000) : Calls Tryz.prog 84 #[.string s] w fun e w' => e = .returned (.string s) ∧ Below w.heap.size w w' := by
  go_enter Tryz.func84, Tryz.ntmps84
  go_wp2_with (go_at_call 109; refine (Tryz.stringslite_Clone s _ (by omega)).mono ?_; rintro e w1 ⟨rfl, hb⟩)
  go_ret
  exact ⟨rfl, hb⟩
/-- what the index's blocks are, and what they may be behind a call -/
def Ext (F F' : Nat → Prop) (w : World) : Prop := (∀ k, F k → F' k) ∧ ∀ k, F' k → F k ∨ w.heap.size ≤ k
theorem Ext.refl (F : Nat → Prop) (w : World) : Ext F F w := ⟨fun _ h => h, fun _ h => .inl h⟩
theorem Ext.trans {F F1 F2 : Nat → Prop} {w w1 : World} (h : Ext F F1 w) (k : Ext F1 F2 w1) (hs : w.heap.size ≤ w1.heap.size) : Ext F F2 w :=
  ⟨fun i hi => k.1 i (h.1 i hi), fun i hi => by
    rcases k.2 i hi with h1 | h1
    · exact h.2 i h1
    · exact .inr (Nat.le_trans hs h1)⟩
theorem TG.nod {w : World} {T : Nat} {S : Rw → Prop} {n : Int} {F : Nat → Prop} {M : Nat} {G : Gr} (h : TG w T S n F M G) {p : Path} {a : Nod} (hp : G p = some a) : w.cell? ⟨a.blk, 0, none⟩ = some (.map a.bm) ∧ w.cell? ⟨a.blk, 1, none⟩ = some (.map a.sm) ∧ w.frozen? ⟨a.blk, 0, none⟩ = false ∧ w.frozen? ⟨a.blk, 1, none⟩ = false ∧ a.blk < w.heap.size := by
  have hc := h.cell p a hp
  unfold nodeO at hc
  exact ⟨by rw [cell_of hc]; rfl, by rw [cell_of hc]; rfl, frozen_of hc 0, frozen_of hc 1, h.low _ (h.foot p a hp _ (mem_blk a))⟩
theorem nodup_bm {a : Nod} {b : Nat} (h : a.blks.Nodup) (hb : a.bm = some b) : b ≠ a.blk ∧ ∀ c, a.sm = some c → c ≠ b := by
  unfold Nod.blks at h
  rw [hb] at h
  simp at h
  refine ⟨fun e => h.1.1 e.symm, fun c hc e => h.2.1 (by rw [hc, e])⟩
theorem nodup_sm {a : Nod} {b : Nat} (h : a.blks.Nodup) (hb : a.sm = some b) : b ≠ a.blk ∧ ∀ c, a.bm = some c → c ≠ b := by
  refine ⟨fun e => ?_, fun c hc e => ?_⟩
  · unfold Nod.blks at h; rw [hb, e] at h; simp at h
  · unfold Nod.blks at h; rw [hb, hc, e] at h; simp at h
/-- a map of the nodes below is made -/
theorem mk_below {w : World} {T : Nat} {S : Rw → Prop} {n : Int} {F : Nat → Prop} {M : Nat} {G : Gr} (h : TG w T S n F M G) {p : Path} {a : Nod} (hp : G p = some a) (hbm : a.bm = none) (w1 : World) (hw1 : w1 = (w.setCell ⟨a.blk, 0, none⟩ (.map (some w.heap.size))).alloc (.map #[] 0)) :
    TG w1 T S n (fun k => F k ∨ k = w.heap.size) M (upd G p (some { a with bm := some w.heap.size })) ∧ Fr F w w1 ∧ w1.heap.size = w.heap.size + 1 := by
  subst hw1
  obtain ⟨_, _, _, _, hlt⟩ := h.nod hp
  have hF := h.foot p a hp _ (mem_blk a)
  have hc := h.cell p a hp
  have hs : (w.setCell ⟨a.blk, 0, none⟩ (.map (some w.heap.size))).heap.size = w.heap.size := by simp [World.setCell]
  have hal : ∀ k, k < w.heap.size → ((w.setCell ⟨a.blk, 0, none⟩ (.map (some w.heap.size))).alloc (.map #[] 0)).heap[k]? = (w.setCell ⟨a.blk, 0, none⟩ (.map (some w.heap.size))).heap[k]? := fun k hk => Below.heap_alloc _ _ k (by rw [hs]; exact hk)
  have hfr : Fr (· = a.blk) w ((w.setCell ⟨a.blk, 0, none⟩ (.map (some w.heap.size))).alloc (.map #[] 0)) := (set_fr (F := (· = a.blk)) rfl).trans (Fr.alloc _ _ _)
  refine ⟨?_, hfr.mono (fun k _ e => by rw [e]; exact hF), by simp [World.setCell]⟩
  refine h.set hp (fun k hk hn => hfr.block k (h.low k hk) (fun e => hn (by rw [e]; exact mem_blk a))) (fun k hk => .inl hk) (fun k hk => ?_) rfl ?_ (fun _ => rfl) (fun k hk => ?_) ?_ ?_ ?_ ?_ (Nat.le_refl _) (fun _ _ => Iff.rfl) (fun x hx => (h.row x hx).1)
  · rcases hk with hk | hk
    · have := h.low k hk; simp [World.setCell]; omega
    · simp [World.setCell]; omega
  · intro e
    obtain ⟨r, h1, _, h3⟩ := h.root
    have : r = a := Option.some.inj (by rw [← h1, ← e]; exact hp)
    rw [← this]; exact h3
  · simp only [Nod.blks, Option.toList_some, List.mem_cons, List.mem_append, List.not_mem_nil, or_false] at hk
    rcases hk with hk | hk | hk
    · exact .inl (by rw [hk]; exact mem_blk a)
    · exact .inr ⟨by omega, .inr hk⟩
    · exact .inl (by simp [Nod.blks, hk])
  · have hnd := h.own p a hp
    have hlow : ∀ k ∈ a.blks, k < w.heap.size := fun k hk => h.low k (h.foot p a hp k hk)
    unfold Nod.blks at hnd hlow ⊢
    rw [hbm] at hnd hlow
    simp only [Option.toList_none, List.nil_append, List.nodup_cons, Option.toList_some, List.cons_append, List.mem_cons] at hnd hlow ⊢
    refine ⟨fun e => ?_, fun e => ?_, hnd.2⟩
    · rcases e with e | e
      · have := hlow a.blk (.inl rfl); omega
      · exact hnd.1 e
    · have := hlow _ (.inr e); omega
  · rw [hal _ hlt]
    have k := set_heap (show w.heap[a.blk]? = some (.cells _ _ (0, 0)) from hc) 0 (.map (some w.heap.size)) (by simp)
    rw [k]
    unfold nodeO
    simp
  · obtain ⟨D, h1, h2⟩ := h.bel p a hp
    rw [hbm] at h1
    obtain rfl : D = .map [] := h1
    refine ⟨.map [], ?_, h2⟩
    have k := World.ownsMap_made (w.setCell ⟨a.blk, 0, none⟩ (.map (some w.heap.size))) Tryz.prog 9 pel
    rw [hs] at k
    exact k.mono (Nat.zero_le _)
  · exact (h.sub p a hp).keep (fun b hb => hfr.block b (h.low b (h.foot p a hp b (mem_sm hb))) (nodup_sm (h.own p a hp) hb).1) (Nat.le_refl _)
/-- a node is laid, and put below -/
theorem grow_end {w1 w2 w3 : World} {T : Nat} {S : Rw → Prop} {n : Int} {F : Nat → Prop} {M : Nat} {G : Gr} {p : Path} {l : List UInt8} {a : Nod} {b : Nat} {D : DataW Unit} (h : TG w1 T S n F M G) (hp : G p = some a) (hbm : a.bm = some b)
    (hD : w1.ownsMap Tryz.prog 9 pel b M D) (hD2 : ∀ l, Maps.has D (.string l) = (kids G p l).isSome ∧ D.atKey (.string l) .nil = kidD (kids G p l)) (hl : kids G p l = none) (hdep : p.length < 32)
    (hb2 : Below (w1.heap.size + 1) (w1.alloc (.cells #[.map none, .map none] 57)) w2) (h3 : w3.ownsMap Tryz.prog 9 pel b (M + 1) (D.put (.string l) (.lit (.int .i64 w1.heap.size)))) (ht : w2.mapTurned w3 b) :
    TG w3 T S n (fun k => F k ∨ k = w1.heap.size) (M + 1) (upd G (p ++ [l]) (some ⟨w1.heap.size, none, none, [], 57⟩)) ∧ Fr (· = b) w1 w3 := by
  have hF := h.foot p a hp _ (mem_bm hbm)
  have hlt := h.low b hF
  have hg := ht.grown
  have e2 : ∀ k, k < w1.heap.size + 1 → w2.heap[k]? = (w1.alloc (.cells #[.map none, .map none] 57)).heap[k]? := fun k hk => hb2.block k hk
  have s2 : w1.heap.size + 1 ≤ w2.heap.size := by have := hb2.size; simpa using this
  have e3 : ∀ k, k < w1.heap.size + 1 → k ≠ b → w3.heap[k]? = (w1.alloc (.cells #[.map none, .map none] 57)).heap[k]? := fun k hk hn => (hg.block k (by omega) (by simpa using hn)).trans (e2 k hk)
  have s3 := hg.size
  refine ⟨h.add hp hbm hD hD2 hl hdep (Nat.le_refl _) (fun k hk hn => ?_) (fun k hk => .inl hk) (.inr rfl) (fun k hk => ?_) ?_ h3, ?_⟩
  · have hk1 := h.low k hk
    rw [e3 k (by omega) hn, Below.heap_alloc _ _ k hk1]
  · rcases hk with hk | hk
    · have := h.low k hk; omega
    · omega
  · rw [e3 _ (by omega) (by omega), (MapKept.heap_alloc w1 _).1]
    rfl
  · refine ⟨?_, ?_, ?_, by omega, fun k hk hn => by rw [e3 k (by omega) hn, Below.heap_alloc _ _ k hk]⟩
    · exact hg.os.trans hb2.os
    · exact hg.tape.trans hb2.tape
    · exact hg.output.trans hb2.output
def GrPost (w : World) (T : Nat) (S : Rw → Prop) (n : Int) (F : Nat → Prop) (M : Nat) (q : Path) (nb : Nat) (w' : World) : Prop := ∃ G' F' c, TG w' T S n F' M G' ∧ G' q = some c ∧ c.blk = nb ∧ Ext F F' w ∧ Fr F w w'
set_option maxHeartbeats 2000000 in
theorem grow_some {w : World} {T : Nat} {S : Rw → Prop} {n : Int} {F : Nat → Prop} {M : Nat} {G : Gr} {p : Path} {a : Nod} (l : ByteArray) (hs : l.size ≤ 70000) (hM : M ≤ 1000000) (h : TG w T S n F M G) (hp : G p = some a) {b : Nat} (hbm : a.bm = some b) (hl : kids G p l.data.toList = none) (hdep : p.length < 32) :
    Calls Tryz.prog 56 #[.pointer (some ⟨a.blk, 0, none⟩), .string l] w fun e w' => ∃ nb, e = .returned (.pointer (some ⟨nb, 0, none⟩)) ∧ Hid (GrPost w T S n F (M + 1) (p ++ [l.data.toList]) nb w') := by
  obtain ⟨c0, c1, f0, f1, hd⟩ := h.nod hp
  rw [hbm] at c0
  obtain ⟨D, h1, h2⟩ := h.bel p a hp
  rw [hbm] at h1
  have hD : w.ownsMap Tryz.prog 9 pel b M D := h1
  have HF0 := hide (h.foot p a hp b (mem_bm hbm))
  have hdb : Hid (¬ a.blk = b) := fun e => (nodup_bm (h.own p a hp) hbm).1 e.symm
  have HT1 := hide h
  have HD := hide hD
  have HD2 := hide h2
  have hl1 := hide hl
  have hc1 := hide c0
  have hd1 := hide hd
  obtain ⟨nb, hnb⟩ : ∃ nb, Hid (nb = w.heap.size) := ⟨_, rfl⟩
  obtain ⟨d, hdd⟩ : ∃ d, a.blk = d := ⟨_, rfl⟩
  have hp1 := hp
  have hbm1 := hbm
  obtain ⟨a1, ha1⟩ : ∃ a1, a1 = a := ⟨_, rfl⟩
  rw [← ha1] at hp1 hbm1
  rw [hdd] at c0 f0 hd hdb hc1 hd1 ⊢
  clear h h1 h2 hl hD hp hbm c1 f1 ha1 hdd
  have qm : ∀ (w : World) (r : Option Nat), (binOp .eql 54 (.map r) (.map none)).run Tryz.prog w = .ok (.bool r.isNone) w := fun w r => run_eql_map_nil w _ _ _ r Tryz.underlying54
  go_enter Tryz.func56, Tryz.ntmps56
  go_wp2_with fail
  rw [← unhide hnb]
  clear c0 f0 hd qm
  obtain ⟨w1, hw1⟩ : ∃ w1, w1 = w := ⟨_, rfl⟩
  rw [← hw1] at HT1 HD hc1 hd1 hnb ⊢
  have HW : Hid (w1 = w) := hw1
  clear hw1
  have hkey := hide (key_str (s := l) (by unfold maxLen; omega))
  have hmx : M < maxLen := by unfold maxLen; omega
  have HC := hide (fun W => clone_any l W hs)
  clear hs hM
  refine wp_region_noPanic ?_
  refine wp_region_held_drew (S := fun W => W.cell? ⟨d, 0, none⟩ = some (.map (some b))) (by kernel_rfl) (by show World.cell? _ _ = _; exact Lib.cell?_alloc_some _ (unhide hc1)) (fun hHeld => ?_)
  refine rtk 0 (h := ?_)
  refine rtk 1 (h := ?_)
  refine rtk 2 (h := ?_)
  refine rtk 3 (h := ?_)
  refine rtk 4 (h := ?_)
  refine rtk 6 (h := ?_)
  refine rcl 5 (h := fun K hK => ?_)
  go_simp
  refine ((unhide HC) _).mono ?_
  rintro e w2 ⟨rfl, hb2⟩
  have HB2 : Hid (Below (w1.heap.size + 1) (w1.alloc (.cells #[.map none, .map none] 57)) w2) := by
    have k := hb2
    rw [show ((w1.alloc (.cells #[.map none, .map none] 57)).drew).heap.size = w1.heap.size + 1 from by simp] at k
    exact ⟨k.os, k.tape, k.output, k.size, k.block⟩
  clear hb2
  have hc2 : w2.cell? ⟨d, 0, none⟩ = some (.map (some b)) := by
    rw [(unhide HB2).cell (p := ⟨d, 0, none⟩) (by have := unhide hd1; simp; omega), Lib.cell?_alloc_some _ (unhide hc1)]
  refine hK.out _ _ hc2 (fun hHeld => ?_)
  clear hK K
  have hown2 : w2.ownsMap Tryz.prog 9 pel b M D := owns_blk (unhide HD) (by
    have h1 := (unhide HT1).low b ((unhide HT1).foot p a1 hp1 b (mem_bm hbm1))
    rw [(unhide HB2).block b (by omega), Below.heap_alloc _ _ b h1])
  obtain ⟨w3, hrun, hown3, hturn⟩ := hown2.store K_str Tryz.underlying54 hmx (unhide hkey) (pel_kid (some nb))
  have hrun' : Sem.run Tryz.prog (Instr.mapUpdate 54 (.map (some b)) (.string l) (.pointer (some ⟨nb, 0, none⟩))) w2 = _ := hrun
  obtain ⟨hT3, hfr3⟩ := grow_end (unhide HT1) hp1 hbm1 (unhide HD) (unhide HD2) (unhide hl1) hdep (unhide HB2) (by rw [← unhide hnb]; exact hown3) hturn
  have hc3 : w3.cell? ⟨d, 0, none⟩ = some (.map (some b)) := hfr3.cell (unhide hdb) (unhide hc1)
  have HF := hide (And.intro hT3 hfr3)
  clear hT3 hfr3 hown2 hown3 hturn hrun
  refine rcl 7 (h := fun K hK => ?_)
  go_simp
  refine hK.out _ _ hc3 (fun hHeld => ?_)
  clear hK K
  refine wpAnyH_done (by kernel_rfl) ?_ _
  refine NoPanic.normal ?_
  go_wp2
  go_ret
  refine ⟨_, rfl, _, _, _, (unhide HF).1, upd_same _ _ _, (unhide hnb).symm, ⟨fun k hk => .inl hk, fun k hk => hk.imp id (fun e => by rw [e, unhide HW]; exact Nat.le_refl _)⟩, (by rw [← unhide HW]; exact (unhide HF).2.mono (fun k _ e => by rw [e]; exact unhide HF0))⟩
set_option maxHeartbeats 2000000 in
theorem grow_none {w : World} {T : Nat} {S : Rw → Prop} {n : Int} {F : Nat → Prop} {M : Nat} {G : Gr} {p : Path} {a : Nod} (l : ByteArray) (hs : l.size ≤ 70000) (hM : M ≤ 1000000) (h : TG w T S n F M G) (hp : G p = some a) (hbm : a.bm = none) (hl : kids G p l.data.toList = none) (hdep : p.length < 32) :
    Calls Tryz.prog 56 #[.pointer (some ⟨a.blk, 0, none⟩), .string l] w fun e w' => ∃ nb, e = .returned (.pointer (some ⟨nb, 0, none⟩)) ∧ Hid (GrPost w T S n F (M + 1) (p ++ [l.data.toList]) nb w') := by
  obtain ⟨c0, c1, f0, f1, hd⟩ := h.nod hp
  rw [hbm] at c0
  obtain ⟨b, hb⟩ : ∃ b, Hid (b = w.heap.size) := ⟨_, rfl⟩
  obtain ⟨w1, HW⟩ : ∃ w1, Hid (w1 = (w.setCell ⟨a.blk, 0, none⟩ (.map (some w.heap.size))).alloc (.map #[] 0)) := ⟨_, rfl⟩
  obtain ⟨hT1, hfr1, hsz1⟩ := mk_below h hp hbm w1 (unhide HW)
  have hkid : kids (upd G p (some { a with bm := some w.heap.size })) p l.data.toList = none := by rw [kids_upd (a' := { a with bm := some w.heap.size }) hp rfl]; exact hl
  have hp1 : upd G p (some { a with bm := some w.heap.size }) p = some { a with bm := some w.heap.size } := upd_same _ _ _
  generalize upd G p (some { a with bm := some w.heap.size }) = G1 at hT1 hkid hp1
  obtain ⟨a1, ha1⟩ : ∃ a1, a1 = { a with bm := some w.heap.size } := ⟨_, rfl⟩
  rw [← ha1] at hp1
  have hbm1 : a1.bm = some b := by rw [ha1, unhide hb]
  have hblk1 : a1.blk = a.blk := by rw [ha1]
  obtain ⟨D, h1, h2⟩ := hT1.bel p a1 hp1
  rw [hbm1] at h1
  have hD : w1.ownsMap Tryz.prog 9 pel b M D := h1
  have hc1 := hide (hT1.nod hp1).1
  have hd1 := hide (hT1.nod hp1).2.2.2.2
  have hdb : Hid (¬ a1.blk = b) := fun e => (nodup_bm (hT1.own p a1 hp1) hbm1).1 e.symm
  rw [hbm1] at hc1
  rw [hblk1] at hc1 hd1 hdb
  have HT1 := hide hT1
  have HFR := hide hfr1
  have HD := hide hD
  have HD2 := hide h2
  have hl1 := hide hkid
  have HSZ := hide hsz1
  obtain ⟨nb, hnb⟩ : ∃ nb, Hid (nb = w1.heap.size) := ⟨_, rfl⟩
  obtain ⟨d, hdd⟩ : ∃ d, a.blk = d := ⟨_, rfl⟩
  rw [hdd] at c0 f0 hd hdb hc1 hd1 HW ⊢
  clear h h1 h2 hl hD hp hbm c1 f1 hdd ha1 hblk1 hT1 hfr1 hkid hsz1
  have qm : ∀ (w : World) (r : Option Nat), (binOp .eql 54 (.map r) (.map none)).run Tryz.prog w = .ok (.bool r.isNone) w := fun w r => run_eql_map_nil w _ _ _ r Tryz.underlying54
  have hmm := @run_makeMap Tryz.prog
  go_enter Tryz.func56, Tryz.ntmps56
  go_wp2_with fail
  rw [← unhide HW, ← unhide HSZ, ← unhide hnb, ← unhide hb]
  clear c0 f0 hd qm hmm
  have hkey := hide (key_str (s := l) (by unfold maxLen; omega))
  have hmx : M < maxLen := by unfold maxLen; omega
  have HC := hide (fun W => clone_any l W hs)
  clear hs hM
  refine wp_region_noPanic ?_
  refine wp_region_held_drew (S := fun W => W.cell? ⟨d, 0, none⟩ = some (.map (some b))) (by kernel_rfl) (by show World.cell? _ _ = _; exact Lib.cell?_alloc_some _ (unhide hc1)) (fun hHeld => ?_)
  refine rtk 0 (h := ?_)
  refine rtk 1 (h := ?_)
  refine rtk 2 (h := ?_)
  refine rtk 3 (h := ?_)
  refine rtk 4 (h := ?_)
  refine rtk 6 (h := ?_)
  refine rcl 5 (h := fun K hK => ?_)
  go_simp
  refine ((unhide HC) _).mono ?_
  rintro e w2 ⟨rfl, hb2⟩
  have HB2 : Hid (Below (w1.heap.size + 1) (w1.alloc (.cells #[.map none, .map none] 57)) w2) := by
    have k := hb2
    rw [show ((w1.alloc (.cells #[.map none, .map none] 57)).drew).heap.size = w1.heap.size + 1 from by simp] at k
    exact ⟨k.os, k.tape, k.output, k.size, k.block⟩
  clear hb2
  have hc2 : w2.cell? ⟨d, 0, none⟩ = some (.map (some b)) := by
    rw [(unhide HB2).cell (p := ⟨d, 0, none⟩) (by have := unhide hd1; simp; omega), Lib.cell?_alloc_some _ (unhide hc1)]
  refine hK.out _ _ hc2 (fun hHeld => ?_)
  clear hK K
  have hown2 : w2.ownsMap Tryz.prog 9 pel b M D := owns_blk (unhide HD) (by
    have h1 := (unhide HT1).low b ((unhide HT1).foot p a1 hp1 b (mem_bm hbm1))
    rw [(unhide HB2).block b (by omega), Below.heap_alloc _ _ b h1])
  obtain ⟨w3, hrun, hown3, hturn⟩ := hown2.store K_str Tryz.underlying54 hmx (unhide hkey) (pel_kid (some nb))
  have hrun' : Sem.run Tryz.prog (Instr.mapUpdate 54 (.map (some b)) (.string l) (.pointer (some ⟨nb, 0, none⟩))) w2 = _ := hrun
  obtain ⟨hT3, hfr3⟩ := grow_end (unhide HT1) hp1 hbm1 (unhide HD) (unhide HD2) (unhide hl1) hdep (unhide HB2) (by rw [← unhide hnb]; exact hown3) hturn
  have hc3 : w3.cell? ⟨d, 0, none⟩ = some (.map (some b)) := hfr3.cell (unhide hdb) (unhide hc1)
  have HF := hide (And.intro hT3 hfr3)
  clear hT3 hfr3 hown2 hown3 hturn hrun
  refine rcl 7 (h := fun K hK => ?_)
  go_simp
  refine hK.out _ _ hc3 (fun hHeld => ?_)
  clear hK K
  refine wpAnyH_done (by kernel_rfl) ?_ _
  refine NoPanic.normal ?_
  go_wp2
  go_ret
  refine ⟨_, rfl, _, _, _, (unhide HF).1, upd_same _ _ _, (unhide hnb).symm, ⟨fun k hk => .inl (.inl hk), fun k hk => by have := unhide HSZ; rcases hk with (hk | hk) | hk; exact .inl hk; exact .inr (by omega); exact .inr (by omega)⟩, (unhide HFR).trans' (unhide HF).2 (fun k hk e => by have := unhide hb; omega)⟩
theorem grow_any {w : World} {T : Nat} {S : Rw → Prop} {n : Int} {F : Nat → Prop} {M : Nat} {G : Gr} {p : Path} {a : Nod} (l : ByteArray) (hs : l.size ≤ 70000) (hM : M ≤ 1000000) (h : TG w T S n F M G) (hp : G p = some a) (hl : kids G p l.data.toList = none) (hdep : p.length < 32) :
    Calls Tryz.prog 56 #[.pointer (some ⟨a.blk, 0, none⟩), .string l] w fun e w' => ∃ nb, e = .returned (.pointer (some ⟨nb, 0, none⟩)) ∧ Hid (GrPost w T S n F (M + 1) (p ++ [l.data.toList]) nb w') := by
  cases hbm : a.bm with
  | none => exact grow_none l hs hM h hp hbm hl hdep
  | some b => exact grow_some l hs hM h hp hbm hl hdep
theorem TG.more {w : World} {T : Nat} {S : Rw → Prop} {n : Int} {F : Nat → Prop} {M M' : Nat} {G : Gr} (h : TG w T S n F M G) (hM : M ≤ M') : TG w T S n F M' G where
  root := h.root
  par := h.par
  dep := h.dep
  sep := h.sep
  own := h.own
  foot := h.foot
  low := h.low
  row := h.row
  cell := h.cell
  bel := fun p a ha => (h.bel p a ha).keep (fun _ _ => rfl) hM
  sub := fun p a ha => (h.sub p a ha).keep (fun _ _ => rfl) hM
theorem GrPost.then {w w1 w2 : World} {T : Nat} {S : Rw → Prop} {n : Int} {F F1 : Nat → Prop} {M : Nat} {q : Path} {nb : Nat} (hext : Ext F F1 w) (hfr : Fr F w w1) (h : GrPost w1 T S n F1 M q nb w2) : GrPost w T S n F M q nb w2 := by
  obtain ⟨G', F', c, h1, h2, h3, h4, h5⟩ := h
  exact ⟨G', F', c, h1, h2, h3, hext.trans h4 hfr.size, hfr.trans' h5 (fun k hk e => by rcases hext.2 k e with h | h; exact h; omega)⟩
theorem bys_take (xs : List ByteArray) (k : Nat) (h : k < xs.length) : bys (xs.take (k + 1)) = bys (xs.take k) ++ [(xs.getD k ByteArray.empty).data.toList] := by
  unfold bys
  rw [List.take_add_one, List.map_append, List.getElem?_eq_getElem h, List.getD_eq_getElem?_getD, List.getElem?_eq_getElem h]
  rfl
set_option maxHeartbeats 4000000 in
theorem reach_any {w : World} {T : Nat} {S : Rw → Prop} {n : Int} {F : Nat → Prop} {M : Nat} {G : Gr} {p : Path} {a : Nod} (lb off cap len : Nat) (xs : List ByteArray) (hlen : xs.length = len) (hM : M + len ≤ 1000000) (hF : ¬ F lb) (hx : ∀ j, j < len → w.cell? ⟨lb, off + j, none⟩ = some (.string (xs.getD j ByteArray.empty))) (hxs : ∀ j, j < len → (xs.getD j ByteArray.empty).size ≤ 70000)
    (h : TG w T S n F M G) (hp : G p = some a) (hdep : p.length + len ≤ 32) :
    Calls Tryz.prog 37 #[.pointer (some ⟨a.blk, 0, none⟩), .slice (some ⟨lb, off, none⟩) len cap] w fun e w' => ∃ nb, e = .returned (.pointer (some ⟨nb, 0, none⟩)) ∧ Hid (GrPost w T S n F (M + len) (p ++ bys xs) nb w') := by
  have HX := hide hx
  have HXS := hide hxs
  have HLEN := hide hlen
  have HNF := hide hF
  have HSTART : Hid (GrPost w T S n F (M + 0) (p ++ bys (xs.take 0)) a.blk w) := ⟨G, F, a, h, by simpa [bys] using hp, rfl, Ext.refl _ _, Fr.refl _ _⟩
  generalize a.blk = nb0 at HSTART ⊢
  clear h hp hx hxs hlen hF
  go_enter Tryz.func37, Tryz.ntmps37
  go_wp2
  go_loopw [0, 10] (fun v i wr => ∃ (k nb : Nat), k ≤ len ∧ i = .int .i64 k ∧ v = .pointer (some ⟨nb, 0, none⟩) ∧ Hid (GrPost w T S n F (M + k) (p ++ bys (xs.take k)) nb wr)) (fun _ i _ => len - (intOf i).toNat)
  case atStart => exact ⟨0, nb0, Nat.zero_le _, rfl, rfl, HSTART⟩
  case round =>
    obtain ⟨k, nb, hk, rfl, rfl, HG⟩ := hrel
    by_cases hlt : k < len
    · obtain ⟨G', F', c, hT, hq, hcb, hext, hfr⟩ := unhide HG
      have hc := hfr.cell (unhide HNF) ((unhide HX) k hlt)
      have hsz := (unhide HXS) k hlt
      have HTK := hide (bys_take xs k (by rw [unhide HLEN]; exact hlt))
      generalize xs.getD k ByteArray.empty = x at hc hsz HTK
      have hql : (p ++ bys (xs.take k)).length < 32 := by rw [List.length_append, bys_len, List.length_take]; omega
      have HTK2 : Hid (p ++ bys (xs.take (k + 1)) = p ++ bys (xs.take k) ++ [x.data.toList]) := by show _ = _; rw [unhide HTK, List.append_assoc]
      clear HTK
      generalize p ++ bys (xs.take k) = q at hq hql HG HTK2
      obtain ⟨c0, _, _, _, hcl⟩ := hT.nod hq
      rw [hcb] at c0 hcl
      obtain ⟨D, hD, hD2⟩ := hT.bel q c hq
      have hrun := hD.kid (s := x) (by unfold maxLen; omega) (hD2 x.data.toList).2
      cases ho : kids G' q x.data.toList with
      | some nb1 =>
        rw [ho] at hrun
        simp only [kidV, Option.map_some] at hrun
        have HN : Hid (GrPost w T S n F (M + (k + 1)) (p ++ bys (xs.take (k + 1))) nb1 wr) := by
          obtain ⟨c1, hc1, e1⟩ : ∃ c1, G' (q ++ [x.data.toList]) = some c1 ∧ c1.blk = nb1 := by unfold kids at ho; simpa using ho
          refine ⟨G', F', c1, hT.more (by omega), by rw [unhide HTK2]; exact hc1, e1, hext, hfr⟩
        clear HG hT hq hcb hext hfr hD hD2 ho HTK2 hql hcl
        go_wp2
        go_roundw
        case rel => exact ⟨k + 1, nb1, by omega, by go_num, rfl, HN⟩
        case measure => simp [intOf]; omega
      | none =>
        rw [ho] at hrun
        simp only [kidV, Option.map_none] at hrun
        have HGR := hide (grow_any x hsz (by omega) hT hq ho hql)
        have HTH := hide (fun w2 nb2 => GrPost.then (w2 := w2) (nb := nb2) (T := T) (S := S) (n := n) (M := M + k + 1) (q := q ++ [x.data.toList]) hext hfr)
        rw [hcb] at HGR
        clear HG hT hq hext hfr hD hD2 ho hql hcl hsz
        go_wp2_with (go_at_call 56; refine (unhide HGR).mono ?_; rintro e w2 ⟨nb2, rfl, HG2⟩)
        have HN : Hid (GrPost w T S n F (M + (k + 1)) (p ++ bys (xs.take (k + 1))) nb2 w2) := by
          show GrPost _ _ _ _ _ _ _ _ _
          rw [unhide HTK2, ← Nat.add_assoc]
          exact (unhide HTH) w2 nb2 (unhide HG2)
        clear HG2 HTH HGR HTK2
        go_wp2
        go_roundw
        case rel => exact ⟨k + 1, nb2, by omega, by go_num, rfl, HN⟩
        case measure => simp [intOf]; omega
    · obtain rfl : k = len := by omega
      have HN : Hid (GrPost w T S n F (M + k) (p ++ bys xs) nb wr) := by
        have e := unhide HG
        rw [List.take_of_length_le (Nat.le_of_eq (unhide HLEN))] at e
        exact e
      go_wp2
      go_ret
      exact ⟨_, rfl, HN⟩
end Go.Proofs.YtdjpllmgjmnolaaGreatDoor.Y
