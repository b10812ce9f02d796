/- Proved here: the page's net in memory; contracts of its add and Put. Helper contracts. -/
import Derived.Test.YtfgelagmjjjlgaaZNPs
namespace Go.Proofs.Ytfgelagmjjjlgaa.Nt
open Go.RowKit
set_option maxRecDepth 100000

/-- the blocks of the page's net -/
def gp (r : Nat) (vl va : Value) (qs : List Mq) : List Nat := r :: (bl vl ++ (bl va ++ qs.flatMap qb))
theorem mem_gp {r : Nat} {vl va : Value} {qs : List Mq} {g : Nat} : g ∈ gp r vl va qs ↔ g = r ∨ g ∈ bl vl ∨ g ∈ bl va ∨ ∃ q ∈ qs, g ∈ qb q := by
  unfold gp
  simp [List.mem_flatMap]
/-- the page's net in memory -/
structure PSx (w : World) (B r : Nat) (vl va : Value) (qs : List Mq) (ats : List Int) : Prop where
  box : Bx w r [vl, va] 30
  low : B ≤ r
  rl : w.ownsRow B 33 11 vl qs.length (mrow qs)
  ra : w.ownsRow B 3 1 va ats.length (ats.map (Value.int .i64))
  own : ∀ q ∈ qs, MqOwn w B q
  nd : (gp r vl va qs).Nodup
theorem PSx.fr {F : Nat → Prop} {w w' : World} {B r : Nat} {vl va : Value} {qs : List Mq} {ats : List Int} (h : PSx w B r vl va qs ats) (hf : Fr F w w') (hs : ∀ g ∈ gp r vl va qs, ¬ F g) : PSx w' B r vl va qs ats :=
  ⟨h.box.fr hf (hs r (mem_gp.2 (.inl rfl))), h.low, owns_fr h.rl hf (fun g hg => hs g (mem_gp.2 (.inr (.inl (mem_bl.2 hg))))), owns_fr h.ra hf (fun g hg => hs g (mem_gp.2 (.inr (.inr (.inl (mem_bl.2 hg)))))), fun q hq => (h.own q hq).fr hf (fun g hg => hs g (mem_gp.2 (.inr (.inr (.inr ⟨q, hq, hg⟩))))), h.nd⟩
theorem PSx.below {w w' : World} {B r : Nat} {vl va : Value} {qs : List Mq} {ats : List Int} (h : PSx w B r vl va qs ats) (hb : Below w.heap.size w w') : PSx w' B r vl va qs ats := h.fr (F := fun _ => False) (Fr.of_below hb) (fun _ _ => id)
theorem PSx.lt {w : World} {B r : Nat} {vl va : Value} {qs : List Mq} {ats : List Int} (h : PSx w B r vl va qs ats) : ∀ g ∈ gp r vl va qs, B ≤ g ∧ g < w.heap.size := fun g hg => by
  rcases mem_gp.1 hg with rfl | hg | hg | ⟨q, hq, hg⟩
  · exact ⟨h.low, h.box.lt⟩
  · exact owns_blk h.rl g (mem_bl.1 hg)
  · exact owns_blk h.ra g (mem_bl.1 hg)
  · exact (h.own q hq).blk g hg
theorem gp_parts {r : Nat} {vl va : Value} {qs : List Mq} (h : (gp r vl va qs).Nodup) : (∀ g ∈ bl vl, g ≠ r ∧ g ∉ bl va ∧ g ∉ qs.flatMap qb) ∧ (∀ g ∈ bl va, g ≠ r ∧ g ∉ qs.flatMap qb) ∧ (∀ g ∈ qs.flatMap qb, g ≠ r) ∧ (qs.flatMap qb).Nodup := by
  unfold gp at h
  obtain ⟨n1, n2⟩ := List.nodup_cons.1 h
  obtain ⟨_, n4, n5⟩ := List.nodup_append.1 n2
  obtain ⟨_, n7, n8⟩ := List.nodup_append.1 n4
  refine ⟨fun g hg => ⟨fun e => n1 (by rw [← e]; exact List.mem_append.2 (.inl hg)), fun h2 => n5 g hg g (List.mem_append.2 (.inl h2)) rfl, fun h2 => n5 g hg g (List.mem_append.2 (.inr h2)) rfl⟩, fun g hg => ⟨fun e => n1 (by rw [← e]; exact List.mem_append.2 (.inr (List.mem_append.2 (.inl hg)))), fun h2 => n8 g hg g h2 rfl⟩, fun g hg e => n1 (by rw [← e]; exact List.mem_append.2 (.inr (List.mem_append.2 (.inr hg)))), n7⟩
theorem gp_of {r : Nat} {vl va : Value} {qs : List Mq} (h1 : ∀ g ∈ bl vl, g ≠ r ∧ g ∉ bl va ∧ g ∉ qs.flatMap qb) (h2 : ∀ g ∈ bl va, g ≠ r ∧ g ∉ qs.flatMap qb) (h3 : ∀ g ∈ qs.flatMap qb, g ≠ r) (h4 : (qs.flatMap qb).Nodup) : (gp r vl va qs).Nodup := by
  unfold gp
  refine List.nodup_cons.2 ⟨fun h => ?_, List.nodup_append.2 ⟨bl_nodup _, List.nodup_append.2 ⟨bl_nodup _, h4, fun x hx y hy e => ?_⟩, fun x hx y hy e => ?_⟩⟩
  · rcases List.mem_append.1 h with h | h
    · exact (h1 r h).1 rfl
    · rcases List.mem_append.1 h with h | h
      · exact (h2 r h).1 rfl
      · exact h3 r h rfl
  · subst e; exact (h2 x hx).2 hy
  · subst e
    rcases List.mem_append.1 hy with hy | hy
    · exact (h1 x hx).2.1 hy
    · exact (h1 x hx).2.2 hy
/-- a message more -/
theorem PSx.moreL {w w' : World} {B r : Nat} {vl vl' va : Value} {qs : List Mq} {ats : List Int} {p : Mq} (h : PSx w B r vl va qs ats) (hf : Fr (fun k => k = r ∨ k ∈ bl vl) w w') (hb : Bx w' r [vl', va] 30) (ho : w'.ownsRow B 33 11 vl' (qs.length + 1) (mrow qs ++ mcs p)) (hv : ∀ g ∈ bl vl', g ∈ bl vl ∨ w.heap.size ≤ g) (hp : MqOwn w' B p) (hpn : (qb p).Nodup) (hq : ∀ g ∈ qb p, w.heap.size ≤ g ∧ ∀ x ∈ bl vl', g ≠ x) : PSx w' B r vl' va (qs ++ [p]) ats := by
  obtain ⟨g1, g2, g3, g4⟩ := gp_parts h.nd
  have lt := fun g hg => (h.lt g hg).2
  have hfm : (qs ++ [p]).flatMap qb = qs.flatMap qb ++ qb p := by rw [List.flatMap_append]; simp
  have ltr : r < w.heap.size := lt r (mem_gp.2 (.inl rfl))
  have ltm : ∀ g ∈ qs.flatMap qb, g < w.heap.size := fun g hg => by
    obtain ⟨q, hq, h2⟩ := List.mem_flatMap.1 hg
    exact lt g (mem_gp.2 (.inr (.inr (.inr ⟨q, hq, h2⟩))))
  have lta : ∀ g ∈ bl va, g < w.heap.size := fun g hg => lt g (mem_gp.2 (.inr (.inr (.inl hg))))
  refine ⟨hb, h.low, by rw [mrow_app, List.length_append]; simpa [mrow] using ho, owns_fr h.ra hf (fun g hg e => ?_), fun x hx => ?_, ?_⟩
  · rcases e with e | e
    · exact (g2 g (mem_bl.2 hg)).1 e
    · exact (g1 g e).2.1 (mem_bl.2 hg)
  · rcases List.mem_append.1 hx with hx | hx
    · refine (h.own x hx).fr hf (fun g hg e => ?_)
      have hin : g ∈ qs.flatMap qb := List.mem_flatMap.2 ⟨x, hx, hg⟩
      rcases e with e | e
      · exact g3 g hin e
      · exact (g1 g e).2.2 hin
    · obtain rfl := List.mem_singleton.1 hx
      exact hp
  · refine gp_of (fun g hg => ⟨fun e => ?_, fun h2 => ?_, fun h2 => ?_⟩) (fun g hg => ⟨(g2 g hg).1, fun h2 => ?_⟩) (fun g hg => ?_) ?_
    · rcases hv g hg with k | k
      · exact (g1 g k).1 e
      · omega
    · rcases hv g hg with k | k
      · exact (g1 g k).2.1 h2
      · have := lta g h2; omega
    · rw [hfm] at h2
      rcases List.mem_append.1 h2 with h2 | h2
      · rcases hv g hg with k | k
        · exact (g1 g k).2.2 h2
        · have := ltm g h2; omega
      · exact (hq g h2).2 g hg rfl
    · rw [hfm] at h2
      rcases List.mem_append.1 h2 with h2 | h2
      · exact (g2 g hg).2 h2
      · have := (hq g h2).1; have := lta g hg; omega
    · rw [hfm] at hg
      rcases List.mem_append.1 hg with hg | hg
      · exact g3 g hg
      · have := (hq g hg).1; omega
    · rw [hfm]
      refine List.nodup_append.2 ⟨g4, hpn, fun x hx y hy e => ?_⟩
      subst e
      have := (hq x hy).1; have := ltm x hx; omega
/-- a time more -/
theorem PSx.moreA {w w' : World} {B r : Nat} {vl va va' : Value} {qs : List Mq} {ats : List Int} {z : Int} (h : PSx w B r vl va qs ats) (hf : Fr (fun k => k = r ∨ k ∈ bl va) w w') (hb : Bx w' r [vl, va'] 30) (ho : w'.ownsRow B 3 1 va' (ats.length + 1) (ats.map (Value.int .i64) ++ [.int .i64 z])) (hv : ∀ g ∈ bl va', g ∈ bl va ∨ w.heap.size ≤ g) : PSx w' B r vl va' qs (ats ++ [z]) := by
  obtain ⟨g1, g2, g3, g4⟩ := gp_parts h.nd
  have lt := fun g hg => (h.lt g hg).2
  have ltr : r < w.heap.size := lt r (mem_gp.2 (.inl rfl))
  have ltm : ∀ g ∈ qs.flatMap qb, g < w.heap.size := fun g hg => by
    obtain ⟨q, hq, h2⟩ := List.mem_flatMap.1 hg
    exact lt g (mem_gp.2 (.inr (.inr (.inr ⟨q, hq, h2⟩))))
  have ltl : ∀ g ∈ bl vl, g < w.heap.size := fun g hg => lt g (mem_gp.2 (.inr (.inl hg)))
  refine ⟨hb, h.low, owns_fr h.rl hf (fun g hg e => ?_), by rw [List.length_append, List.map_append]; exact ho, fun x hx => ?_, ?_⟩
  · rcases e with e | e
    · exact (g1 g (mem_bl.2 hg)).1 e
    · exact (g1 g (mem_bl.2 hg)).2.1 e
  · refine (h.own x hx).fr hf (fun g hg e => ?_)
    have hin : g ∈ qs.flatMap qb := List.mem_flatMap.2 ⟨x, hx, hg⟩
    rcases e with e | e
    · exact g3 g hin e
    · exact (g2 g e).2 hin
  · refine gp_of (fun g hg => ⟨(g1 g hg).1, fun h2 => ?_, (g1 g hg).2.2⟩) (fun g hg => ⟨fun e => ?_, fun h2 => ?_⟩) g3 g4
    · rcases hv g h2 with k | k
      · exact (g1 g hg).2.1 k
      · have := ltl g hg; omega
    · rcases hv g hg with k | k
      · exact (g2 g k).1 e
      · omega
    · rcases hv g hg with k | k
      · exact (g2 g k).2 h2
      · have := ltm g h2; omega
theorem Ext.trans {F F1 F2 : List Nat} {w w1 : World} (h : Ext F F1 w) (k : Ext F1 F2 w1) (hs : w.heap.size ≤ w1.heap.size) : Ext F F2 w := fun g hg => by
  rcases k g hg with e | e
  · exact h g e
  · exact .inr (Nat.le_trans hs e)
/-- what a call that puts into the page's net leaves -/
def AddIs (w : World) (B r : Nat) (vl va : Value) (qs : List Mq) (I' : List It) (w' : World) : Prop := ∃ vl' va' qs' ats', PSx w' B r vl' va' qs' ats' ∧ qs'.length = ats'.length ∧ Fr (fun k => k ∈ gp r vl va qs) w w' ∧ Ext (gp r vl va qs) (gp r vl' va' qs') w ∧ (qs'.map (·.r)).zip ats' = I'
theorem AddIs.trans {w w1 w2 : World} {B r : Nat} {vl va vl1 va1 : Value} {qs qs1 : List Mq} {I2 : List It} (hf : Fr (fun k => k ∈ gp r vl va qs) w w1) (he : Ext (gp r vl va qs) (gp r vl1 va1 qs1) w) (h : AddIs w1 B r vl1 va1 qs1 I2 w2) : AddIs w B r vl va qs I2 w2 := by
  obtain ⟨vl2, va2, qs2, ats2, h1, h0, h2, h3, h4⟩ := h
  refine ⟨vl2, va2, qs2, ats2, h1, h0, hf.trans' h2 (fun i hi hg => ?_), he.trans h3 hf.size, h4⟩
  rcases he i hg with e | e
  · exact e
  · omega
theorem AddIs.pre {w w1 w2 : World} {B r : Nat} {vl va : Value} {qs : List Mq} {I2 : List It} (hb : Below w.heap.size w w1) (h : AddIs w1 B r vl va qs I2 w2) : AddIs w B r vl va qs I2 w2 := AddIs.trans (Fr.of_below hb) (fun _ hg => .inl hg) h
set_option maxHeartbeats 8000000 in
theorem add_any (w : World) (B r : Nat) (vl va : Value) (qs : List Mq) (ats : List Int) (q : Mq) (z : Int) (h : PSx w B r vl va qs ats) (hln : qs.length = ats.length) (hq : ∀ w', Fr (fun k => k ∈ gp r vl va qs) w w' → Rok w' q) (hz : Szs q.r) :
    Calls Try.prog 33 #[.pointer (some ⟨r, 0, none⟩), .agg (mcs q).toArray, .int .i64 z] w fun e w' => e = .returned (.tuple #[]) ∧ AddIs w B r vl va qs (addI ((qs.map (·.r)).zip ats) (q.r, z)) w' := by
  obtain ⟨i0, hi, hz0, hz1, hz2⟩ := info_parts infoR
  obtain ⟨j0, ji, jz0, jz1, jz2⟩ := info_parts infoN
  have HR := hide hq
  have HZ := hide hz
  have HS := hide h
  obtain ⟨ao, cap, hv⟩ := owns_slice h.rl
  have hrn : r < w.heap.size := h.box.lt
  have hBr : B ≤ r := h.low
  subst hv
  clear hq hz h
  obtain ⟨b, hb⟩ : ∃ b, b = w.heap.size := ⟨_, rfl⟩
  obtain ⟨w1, hw1⟩ : ∃ w1, w1 = w.alloc (.cells (mcs q).toArray 33) := ⟨_, rfl⟩
  have HB1 : Hid (Below w.heap.size w w1) := by show Below _ _ _; rw [hw1]; exact (Below.refl _ _).alloc (Nat.le_refl _) _
  have HX1 : Hid (Bx w1 b (mcs q) 33) := by show Bx _ _ _ _; rw [hw1]; exact Bx.new w (mcs q) 33 b hb
  have hsz1 : b + 1 ≤ w1.heap.size := by rw [hw1, hb]; simp
  have hb1 : w.heap.size ≤ b := by omega
  have hb2 : b ≤ w.heap.size := by omega
  have hrb : r < b := by omega
  have HS1 := hide ((unhide HS).below (unhide HB1))
  have HS0 := hide (unhide HS)
  have HOLD : Hid (∀ g ∈ gp r (.slice ao qs.length cap) va qs, g < w.heap.size) := fun g hg => ((unhide HS).lt g hg).2
  have c0 := (unhide HS1).box.cell 0 _ rfl
  generalize hpl : qs.length = L at c0 HS HS1 HS0 HOLD HR ⊢
  have HPL := hide hpl
  rw [hpl] at hln
  clear hpl
  go_enter Try.func33, Try.ntmps33
  go_upto_region 1 with fail
  change Code.wp _ _ _ _ (w.alloc (.cells (mcs q).toArray 33))
  rw [← hw1, ← hb]
  have HLN := hide hln
  clear hw1 hb hln
  by_cases hlt : L < 4096
  · have hltz : (L : Int) < 4096 := by omega
    have HCP := hide (copyr_any q w1.drew ((unhide HR) _ (Fr.of_below (below_drewN (unhide HB1) 1))) (unhide HZ))
    go_upto_region 2 with fail
    have HD : Hid (Below w.heap.size w w1.drew) := below_drewN (unhide HB1) 1
    have HSd : Hid (PSx w1.drew B r (.slice ao L cap) va qs ats) := (unhide HS1).below (below_drewN (Below.refl _ _) 1)
    have HXd : Hid (Bx w1.drew b (mcs q) 33) := unhide HX1
    have C1 : Hid (w1.drew.cell? ⟨r, 0, none⟩ = some (.slice ao L cap)) := c0
    have hszd : b + 1 ≤ w1.drew.heap.size := hsz1
    clear c0
    refine wp_region_noPanic ?_
    refine wp_region_held_drew (S := fun W => W.rangeAt b 0 (mcs q)) (by kernel_rfl) (unhide HXd).range (fun hHeld => ?_)
    refine rtk 0 (h := ?_)
    refine rtk 1 (h := ?_)
    refine rtk 2 (h := ?_)
    refine rtk 3 (h := ?_)
    refine rtk 5 (v := .agg (mcs q).toArray) (hy := yieldsIf_load_mid (by rfl) 33 _ rfl b 0 rfl (mcs q) _ (fun _ h => h) Try.underlying33 rfl rpc_size) (h := ?_)
    generalize w1.drew = wd at HD HSd HXd C1 hszd HCP hHeld ⊢
    clear HB1 HX1 HS1 hsz1 HS
    refine wpAnyH_ready (rs := [4, 6]) (by kernel_rfl) (by simp) (rac (h := fun K hK => ?_) (hs := rac (h := fun K hK => ?_) (hs := AllReadyH.nil)))
    · have c4 := unhide C1
      go_simp
      refine hK.out _ _ hHeld (fun hHeld => ?_)
      clear hK K c4
      refine rcl 6 (h := fun K hK => ?_)
      go_simp
      refine (unhide HCP).mono ?_
      rintro e w2 ⟨p, rfl, hcp, hb2'⟩
      have HCPI := hide (unhide hcp)
      have HD2 : Hid (Below w.heap.size w w2) := bnx (unhide HD) hb2'
      have HX2 := hide ((unhide HXd).below hb2')
      have C2 : Hid (w2.cell? ⟨r, 0, none⟩ = some (.slice ao L cap)) := (hb2'.cell (p := ⟨r, 0, none⟩) (by show r < wd.heap.size; omega)).trans (unhide C1)
      have HS2 := hide ((unhide HSd).below hb2')
      have hsz2 : wd.heap.size ≤ w2.heap.size := hb2'.size
      clear hcp hb2' HCP HD HXd C1 HSd
      go_simp
      refine hK.out _ _ (unhide HX2).range (fun hHeld => ?_)
      clear hK K
      refine rcl 7 (h := fun K hK => ?_)
      rw [if_pos (by rfl)]
      refine wp_value (rpc_slice _ _ _ _ _ _ p rfl _) ?_
      have hal : Below w2.heap.size w2 (w2.alloc (.cells (mcs p).toArray 33)) := (Below.refl _ _).alloc (Nat.le_refl _) _
      have HP3 : Hid (Bx (w2.alloc (.cells (mcs p).toArray 33)) w2.heap.size (mcs p) 33) := Bx.new w2 (mcs p) 33 _ rfl
      have HX3 := hide ((unhide HX2).below hal)
      have HD3 : Hid (Below w.heap.size w (w2.alloc (.cells (mcs p).toArray 33))) := bnx (unhide HD2) hal
      have HS3 := hide ((unhide HS2).below hal)
      have HM3 : Hid (p.r = q.r ∧ MqOwn (w2.alloc (.cells (mcs p).toArray 33)) wd.heap.size p ∧ (qb p).Nodup) := ⟨(unhide HCPI).1, (unhide HCPI).2.1.below hal, (unhide HCPI).2.2⟩
      have hsz3 : w2.heap.size + 1 ≤ (w2.alloc (.cells (mcs p).toArray 33)).heap.size := by simp
      have HLT3 : Hid (∀ g ∈ qb p, g < w2.heap.size) := fun g hg => ((unhide HCPI).2.1.blk g hg).2
      have C3 : Hid ((w2.alloc (.cells (mcs p).toArray 33)).cell? ⟨r, 0, none⟩ = some (.slice ao L cap)) := (hal.cell (p := ⟨r, 0, none⟩) (by show r < w2.heap.size; omega)).trans (unhide C2)
      clear HCPI HX2 HD2 HS2 hal C2
      generalize w2.alloc (.cells (mcs p).toArray 33) = w3 at HP3 HX3 HD3 HS3 HM3 hsz3 C3 ⊢
      refine hK.out _ _ (unhide HX3).range (fun hHeld => ?_)
      clear hK K
      simp only [Act.put, List.setIfInBounds_toArray, List.set_cons_zero, List.set_cons_succ]
      have HFIN : Hid (∀ (v' : Value) (w4 : World), w4.ownsRow B 33 11 v' (L + 1) (mrow qs ++ mcs p) → w3.grownBy w4 (Value.slice ao L cap).ownBlock → (v'.ownBlock = (Value.slice ao L cap).ownBlock ∨ v'.ownBlock = some w3.heap.size) →
          (w4.cell? ⟨r, 0, none⟩ = some (.slice ao L cap) ∧ w4.frozen? ⟨r, 0, none⟩ = false ∧ w4.rangeAt b 0 (mcs q) ∧ (w4.setCell ⟨r, 0, none⟩ v').rangeAt b 0 (mcs q)) ∧ PSx (w4.setCell ⟨r, 0, none⟩ v') B r v' va (qs ++ [p]) ats ∧ Fr (fun k => k ∈ gp r (.slice ao L cap) va qs) w (w4.setCell ⟨r, 0, none⟩ v') ∧ Ext (gp r (.slice ao L cap) va qs) (gp r v' va (qs ++ [p])) w) := by
        intro v' w4 ho hg hat
        have HSa := unhide HS3
        obtain ⟨g1, g2, g3, g4⟩ := gp_parts HSa.nd
        have hbv : ∀ g ∈ bl (Value.slice ao L cap), g ≠ r := fun g hg => (g1 g hg).1
        have hbw : ∀ g ∈ bl (Value.slice ao L cap), g < w3.heap.size := fun g hg => (HSa.lt g (mem_gp.2 (.inr (.inl hg)))).2
        have hsw := (unhide HD3).size
        have f34 : Fr (fun k => k ∈ bl (Value.slice ao L cap)) w3 w4 := Fr.of_grown hg (fun g e => mem_bl.2 e)
        have f45 : Fr (fun k => k = r) w4 (w4.setCell ⟨r, 0, none⟩ v') := set_fr rfl
        have hnb : b ∉ bl (Value.slice ao L cap) := fun h => by
          have := (unhide HOLD) b (mem_gp.2 (.inr (.inl h))); omega
        have hbx4 : Bx w4 r [.slice ao L cap, va] 30 := HSa.box.fr f34 (fun h => hbv r h rfl)
        have hrg4 := (unhide HX3).fr f34 hnb
        have hbn' : ∀ g ∈ bl v', g ∈ bl (Value.slice ao L cap) ∨ g = w3.heap.size := fun g hg => by
          rw [mem_bl] at hg
          rcases hat with e | e
          · rw [e] at hg; exact .inl (mem_bl.2 hg)
          · rw [e] at hg; exact .inr (Option.some.inj hg).symm
        have hrv' : r ∉ bl v' := fun h => by
          rcases hbn' r h with e | e
          · exact hbv r e rfl
          · have := HSa.box.lt; omega
        have hpq : ∀ g ∈ qb p, wd.heap.size ≤ g ∧ g < w2.heap.size := fun g hg => ⟨((unhide HM3).2.1.blk g hg).1, (unhide HLT3) g hg⟩
        refine ⟨⟨hbx4.cell 0 _ rfl, hbx4.frz 0, hrg4.range, (hrg4.fr f45 (by omega)).range⟩, ?_, ?_, ?_⟩
        · have hS0 : PSx w B r (.slice ao L cap) va qs ats := unhide HS0
          have f0 : Fr (fun k => k = r ∨ k ∈ bl (Value.slice ao L cap)) w (w4.setCell ⟨r, 0, none⟩ v') := ((Fr.of_below (unhide HD3)).trans (f34.weak (fun k => .inr))).trans (f45.weak (fun k => .inl))
          refine hS0.moreL f0 (hbx4.set 0 _ (by simp)) ?_ ?_ ?_ (unhide HM3).2.2 ?_
          · rw [unhide HPL]; exact owns_fr ho f45 (fun g hg e => hrv' (by rw [← e]; exact mem_bl.2 hg))
          · intro g hg
            rcases hbn' g hg with e | e
            · exact .inl e
            · exact .inr (by omega)
          · refine (((unhide HM3).2.1.mono (by omega)).fr f34 (fun g hg h => ?_)).fr f45 (fun g hg h => ?_)
            · have := (unhide HOLD) g (mem_gp.2 (.inr (.inl h))); have := hpq g hg; omega
            · have := hpq g hg; omega
          · intro g hg
            have h1 := hpq g hg
            refine ⟨by omega, fun x hx e => ?_⟩
            rcases hbn' x hx with h | h
            · have := (unhide HOLD) x (mem_gp.2 (.inr (.inl h))); omega
            · omega
        · exact ((Fr.of_below (unhide HD3)).trans (f34.weak (fun k hk => mem_gp.2 (.inr (.inl hk))))).trans (f45.weak (fun k hk => mem_gp.2 (.inl hk)))
        · intro g hg
          rcases mem_gp.1 hg with e | h9 | h9 | ⟨x, hx, h9⟩
          · exact .inl (mem_gp.2 (.inl e))
          · rcases hbn' g h9 with e | e
            · exact .inl (mem_gp.2 (.inr (.inl e)))
            · exact .inr (by omega)
          · exact .inl (mem_gp.2 (.inr (.inr (.inl h9))))
          · rcases List.mem_append.1 hx with hx | hx
            · exact .inl (mem_gp.2 (.inr (.inr (.inr ⟨x, hx, h9⟩))))
            · rw [List.mem_singleton.1 hx] at h9
              have := hpq g h9
              exact .inr (by omega)
      have hb3 : B ≤ w3.heap.size := by have := (unhide HD3).size; omega
      have hrow3 : w3.ownsRow B 33 11 (.slice ao L cap) L (mrow qs) := by have := (unhide HS3).rl; rw [unhide HPL] at this; exact this
      have HRW3 := hide hrow3
      have HPQ := hide (unhide HM3).1
      clear hrow3 HS3 HM3 HLT3
      refine rcl 8 (h := fun K hK => ?_)
      rw [if_pos (by rfl)]
      refine wp_append_at _ _ _ 27 rfl B 33 i0 _ 11 128 Try.underlying27 hi hz0 hz1 hz2 rfl (by decide) _ L (mrow qs) rfl (unhide HRW3) ⟨w2.heap.size, 0, none⟩ 1 1 (mcs p) rfl rfl (mcs_cells (unhide HP3)) (mcs_one _) (by unfold maxLen; omega) (by omega) hb3 ?_
      intro v' w4 hown hgrow hat
      obtain ⟨a9, c9, rfl⟩ := owns_slice hown
      obtain ⟨⟨c7, f7, rg7, rg8⟩, hps, hfr, hex⟩ := (unhide HFIN) _ w4 hown hgrow hat
      have HPS := hide hps
      have HFR := hide hfr
      have HEX := hide hex
      have RG8 := hide rg8
      clear hown hgrow hat hps hfr hex rg8 HFIN HRW3 HP3 HX3 HD3 C3
      simp only [Act.put, List.setIfInBounds_toArray, List.set_cons_zero, List.set_cons_succ]
      refine hK.out _ _ rg7 (fun hHeld => ?_)
      clear hK K
      refine rtk 9 (h := ?_)
      refine rtk 10 (h := ?_)
      refine rcl 11 (h := fun K hK => ?_)
      go_simp
      refine hK.out _ _ (unhide RG8) (fun hHeld => ?_)
      clear hK K
      refine wpAnyH_done (by kernel_rfl) ?_ _
      refine NoPanic.normal ?_
      clear c7 f7 rg7 RG8 hHeld
      generalize w4.setCell ⟨r, 0, none⟩ (.slice a9 (L + 1) c9) = w5 at HPS HFR HEX ⊢
      generalize (Value.slice a9 (L + 1) c9) = vl' at HPS HEX
      obtain ⟨aa, ca, hva⟩ := owns_slice (unhide HPS).ra
      subst hva
      have c1 := (unhide HPS).box.cell 1 _ rfl
      have hw5 := (unhide HFR).size
      have HLA : Hid (ats.length = L) := (unhide HLN).symm
      generalize hal : ats.length = A at c1 HPS HFR HEX HS0 HOLD HLA ⊢
      have HAL := hide hal
      have hA : A ≤ 4096 := by have := unhide HLA; omega
      clear hal
      go_wp2_with (first
        | (at_builtin; refine wpList_append_own_at _ rfl _ _ 28 rfl B 3 j0 _ 1 8 Try.underlying28 ji jz0 jz1 jz2 rfl (by decide) _ A (ats.map (Value.int .i64)) rfl (by have := (unhide HPS).ra; rw [unhide HAL] at this; exact this.alloc _) ⟨w5.heap.size, 0, none⟩ 1 1 [.int .i64 z] rfl rfl (one_cell _ _ _) (one_one _ _) (by unfold maxLen; omega) (by omega) (by simp; omega) ?_)
        | go_in)
      intro v6 w6 hown hgrow _ hat
      obtain ⟨a8, c8, rfl⟩ := owns_slice hown
      have f56 : Fr (fun k => k ∈ bl (Value.slice aa A ca)) w5 w6 := (Fr.alloc _ _ _).trans (Fr.of_grown hgrow (fun g e => mem_bl.2 e))
      obtain ⟨g1, g2, g3, g4⟩ := gp_parts (unhide HPS).nd
      have hbx6 : Bx w6 r [vl', .slice aa A ca] 30 := (unhide HPS).box.fr f56 (fun h => (g2 r h).1 rfl)
      have c6 := hbx6.cell 1 _ rfl
      have f6 := hbx6.frz 1
      have hbn' : ∀ g ∈ bl (Value.slice a8 (A + 1) c8), g ∈ bl (Value.slice aa A ca) ∨ w5.heap.size ≤ g := fun g hg => by
        rw [mem_bl] at hg
        rcases hat with e | e
        · rw [e] at hg; exact .inl (mem_bl.2 hg)
        · rw [e] at hg
          have h9 := Option.some.inj hg
          first | exact .inr (by omega) | (simp at h9; exact .inr (by omega))
      have hrv : r ∉ bl (Value.slice a8 (A + 1) c8) := fun h => by
        rcases hbn' r h with e | e
        · exact (g2 r e).1 rfl
        · have := (unhide HPS).box.lt; omega
      have f67 : Fr (fun k => k = r) w6 (w6.setCell ⟨r, 1, none⟩ (.slice a8 (A + 1) c8)) := set_fr rfl
      have HPS7 : Hid (PSx (w6.setCell ⟨r, 1, none⟩ (.slice a8 (A + 1) c8)) B r vl' (.slice a8 (A + 1) c8) (qs ++ [p]) (ats ++ [z])) := by
        refine (unhide HPS).moreA ((f56.weak (fun k => .inr)).trans (f67.weak (fun k => .inl))) (hbx6.set 1 _ (by simp)) ?_ hbn'
        rw [unhide HAL]
        exact owns_fr hown f67 (fun g hg e => hrv (by rw [← e]; exact mem_bl.2 hg))
      have HFR7 : Hid (Fr (fun k => k ∈ gp r (.slice ao L cap) (.slice aa A ca) qs) w (w6.setCell ⟨r, 1, none⟩ (.slice a8 (A + 1) c8))) := (unhide HFR).trans' (((f56.weak (fun k => Or.inr)).trans (f67.weak (fun k => Or.inl))) : Fr (fun k => k = r ∨ k ∈ bl (Value.slice aa A ca)) w5 _) (fun i hi hg => hg.elim (fun e => mem_gp.2 (.inl e)) (fun e => mem_gp.2 (.inr (.inr (.inl e)))))
      have HEX7 : Hid (Ext (gp r (.slice ao L cap) (.slice aa A ca) qs) (gp r vl' (.slice a8 (A + 1) c8) (qs ++ [p])) w) := fun g hg => by
        rcases mem_gp.1 hg with e | hg | hg | hg
        · exact (unhide HEX) g (mem_gp.2 (.inl e))
        · exact (unhide HEX) g (mem_gp.2 (.inr (.inl hg)))
        · rcases hbn' g hg with e | e
          · exact (unhide HEX) g (mem_gp.2 (.inr (.inr (.inl e))))
          · exact .inr (by omega)
        · exact (unhide HEX) g (mem_gp.2 (.inr (.inr (.inr hg))))
      clear hown hgrow hat hbx6 hbn' hrv f67 f56 g1 g2 g3 g4 HPS HFR HEX HS0 HOLD
      go_wp2
      go_end0
      refine ⟨rfl, ?_⟩
      rw [unhide HAL]
      refine ⟨_, _, _, _, unhide HPS7, by rw [List.length_append, List.length_append, unhide HPL, unhide HAL, unhide HLA]; rfl, unhide HFR7, unhide HEX7, ?_⟩
      have hzl : ((qs.map (·.r)).zip ats).length < 4096 := by rw [List.length_zip, List.length_map, unhide HPL]; omega
      unfold addI
      rw [if_pos hzl, List.map_append, List.zip_append (by rw [List.length_map, unhide HPL, unhide HAL, unhide HLA])]
      simp [unhide HPQ]
    · go_simp
      refine (unhide HCP).mono ?_
      rintro e w2 ⟨p, rfl, hcp, hb2'⟩
      have HCPI := hide (unhide hcp)
      have HD2 : Hid (Below w.heap.size w w2) := bnx (unhide HD) hb2'
      have HX2 := hide ((unhide HXd).below hb2')
      have C2 : Hid (w2.cell? ⟨r, 0, none⟩ = some (.slice ao L cap)) := (hb2'.cell (p := ⟨r, 0, none⟩) (by show r < wd.heap.size; omega)).trans (unhide C1)
      have HS2 := hide ((unhide HSd).below hb2')
      have hsz2 : wd.heap.size ≤ w2.heap.size := hb2'.size
      clear hcp hb2' HCP HD HXd C1 HSd
      go_simp
      refine hK.out _ _ (unhide HX2).range (fun hHeld => ?_)
      clear hK K
      refine wpAnyH_ready (rs := [4, 7]) (by kernel_rfl) (by simp) (rac (h := fun K hK => ?_) (hs := rac (h := fun K hK => ?_) (hs := AllReadyH.nil)))
      · have c4 := unhide C2
        go_simp
        refine hK.out _ _ hHeld (fun hHeld => ?_)
        clear hK K c4
        refine rcl 7 (h := fun K hK => ?_)
        rw [if_pos (by rfl)]
        refine wp_value (rpc_slice _ _ _ _ _ _ p rfl _) ?_
        have hal : Below w2.heap.size w2 (w2.alloc (.cells (mcs p).toArray 33)) := (Below.refl _ _).alloc (Nat.le_refl _) _
        have HP3 : Hid (Bx (w2.alloc (.cells (mcs p).toArray 33)) w2.heap.size (mcs p) 33) := Bx.new w2 (mcs p) 33 _ rfl
        have HX3 := hide ((unhide HX2).below hal)
        have HD3 : Hid (Below w.heap.size w (w2.alloc (.cells (mcs p).toArray 33))) := bnx (unhide HD2) hal
        have HS3 := hide ((unhide HS2).below hal)
        have HM3 : Hid (p.r = q.r ∧ MqOwn (w2.alloc (.cells (mcs p).toArray 33)) wd.heap.size p ∧ (qb p).Nodup) := ⟨(unhide HCPI).1, (unhide HCPI).2.1.below hal, (unhide HCPI).2.2⟩
        have hsz3 : w2.heap.size + 1 ≤ (w2.alloc (.cells (mcs p).toArray 33)).heap.size := by simp
        have HLT3 : Hid (∀ g ∈ qb p, g < w2.heap.size) := fun g hg => ((unhide HCPI).2.1.blk g hg).2
        have C3 : Hid ((w2.alloc (.cells (mcs p).toArray 33)).cell? ⟨r, 0, none⟩ = some (.slice ao L cap)) := (hal.cell (p := ⟨r, 0, none⟩) (by show r < w2.heap.size; omega)).trans (unhide C2)
        clear HCPI HX2 HD2 HS2 hal C2
        generalize w2.alloc (.cells (mcs p).toArray 33) = w3 at HP3 HX3 HD3 HS3 HM3 hsz3 C3 ⊢
        refine hK.out _ _ (unhide HX3).range (fun hHeld => ?_)
        clear hK K
        simp only [Act.put, List.setIfInBounds_toArray, List.set_cons_zero, List.set_cons_succ]
        have HFIN : Hid (∀ (v' : Value) (w4 : World), w4.ownsRow B 33 11 v' (L + 1) (mrow qs ++ mcs p) → w3.grownBy w4 (Value.slice ao L cap).ownBlock → (v'.ownBlock = (Value.slice ao L cap).ownBlock ∨ v'.ownBlock = some w3.heap.size) →
            (w4.cell? ⟨r, 0, none⟩ = some (.slice ao L cap) ∧ w4.frozen? ⟨r, 0, none⟩ = false ∧ w4.rangeAt b 0 (mcs q) ∧ (w4.setCell ⟨r, 0, none⟩ v').rangeAt b 0 (mcs q)) ∧ PSx (w4.setCell ⟨r, 0, none⟩ v') B r v' va (qs ++ [p]) ats ∧ Fr (fun k => k ∈ gp r (.slice ao L cap) va qs) w (w4.setCell ⟨r, 0, none⟩ v') ∧ Ext (gp r (.slice ao L cap) va qs) (gp r v' va (qs ++ [p])) w) := by
          intro v' w4 ho hg hat
          have HSa := unhide HS3
          obtain ⟨g1, g2, g3, g4⟩ := gp_parts HSa.nd
          have hbv : ∀ g ∈ bl (Value.slice ao L cap), g ≠ r := fun g hg => (g1 g hg).1
          have hbw : ∀ g ∈ bl (Value.slice ao L cap), g < w3.heap.size := fun g hg => (HSa.lt g (mem_gp.2 (.inr (.inl hg)))).2
          have hsw := (unhide HD3).size
          have f34 : Fr (fun k => k ∈ bl (Value.slice ao L cap)) w3 w4 := Fr.of_grown hg (fun g e => mem_bl.2 e)
          have f45 : Fr (fun k => k = r) w4 (w4.setCell ⟨r, 0, none⟩ v') := set_fr rfl
          have hnb : b ∉ bl (Value.slice ao L cap) := fun h => by
            have := (unhide HOLD) b (mem_gp.2 (.inr (.inl h))); omega
          have hbx4 : Bx w4 r [.slice ao L cap, va] 30 := HSa.box.fr f34 (fun h => hbv r h rfl)
          have hrg4 := (unhide HX3).fr f34 hnb
          have hbn' : ∀ g ∈ bl v', g ∈ bl (Value.slice ao L cap) ∨ g = w3.heap.size := fun g hg => by
            rw [mem_bl] at hg
            rcases hat with e | e
            · rw [e] at hg; exact .inl (mem_bl.2 hg)
            · rw [e] at hg; exact .inr (Option.some.inj hg).symm
          have hrv' : r ∉ bl v' := fun h => by
            rcases hbn' r h with e | e
            · exact hbv r e rfl
            · have := HSa.box.lt; omega
          have hpq : ∀ g ∈ qb p, wd.heap.size ≤ g ∧ g < w2.heap.size := fun g hg => ⟨((unhide HM3).2.1.blk g hg).1, (unhide HLT3) g hg⟩
          refine ⟨⟨hbx4.cell 0 _ rfl, hbx4.frz 0, hrg4.range, (hrg4.fr f45 (by omega)).range⟩, ?_, ?_, ?_⟩
          · have hS0 : PSx w B r (.slice ao L cap) va qs ats := unhide HS0
            have f0 : Fr (fun k => k = r ∨ k ∈ bl (Value.slice ao L cap)) w (w4.setCell ⟨r, 0, none⟩ v') := ((Fr.of_below (unhide HD3)).trans (f34.weak (fun k => .inr))).trans (f45.weak (fun k => .inl))
            refine hS0.moreL f0 (hbx4.set 0 _ (by simp)) ?_ ?_ ?_ (unhide HM3).2.2 ?_
            · rw [unhide HPL]; exact owns_fr ho f45 (fun g hg e => hrv' (by rw [← e]; exact mem_bl.2 hg))
            · intro g hg
              rcases hbn' g hg with e | e
              · exact .inl e
              · exact .inr (by omega)
            · refine (((unhide HM3).2.1.mono (by omega)).fr f34 (fun g hg h => ?_)).fr f45 (fun g hg h => ?_)
              · have := (unhide HOLD) g (mem_gp.2 (.inr (.inl h))); have := hpq g hg; omega
              · have := hpq g hg; omega
            · intro g hg
              have h1 := hpq g hg
              refine ⟨by omega, fun x hx e => ?_⟩
              rcases hbn' x hx with h | h
              · have := (unhide HOLD) x (mem_gp.2 (.inr (.inl h))); omega
              · omega
          · exact ((Fr.of_below (unhide HD3)).trans (f34.weak (fun k hk => mem_gp.2 (.inr (.inl hk))))).trans (f45.weak (fun k hk => mem_gp.2 (.inl hk)))
          · intro g hg
            rcases mem_gp.1 hg with e | h9 | h9 | ⟨x, hx, h9⟩
            · exact .inl (mem_gp.2 (.inl e))
            · rcases hbn' g h9 with e | e
              · exact .inl (mem_gp.2 (.inr (.inl e)))
              · exact .inr (by omega)
            · exact .inl (mem_gp.2 (.inr (.inr (.inl h9))))
            · rcases List.mem_append.1 hx with hx | hx
              · exact .inl (mem_gp.2 (.inr (.inr (.inr ⟨x, hx, h9⟩))))
              · rw [List.mem_singleton.1 hx] at h9
                have := hpq g h9
                exact .inr (by omega)
        have hb3 : B ≤ w3.heap.size := by have := (unhide HD3).size; omega
        have hrow3 : w3.ownsRow B 33 11 (.slice ao L cap) L (mrow qs) := by have := (unhide HS3).rl; rw [unhide HPL] at this; exact this
        have HRW3 := hide hrow3
        have HPQ := hide (unhide HM3).1
        clear hrow3 HS3 HM3 HLT3
        refine rcl 8 (h := fun K hK => ?_)
        rw [if_pos (by rfl)]
        refine wp_append_at _ _ _ 27 rfl B 33 i0 _ 11 128 Try.underlying27 hi hz0 hz1 hz2 rfl (by decide) _ L (mrow qs) rfl (unhide HRW3) ⟨w2.heap.size, 0, none⟩ 1 1 (mcs p) rfl rfl (mcs_cells (unhide HP3)) (mcs_one _) (by unfold maxLen; omega) (by omega) hb3 ?_
        intro v' w4 hown hgrow hat
        obtain ⟨a9, c9, rfl⟩ := owns_slice hown
        obtain ⟨⟨c7, f7, rg7, rg8⟩, hps, hfr, hex⟩ := (unhide HFIN) _ w4 hown hgrow hat
        have HPS := hide hps
        have HFR := hide hfr
        have HEX := hide hex
        have RG8 := hide rg8
        clear hown hgrow hat hps hfr hex rg8 HFIN HRW3 HP3 HX3 HD3 C3
        simp only [Act.put, List.setIfInBounds_toArray, List.set_cons_zero, List.set_cons_succ]
        refine hK.out _ _ rg7 (fun hHeld => ?_)
        clear hK K
        refine rtk 9 (h := ?_)
        refine rtk 10 (h := ?_)
        refine rcl 11 (h := fun K hK => ?_)
        go_simp
        refine hK.out _ _ (unhide RG8) (fun hHeld => ?_)
        clear hK K
        refine wpAnyH_done (by kernel_rfl) ?_ _
        refine NoPanic.normal ?_
        clear c7 f7 rg7 RG8 hHeld
        generalize w4.setCell ⟨r, 0, none⟩ (.slice a9 (L + 1) c9) = w5 at HPS HFR HEX ⊢
        generalize (Value.slice a9 (L + 1) c9) = vl' at HPS HEX
        obtain ⟨aa, ca, hva⟩ := owns_slice (unhide HPS).ra
        subst hva
        have c1 := (unhide HPS).box.cell 1 _ rfl
        have hw5 := (unhide HFR).size
        have HLA : Hid (ats.length = L) := (unhide HLN).symm
        generalize hal : ats.length = A at c1 HPS HFR HEX HS0 HOLD HLA ⊢
        have HAL := hide hal
        have hA : A ≤ 4096 := by have := unhide HLA; omega
        clear hal
        go_wp2_with (first
          | (at_builtin; refine wpList_append_own_at _ rfl _ _ 28 rfl B 3 j0 _ 1 8 Try.underlying28 ji jz0 jz1 jz2 rfl (by decide) _ A (ats.map (Value.int .i64)) rfl (by have := (unhide HPS).ra; rw [unhide HAL] at this; exact this.alloc _) ⟨w5.heap.size, 0, none⟩ 1 1 [.int .i64 z] rfl rfl (one_cell _ _ _) (one_one _ _) (by unfold maxLen; omega) (by omega) (by simp; omega) ?_)
          | go_in)
        intro v6 w6 hown hgrow _ hat
        obtain ⟨a8, c8, rfl⟩ := owns_slice hown
        have f56 : Fr (fun k => k ∈ bl (Value.slice aa A ca)) w5 w6 := (Fr.alloc _ _ _).trans (Fr.of_grown hgrow (fun g e => mem_bl.2 e))
        obtain ⟨g1, g2, g3, g4⟩ := gp_parts (unhide HPS).nd
        have hbx6 : Bx w6 r [vl', .slice aa A ca] 30 := (unhide HPS).box.fr f56 (fun h => (g2 r h).1 rfl)
        have c6 := hbx6.cell 1 _ rfl
        have f6 := hbx6.frz 1
        have hbn' : ∀ g ∈ bl (Value.slice a8 (A + 1) c8), g ∈ bl (Value.slice aa A ca) ∨ w5.heap.size ≤ g := fun g hg => by
          rw [mem_bl] at hg
          rcases hat with e | e
          · rw [e] at hg; exact .inl (mem_bl.2 hg)
          · rw [e] at hg
            have h9 := Option.some.inj hg
            first | exact .inr (by omega) | (simp at h9; exact .inr (by omega))
        have hrv : r ∉ bl (Value.slice a8 (A + 1) c8) := fun h => by
          rcases hbn' r h with e | e
          · exact (g2 r e).1 rfl
          · have := (unhide HPS).box.lt; omega
        have f67 : Fr (fun k => k = r) w6 (w6.setCell ⟨r, 1, none⟩ (.slice a8 (A + 1) c8)) := set_fr rfl
        have HPS7 : Hid (PSx (w6.setCell ⟨r, 1, none⟩ (.slice a8 (A + 1) c8)) B r vl' (.slice a8 (A + 1) c8) (qs ++ [p]) (ats ++ [z])) := by
          refine (unhide HPS).moreA ((f56.weak (fun k => .inr)).trans (f67.weak (fun k => .inl))) (hbx6.set 1 _ (by simp)) ?_ hbn'
          rw [unhide HAL]
          exact owns_fr hown f67 (fun g hg e => hrv (by rw [← e]; exact mem_bl.2 hg))
        have HFR7 : Hid (Fr (fun k => k ∈ gp r (.slice ao L cap) (.slice aa A ca) qs) w (w6.setCell ⟨r, 1, none⟩ (.slice a8 (A + 1) c8))) := (unhide HFR).trans' (((f56.weak (fun k => Or.inr)).trans (f67.weak (fun k => Or.inl))) : Fr (fun k => k = r ∨ k ∈ bl (Value.slice aa A ca)) w5 _) (fun i hi hg => hg.elim (fun e => mem_gp.2 (.inl e)) (fun e => mem_gp.2 (.inr (.inr (.inl e)))))
        have HEX7 : Hid (Ext (gp r (.slice ao L cap) (.slice aa A ca) qs) (gp r vl' (.slice a8 (A + 1) c8) (qs ++ [p])) w) := fun g hg => by
          rcases mem_gp.1 hg with e | hg | hg | hg
          · exact (unhide HEX) g (mem_gp.2 (.inl e))
          · exact (unhide HEX) g (mem_gp.2 (.inr (.inl hg)))
          · rcases hbn' g hg with e | e
            · exact (unhide HEX) g (mem_gp.2 (.inr (.inr (.inl e))))
            · exact .inr (by omega)
          · exact (unhide HEX) g (mem_gp.2 (.inr (.inr (.inr hg))))
        clear hown hgrow hat hbx6 hbn' hrv f67 f56 g1 g2 g3 g4 HPS HFR HEX HS0 HOLD
        go_wp2
        go_end0
        refine ⟨rfl, ?_⟩
        rw [unhide HAL]
        refine ⟨_, _, _, _, unhide HPS7, by rw [List.length_append, List.length_append, unhide HPL, unhide HAL, unhide HLA]; rfl, unhide HFR7, unhide HEX7, ?_⟩
        have hzl : ((qs.map (·.r)).zip ats).length < 4096 := by rw [List.length_zip, List.length_map, unhide HPL]; omega
        unfold addI
        rw [if_pos hzl, List.map_append, List.zip_append (by rw [List.length_map, unhide HPL, unhide HAL, unhide HLA])]
        simp [unhide HPQ]
      · rw [if_pos (by rfl)]
        refine wp_value (rpc_slice _ _ _ _ _ _ p rfl _) ?_
        have hal : Below w2.heap.size w2 (w2.alloc (.cells (mcs p).toArray 33)) := (Below.refl _ _).alloc (Nat.le_refl _) _
        have HP3 : Hid (Bx (w2.alloc (.cells (mcs p).toArray 33)) w2.heap.size (mcs p) 33) := Bx.new w2 (mcs p) 33 _ rfl
        have HX3 := hide ((unhide HX2).below hal)
        have HD3 : Hid (Below w.heap.size w (w2.alloc (.cells (mcs p).toArray 33))) := bnx (unhide HD2) hal
        have HS3 := hide ((unhide HS2).below hal)
        have HM3 : Hid (p.r = q.r ∧ MqOwn (w2.alloc (.cells (mcs p).toArray 33)) wd.heap.size p ∧ (qb p).Nodup) := ⟨(unhide HCPI).1, (unhide HCPI).2.1.below hal, (unhide HCPI).2.2⟩
        have hsz3 : w2.heap.size + 1 ≤ (w2.alloc (.cells (mcs p).toArray 33)).heap.size := by simp
        have HLT3 : Hid (∀ g ∈ qb p, g < w2.heap.size) := fun g hg => ((unhide HCPI).2.1.blk g hg).2
        have C3 : Hid ((w2.alloc (.cells (mcs p).toArray 33)).cell? ⟨r, 0, none⟩ = some (.slice ao L cap)) := (hal.cell (p := ⟨r, 0, none⟩) (by show r < w2.heap.size; omega)).trans (unhide C2)
        clear HCPI HX2 HD2 HS2 hal C2
        generalize w2.alloc (.cells (mcs p).toArray 33) = w3 at HP3 HX3 HD3 HS3 HM3 hsz3 C3 ⊢
        refine hK.out _ _ (unhide HX3).range (fun hHeld => ?_)
        clear hK K
        simp only [Act.put, List.setIfInBounds_toArray, List.set_cons_zero, List.set_cons_succ]
        refine rcl 4 (h := fun K hK => ?_)
        have c4 := unhide C3
        go_simp
        refine hK.out _ _ hHeld (fun hHeld => ?_)
        clear hK K c4
        have HFIN : Hid (∀ (v' : Value) (w4 : World), w4.ownsRow B 33 11 v' (L + 1) (mrow qs ++ mcs p) → w3.grownBy w4 (Value.slice ao L cap).ownBlock → (v'.ownBlock = (Value.slice ao L cap).ownBlock ∨ v'.ownBlock = some w3.heap.size) →
            (w4.cell? ⟨r, 0, none⟩ = some (.slice ao L cap) ∧ w4.frozen? ⟨r, 0, none⟩ = false ∧ w4.rangeAt b 0 (mcs q) ∧ (w4.setCell ⟨r, 0, none⟩ v').rangeAt b 0 (mcs q)) ∧ PSx (w4.setCell ⟨r, 0, none⟩ v') B r v' va (qs ++ [p]) ats ∧ Fr (fun k => k ∈ gp r (.slice ao L cap) va qs) w (w4.setCell ⟨r, 0, none⟩ v') ∧ Ext (gp r (.slice ao L cap) va qs) (gp r v' va (qs ++ [p])) w) := by
          intro v' w4 ho hg hat
          have HSa := unhide HS3
          obtain ⟨g1, g2, g3, g4⟩ := gp_parts HSa.nd
          have hbv : ∀ g ∈ bl (Value.slice ao L cap), g ≠ r := fun g hg => (g1 g hg).1
          have hbw : ∀ g ∈ bl (Value.slice ao L cap), g < w3.heap.size := fun g hg => (HSa.lt g (mem_gp.2 (.inr (.inl hg)))).2
          have hsw := (unhide HD3).size
          have f34 : Fr (fun k => k ∈ bl (Value.slice ao L cap)) w3 w4 := Fr.of_grown hg (fun g e => mem_bl.2 e)
          have f45 : Fr (fun k => k = r) w4 (w4.setCell ⟨r, 0, none⟩ v') := set_fr rfl
          have hnb : b ∉ bl (Value.slice ao L cap) := fun h => by
            have := (unhide HOLD) b (mem_gp.2 (.inr (.inl h))); omega
          have hbx4 : Bx w4 r [.slice ao L cap, va] 30 := HSa.box.fr f34 (fun h => hbv r h rfl)
          have hrg4 := (unhide HX3).fr f34 hnb
          have hbn' : ∀ g ∈ bl v', g ∈ bl (Value.slice ao L cap) ∨ g = w3.heap.size := fun g hg => by
            rw [mem_bl] at hg
            rcases hat with e | e
            · rw [e] at hg; exact .inl (mem_bl.2 hg)
            · rw [e] at hg; exact .inr (Option.some.inj hg).symm
          have hrv' : r ∉ bl v' := fun h => by
            rcases hbn' r h with e | e
            · exact hbv r e rfl
            · have := HSa.box.lt; omega
          have hpq : ∀ g ∈ qb p, wd.heap.size ≤ g ∧ g < w2.heap.size := fun g hg => ⟨((unhide HM3).2.1.blk g hg).1, (unhide HLT3) g hg⟩
          refine ⟨⟨hbx4.cell 0 _ rfl, hbx4.frz 0, hrg4.range, (hrg4.fr f45 (by omega)).range⟩, ?_, ?_, ?_⟩
          · have hS0 : PSx w B r (.slice ao L cap) va qs ats := unhide HS0
            have f0 : Fr (fun k => k = r ∨ k ∈ bl (Value.slice ao L cap)) w (w4.setCell ⟨r, 0, none⟩ v') := ((Fr.of_below (unhide HD3)).trans (f34.weak (fun k => .inr))).trans (f45.weak (fun k => .inl))
            refine hS0.moreL f0 (hbx4.set 0 _ (by simp)) ?_ ?_ ?_ (unhide HM3).2.2 ?_
            · rw [unhide HPL]; exact owns_fr ho f45 (fun g hg e => hrv' (by rw [← e]; exact mem_bl.2 hg))
            · intro g hg
              rcases hbn' g hg with e | e
              · exact .inl e
              · exact .inr (by omega)
            · refine (((unhide HM3).2.1.mono (by omega)).fr f34 (fun g hg h => ?_)).fr f45 (fun g hg h => ?_)
              · have := (unhide HOLD) g (mem_gp.2 (.inr (.inl h))); have := hpq g hg; omega
              · have := hpq g hg; omega
            · intro g hg
              have h1 := hpq g hg
              refine ⟨by omega, fun x hx e => ?_⟩
              rcases hbn' x hx with h | h
              · have := (unhide HOLD) x (mem_gp.2 (.inr (.inl h))); omega
              · omega
          · exact ((Fr.of_below (unhide HD3)).trans (f34.weak (fun k hk => mem_gp.2 (.inr (.inl hk))))).trans (f45.weak (fun k hk => mem_gp.2 (.inl hk)))
          · intro g hg
            rcases mem_gp.1 hg with e | h9 | h9 | ⟨x, hx, h9⟩
            · exact .inl (mem_gp.2 (.inl e))
            · rcases hbn' g h9 with e | e
              · exact .inl (mem_gp.2 (.inr (.inl e)))
              · exact .inr (by omega)
            · exact .inl (mem_gp.2 (.inr (.inr (.inl h9))))
            · rcases List.mem_append.1 hx with hx | hx
              · exact .inl (mem_gp.2 (.inr (.inr (.inr ⟨x, hx, h9⟩))))
              · rw [List.mem_singleton.1 hx] at h9
                have := hpq g h9
                exact .inr (by omega)
        have hb3 : B ≤ w3.heap.size := by have := (unhide HD3).size; omega
        have hrow3 : w3.ownsRow B 33 11 (.slice ao L cap) L (mrow qs) := by have := (unhide HS3).rl; rw [unhide HPL] at this; exact this
        have HRW3 := hide hrow3
        have HPQ := hide (unhide HM3).1
        clear hrow3 HS3 HM3 HLT3
        refine rcl 8 (h := fun K hK => ?_)
        rw [if_pos (by rfl)]
        refine wp_append_at _ _ _ 27 rfl B 33 i0 _ 11 128 Try.underlying27 hi hz0 hz1 hz2 rfl (by decide) _ L (mrow qs) rfl (unhide HRW3) ⟨w2.heap.size, 0, none⟩ 1 1 (mcs p) rfl rfl (mcs_cells (unhide HP3)) (mcs_one _) (by unfold maxLen; omega) (by omega) hb3 ?_
        intro v' w4 hown hgrow hat
        obtain ⟨a9, c9, rfl⟩ := owns_slice hown
        obtain ⟨⟨c7, f7, rg7, rg8⟩, hps, hfr, hex⟩ := (unhide HFIN) _ w4 hown hgrow hat
        have HPS := hide hps
        have HFR := hide hfr
        have HEX := hide hex
        have RG8 := hide rg8
        clear hown hgrow hat hps hfr hex rg8 HFIN HRW3 HP3 HX3 HD3 C3
        simp only [Act.put, List.setIfInBounds_toArray, List.set_cons_zero, List.set_cons_succ]
        refine hK.out _ _ rg7 (fun hHeld => ?_)
        clear hK K
        refine rtk 9 (h := ?_)
        refine rtk 10 (h := ?_)
        refine rcl 11 (h := fun K hK => ?_)
        go_simp
        refine hK.out _ _ (unhide RG8) (fun hHeld => ?_)
        clear hK K
        refine wpAnyH_done (by kernel_rfl) ?_ _
        refine NoPanic.normal ?_
        clear c7 f7 rg7 RG8 hHeld
        generalize w4.setCell ⟨r, 0, none⟩ (.slice a9 (L + 1) c9) = w5 at HPS HFR HEX ⊢
        generalize (Value.slice a9 (L + 1) c9) = vl' at HPS HEX
        obtain ⟨aa, ca, hva⟩ := owns_slice (unhide HPS).ra
        subst hva
        have c1 := (unhide HPS).box.cell 1 _ rfl
        have hw5 := (unhide HFR).size
        have HLA : Hid (ats.length = L) := (unhide HLN).symm
        generalize hal : ats.length = A at c1 HPS HFR HEX HS0 HOLD HLA ⊢
        have HAL := hide hal
        have hA : A ≤ 4096 := by have := unhide HLA; omega
        clear hal
        go_wp2_with (first
          | (at_builtin; refine wpList_append_own_at _ rfl _ _ 28 rfl B 3 j0 _ 1 8 Try.underlying28 ji jz0 jz1 jz2 rfl (by decide) _ A (ats.map (Value.int .i64)) rfl (by have := (unhide HPS).ra; rw [unhide HAL] at this; exact this.alloc _) ⟨w5.heap.size, 0, none⟩ 1 1 [.int .i64 z] rfl rfl (one_cell _ _ _) (one_one _ _) (by unfold maxLen; omega) (by omega) (by simp; omega) ?_)
          | go_in)
        intro v6 w6 hown hgrow _ hat
        obtain ⟨a8, c8, rfl⟩ := owns_slice hown
        have f56 : Fr (fun k => k ∈ bl (Value.slice aa A ca)) w5 w6 := (Fr.alloc _ _ _).trans (Fr.of_grown hgrow (fun g e => mem_bl.2 e))
        obtain ⟨g1, g2, g3, g4⟩ := gp_parts (unhide HPS).nd
        have hbx6 : Bx w6 r [vl', .slice aa A ca] 30 := (unhide HPS).box.fr f56 (fun h => (g2 r h).1 rfl)
        have c6 := hbx6.cell 1 _ rfl
        have f6 := hbx6.frz 1
        have hbn' : ∀ g ∈ bl (Value.slice a8 (A + 1) c8), g ∈ bl (Value.slice aa A ca) ∨ w5.heap.size ≤ g := fun g hg => by
          rw [mem_bl] at hg
          rcases hat with e | e
          · rw [e] at hg; exact .inl (mem_bl.2 hg)
          · rw [e] at hg
            have h9 := Option.some.inj hg
            first | exact .inr (by omega) | (simp at h9; exact .inr (by omega))
        have hrv : r ∉ bl (Value.slice a8 (A + 1) c8) := fun h => by
          rcases hbn' r h with e | e
          · exact (g2 r e).1 rfl
          · have := (unhide HPS).box.lt; omega
        have f67 : Fr (fun k => k = r) w6 (w6.setCell ⟨r, 1, none⟩ (.slice a8 (A + 1) c8)) := set_fr rfl
        have HPS7 : Hid (PSx (w6.setCell ⟨r, 1, none⟩ (.slice a8 (A + 1) c8)) B r vl' (.slice a8 (A + 1) c8) (qs ++ [p]) (ats ++ [z])) := by
          refine (unhide HPS).moreA ((f56.weak (fun k => .inr)).trans (f67.weak (fun k => .inl))) (hbx6.set 1 _ (by simp)) ?_ hbn'
          rw [unhide HAL]
          exact owns_fr hown f67 (fun g hg e => hrv (by rw [← e]; exact mem_bl.2 hg))
        have HFR7 : Hid (Fr (fun k => k ∈ gp r (.slice ao L cap) (.slice aa A ca) qs) w (w6.setCell ⟨r, 1, none⟩ (.slice a8 (A + 1) c8))) := (unhide HFR).trans' (((f56.weak (fun k => Or.inr)).trans (f67.weak (fun k => Or.inl))) : Fr (fun k => k = r ∨ k ∈ bl (Value.slice aa A ca)) w5 _) (fun i hi hg => hg.elim (fun e => mem_gp.2 (.inl e)) (fun e => mem_gp.2 (.inr (.inr (.inl e)))))
        have HEX7 : Hid (Ext (gp r (.slice ao L cap) (.slice aa A ca) qs) (gp r vl' (.slice a8 (A + 1) c8) (qs ++ [p])) w) := fun g hg => by
          rcases mem_gp.1 hg with e | hg | hg | hg
          · exact (unhide HEX) g (mem_gp.2 (.inl e))
          · exact (unhide HEX) g (mem_gp.2 (.inr (.inl hg)))
          · rcases hbn' g hg with e | e
            · exact (unhide HEX) g (mem_gp.2 (.inr (.inr (.inl e))))
            · exact .inr (by omega)
          · exact (unhide HEX) g (mem_gp.2 (.inr (.inr (.inr hg))))
        clear hown hgrow hat hbx6 hbn' hrv f67 f56 g1 g2 g3 g4 HPS HFR HEX HS0 HOLD
        go_wp2
        go_end0
        refine ⟨rfl, ?_⟩
        rw [unhide HAL]
        refine ⟨_, _, _, _, unhide HPS7, by rw [List.length_append, List.length_append, unhide HPL, unhide HAL, unhide HLA]; rfl, unhide HFR7, unhide HEX7, ?_⟩
        have hzl : ((qs.map (·.r)).zip ats).length < 4096 := by rw [List.length_zip, List.length_map, unhide HPL]; omega
        unfold addI
        rw [if_pos hzl, List.map_append, List.zip_append (by rw [List.length_map, unhide HPL, unhide HAL, unhide HLA])]
        simp [unhide HPQ]
  · have hltz : ¬ (L : Int) < 4096 := by omega
    go_wp2
    go_end0
    refine ⟨rfl, _, _, qs, ats, unhide HS1, (unhide HPL).trans (unhide HLN), Fr.of_below (unhide HB1), fun g hg => .inl hg, ?_⟩
    unfold addI
    rw [if_neg (by rw [List.length_zip, List.length_map, unhide HPL, ← unhide HLN]; omega)]
end Go.Proofs.Ytfgelagmjjjlgaa.Nt
