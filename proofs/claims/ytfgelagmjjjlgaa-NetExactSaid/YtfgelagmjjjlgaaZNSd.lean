/- Proved here: the contract of net's send: a message of one's own, with its rows copied, at the end of the row of parcels, if there is room. Helper contract. -/
import Derived.Test.YtfgelagmjjjlgaaZNNt
import Derived.Maps.AppendAt
namespace Go.Proofs.Ytfgelagmjjjlgaa.Nt
open Go.RowKit
set_option maxRecDepth 100000

theorem par_build (a : Act) (dst : Option Tmp) (x y z : Operand) (ty : TypeId) (pos : String) (after : Array Edge) (q : Mq) (t d : Int) (hx : a.eval x = .agg (mcs q).toArray) (hy : a.eval y = .int .i64 t) (hz : a.eval z = .int .i64 d) (w : World) :
    (execOp a.eval ⟨dst, .build 53 #[(0, x), (1, y), (2, z)], ty, pos, after, none⟩).run Try.prog w = .ok (.value (.agg (pcs ⟨q, t, d⟩).toArray)) w := by
  unfold execOp
  simp only [List.map_toArray, List.map_cons, List.map_nil, hx, hy, hz]
  kernel_rfl
theorem par_slice (a : Act) (dst : Option Tmp) (x : Operand) (ty : TypeId) (pos : String) (after : Array Edge) (p : Pc) (hx : a.eval x = .agg (pcs p).toArray) (w : World) :
    (execOp a.eval ⟨dst, .buildSlice 48 1 #[(0, x)], ty, pos, after, none⟩).run Try.prog w = .ok (.value (.slice (some ⟨w.heap.size, 0, none⟩) 1 1)) (w.alloc (.cells (pcs p).toArray 53)) := by
  unfold execOp
  simp only [List.map_toArray, List.map_cons, List.map_nil, hx]
  kernel_rfl
theorem wp_value {P : Program} {o : Oper} {a : Act} {w w' : World} {v : Value} {K : Act → World → Prop} {Q : Exit → Act → World → Prop} (hr : (execOp a.eval o).run P w = .ok (.value v) w') (h : K (a.put o.dst v) w') : o.wp P a w K Q := by
  unfold Oper.wp; rw [hr]; exact h
theorem pcs_cells {w : World} {b : Nat} {p : Pc} {t : TypeId} (h : Bx w b (pcs p) t) : ∀ j u, (pcs p)[j]? = some u → w.cell? ((⟨b, 0, none⟩ : Addr).add j) = some u := fun j u hu => by
  rw [Addr.add_mid, Nat.zero_add]
  exact h.cell j u hu
/-- a net with one parcel more -/
theorem NS.more {w w' : World} {B n : Nat} {v v' : Value} {ps : List Pc} {p : Pc} (h : NS w B n v ps) (hf : Fr (fun k => k = n ∨ k ∈ bl v) w w') (hb : Bx w' n [v'] 50) (ho : w'.ownsRow B 53 13 v' (ps.length + 1) (prow ps ++ pcs p)) (hv : ∀ g ∈ bl v', g ∈ bl v ∨ w.heap.size ≤ g) (hp : MqOwn w' B p.q) (hpn : (qb p.q).Nodup) (hq : ∀ g ∈ qb p.q, w.heap.size ≤ g ∧ ∀ x ∈ bl v', g ≠ x) (hk : Pok p) : NS w' B n v' (ps ++ [p]) := by
  obtain ⟨n1, n2⟩ := List.nodup_cons.1 h.nd
  obtain ⟨n3, n4, n5⟩ := List.nodup_append.1 n2
  have one : (bl v').Nodup := by unfold bl; cases v'.ownBlock <;> simp
  refine ⟨hb, h.low, by rw [prow_app, List.length_append]; simpa [prow] using ho, ?_, ?_, ?_⟩
  · intro x hx
    rcases List.mem_append.1 hx with hx | hx
    · refine (h.own x hx).fr hf (fun g hg e => ?_)
      have hin : g ∈ ps.flatMap pb := List.mem_flatMap.2 ⟨x, hx, hg⟩
      rcases e with e | e
      · subst e; exact n1 (List.mem_append.2 (.inr hin))
      · exact n5 g e g hin rfl
    · obtain rfl := List.mem_singleton.1 hx
      exact hp
  · intro x hx
    rcases List.mem_append.1 hx with hx | hx
    · exact h.ok x hx
    · obtain rfl := List.mem_singleton.1 hx
      exact hk
  · unfold fp
    have lt := fun g hg => (h.lt g hg).2
    refine List.nodup_cons.2 ⟨fun hin => ?_, List.nodup_append.2 ⟨one, ?_, ?_⟩⟩
    · rw [List.flatMap_append] at hin
      rcases List.mem_append.1 hin with hin | hin
      · rcases hv n hin with e | e
        · exact n1 (List.mem_append.2 (.inl e))
        · have := lt n (mem_fp.2 (.inl rfl)); omega
      · rcases List.mem_append.1 hin with hin | hin
        · exact n1 (List.mem_append.2 (.inr hin))
        · have h2 : n ∈ qb p.q := by simpa [pb] using hin
          have := (hq n h2).1
          have := lt n (mem_fp.2 (.inl rfl)); omega
    · rw [List.flatMap_append]
      refine List.nodup_append.2 ⟨n4, by simpa [pb] using hpn, fun x hx y hy e => ?_⟩
      subst e
      have h2 : x ∈ qb p.q := by simpa [pb] using hy
      have := (hq x h2).1
      obtain ⟨z, hz, hxz⟩ := List.mem_flatMap.1 hx
      have := lt x (mem_fp.2 (.inr (.inr ⟨z, hz, hxz⟩))); omega
    · intro x hx y hy e
      subst e
      rw [List.flatMap_append] at hy
      rcases List.mem_append.1 hy with hy | hy
      · rcases hv x hx with e | e
        · exact n5 x e x hy rfl
        · obtain ⟨z, hz, hxz⟩ := List.mem_flatMap.1 hy
          have := lt x (mem_fp.2 (.inr (.inr ⟨z, hz, hxz⟩))); omega
      · have h2 : x ∈ qb p.q := by simpa [pb] using hy
        exact (hq x h2).2 x hx rfl
theorem wp_append_at (w : World) {o : Oper} {a : Act} {K : Act → World → Prop} {Q : Exit → Act → World → Prop} (s x : Operand) (t : TypeId)
    (ho : o.op = .call { callee := .builtin .append, args := #[s, x], argTypes := #[t, t] })
    (base : Nat) (e : TypeId) (i : TypeInfo) (z : Value) (size bytes : Nat) (ht : Try.prog.underlying t = some (.slice e)) (hi : Try.prog.info? e = some i) (hz : i.zero = some z)
    (hsize : i.size = size) (hby : i.bytes = bytes) (hzs : z.cells.size = size) (hsz : 0 < size)
    (v : Value) (n : Nat) (xs : List Value) (hs : a.eval s = v) (hown : w.ownsRow base e size v n xs)
    (ad : Addr) (m c : Nat) (news : List Value) (hx : a.eval x = .slice (some ad) m c) (hl : news.length = m * size) (hnews : ∀ j u, news[j]? = some u → w.cell? (ad.add j) = some u) (h1 : ∀ u ∈ news, u.oneCell' = true)
    (h63 : n + m ≤ maxLen) (hbytes : (n + m) * bytes ≤ 140737488355328) (hbase : base ≤ w.heap.size)
    (h : ∀ v' w', w'.ownsRow base e size v' (n + m) (xs ++ news) → w.grownBy w' v.ownBlock → (v'.ownBlock = v.ownBlock ∨ v'.ownBlock = some w.heap.size) → K (a.put o.dst v') w') : o.wp Try.prog a w K Q := by
  obtain ⟨v', w', hr, h2, h3, _, h5⟩ := run_append_own_at (P := Try.prog) w base t o.type e i z size bytes ht hi hz hsize hby hzs hsz v n xs hown ad m c news hl hnews h1 h63 hbytes hbase
  unfold Oper.wp execOp
  simp only [ho, resolve, invoke, builtin, Sem.run_bind, Sem.run_pure, Result.andThen_ok, List.map_toArray, List.map_cons, List.map_nil, hs, hx, hr]
  exact h v' w' h2 h3 h5
/-- what a call that puts leaves -/
def SendIs (w : World) (B n : Nat) (v : Value) (ps : List Pc) (I' : List It) (w' : World) : Prop := ∃ v' ps', NS w' B n v' ps' ∧ Fr (fun k => k ∈ fp n v ps) w w' ∧ Ext (fp n v ps) (fp n v' ps') w ∧ ps'.map it = I'
theorem SendIs.trans {w w1 w2 : World} {B n : Nat} {v v1 : Value} {ps ps1 : List Pc} {I2 : List It} (hf : Fr (fun k => k ∈ fp n v ps) w w1) (he : Ext (fp n v ps) (fp n v1 ps1) w) (h : SendIs w1 B n v1 ps1 I2 w2) : SendIs w B n v ps I2 w2 := by
  obtain ⟨v2, ps2, h1, h2, h3, h4⟩ := h
  refine ⟨v2, ps2, h1, hf.trans' h2 (fun i hi hg => ?_), fun g hg => ?_, h4⟩
  · rcases he i hg with e | e
    · exact e
    · omega
  · rcases h3 g hg with e | e
    · exact he g e
    · exact .inr (Nat.le_trans hf.size e)
theorem SendIs.pre {w w1 w2 : World} {B n : Nat} {v : Value} {ps : List Pc} {I2 : List It} (hb : Below w.heap.size w w1) (h : SendIs w1 B n v ps I2 w2) : SendIs w B n v ps I2 w2 := SendIs.trans (Fr.of_below hb) (fun _ hg => .inl hg) h
set_option maxHeartbeats 8000000 in
theorem send_any (w : World) (B n : Nat) (v : Value) (ps : List Pc) (q : Mq) (now delay : Int) (h : NS w B n v ps) (hq : Rok w q) (hz : Szs q.r) (h0 : 0 ≤ now) (h1 : now ≤ 1099511627776) (hd : 1 ≤ delay) (hd2 : delay ≤ 9) :
    Calls Try.prog 31 #[.pointer (some ⟨n, 0, none⟩), .agg (mcs q).toArray, .int .i64 now, .int .i64 delay] w fun e w' => e = .returned (.tuple #[]) ∧ SendIs w B n v ps (addI (ps.map it) (q.r, now + delay)) w' := by
  obtain ⟨i0, hi, hz0, hz1, hz2⟩ := info_parts infoPc
  have HR := hide hq
  have HZ := hide hz
  have HS := hide h
  have HKO : Hid (0 ≤ now ∧ now ≤ 1099511627776 ∧ 1 ≤ delay ∧ delay ≤ 9) := ⟨h0, h1, hd, hd2⟩
  obtain ⟨ao, cap, hv⟩ := h.shape
  have hbn : n < w.heap.size := h.box.lt
  have hBn : B ≤ n := h.low
  subst hv
  clear hq hz h h0 h1 hd hd2
  obtain ⟨b, hb⟩ : ∃ b, b = w.heap.size := ⟨_, rfl⟩
  obtain ⟨w1, hw1⟩ : ∃ w1, w1 = w.alloc (.cells (mcs q).toArray 33) := ⟨_, rfl⟩
  have HB1 : Hid (Below w.heap.size w w1) := by show Below _ _ _; rw [hw1]; exact (Below.refl _ _).alloc (Nat.le_refl _) _
  have HX1 : Hid (Bx w1 b (mcs q) 33) := by show Bx _ _ _ _; rw [hw1]; exact Bx.new w (mcs q) 33 b hb
  have hsz1 : b + 1 ≤ w1.heap.size := by rw [hw1, hb]; simp
  have hb1 : w.heap.size ≤ b := by omega
  have hb2 : b ≤ w.heap.size := by omega
  have hbn2 : n < b := by omega
  have HS1 := hide ((unhide HS).below (unhide HB1))
  have c0 := (unhide HS1).box.cell 0 _ rfl
  go_enter Try.func31, Try.ntmps31
  go_upto_region 1 with fail
  change Code.wp _ _ _ _ (w.alloc (.cells (mcs q).toArray 33))
  rw [← hw1, ← hb]
  clear hw1 hb
  by_cases hlt : ps.length < 4096
  · have hge : decide (((ps.length : Nat) : Int) ≥ 4096) = false := decide_eq_false (by omega)
    have c8 := (unhide HX1).cell 8 q.es.v rfl
    go_wp2_with fail
    refine (clone_v _ q.r.ents w1 ((unhide HR).1.below (unhide HB1)) (unhide HZ).1).mono ?_
    rintro e w2 ⟨v2, rfl, ho, hb⟩
    obtain ⟨a2, c2, rfl⟩ := owns_slice (unhide ho)
    have HO := hide (unhide ho)
    have hsz2 := hb.size
    have HX2 := hide ((unhide HX1).below hb)
    have HB2 : Hid (Below w.heap.size w w2) := bnx (unhide HB1) hb
    clear hb ho c8 c0 HX1 HB1 HS1 hge
    have c8 := (unhide HX2).cell 8 q.es.v rfl
    have f8 := (unhide HX2).frz 8
    go_upto_region 3 with fail
    have hfr : Fr (fun k => k = b) w2 (w2.setCell ⟨b, 8, none⟩ (.slice a2 q.r.ents.length c2)) := set_fr rfl
    have HX3 : Hid (Bx (w2.setCell ⟨b, 8, none⟩ (.slice a2 q.r.ents.length c2)) b (mcs ⟨q.r, ⟨a2, q.r.ents.length, c2⟩, q.ms⟩) 33) := (unhide HX2).set 8 _ (by rw [mcs_len]; omega)
    have HB3 : Hid (Below w.heap.size w (w2.setCell ⟨b, 8, none⟩ (.slice a2 q.r.ents.length c2))) := Fr.bel (unhide HB2) hfr (fun i hi => by omega) (unhide HB2).size
    have HO3 := hide (owns_fr (unhide HO) hfr (fun g hg => by have := (owns_blk (unhide HO) g hg).1; omega))
    have hsz3 := hfr.size
    generalize w2.setCell ⟨b, 8, none⟩ (.slice a2 q.r.ents.length c2) = w3 at HX3 HB3 HO3 hsz3 ⊢
    clear hfr c8 f8 HX2 HB2 HO
    have c9 := (unhide HX3).cell 9 q.ms.v rfl
    go_wp2_with fail
    refine (clonei_v _ q.r.mems w3 ((unhide HR).2.below (unhide HB3)) (unhide HZ).2).mono ?_
    rintro e w4 ⟨v4, rfl, ho, hb⟩
    obtain ⟨a4, c4, rfl⟩ := owns_slice (unhide ho)
    have HM := hide (unhide ho)
    have HX4 := hide ((unhide HX3).below hb)
    have HB4 : Hid (Below w.heap.size w w4) := bnx (unhide HB3) hb
    have HO4 := hide (owns_below (unhide HO3) hb)
    have HN4 : Hid ((bl (Value.slice a2 q.r.ents.length c2) ++ bl (Value.slice a4 q.r.mems.length c4)).Nodup) := nodup2 (fun g hg => owns_blk (unhide HO3) g (mem_bl.1 hg)) (fun g hg => owns_blk (unhide HM) g (mem_bl.1 hg)) (Nat.le_refl _)
    have hsz4 := hb.size
    clear hb ho c9 HX3 HB3 HO3
    have c9 := (unhide HX4).cell 9 q.ms.v rfl
    have f9 := (unhide HX4).frz 9
    go_upto_region 4 with fail
    have hfr : Fr (fun k => k = b) w4 (w4.setCell ⟨b, 9, none⟩ (.slice a4 q.r.mems.length c4)) := set_fr rfl
    have HX5 : Hid (Bx (w4.setCell ⟨b, 9, none⟩ (.slice a4 q.r.mems.length c4)) b (mcs ⟨q.r, ⟨a2, q.r.ents.length, c2⟩, ⟨a4, q.r.mems.length, c4⟩⟩) 33) := (unhide HX4).set 9 _ (by rw [mcs_len]; omega)
    have HB5 : Hid (Below w.heap.size w (w4.setCell ⟨b, 9, none⟩ (.slice a4 q.r.mems.length c4))) := Fr.bel (unhide HB4) hfr (fun i hi => by omega) (unhide HB4).size
    have HP5 : Hid (MqOwn (w4.setCell ⟨b, 9, none⟩ (.slice a4 q.r.mems.length c4)) (b + 1) ⟨q.r, ⟨a2, q.r.ents.length, c2⟩, ⟨a4, q.r.mems.length, c4⟩⟩) := ⟨owns_mono (owns_fr (unhide HO4) hfr (fun g hg => by have := (owns_blk (unhide HO4) g hg).1; omega)) (by omega), owns_mono (owns_fr (unhide HM) hfr (fun g hg => by have := (owns_blk (unhide HM) g hg).1; omega)) (by omega), unhide HZ⟩
    have hq5 : (⟨q.r, ⟨a2, q.r.ents.length, c2⟩, ⟨a4, q.r.mems.length, c4⟩⟩ : Mq).r = q.r := rfl
    have HN5 : Hid ((qb ⟨q.r, ⟨a2, q.r.ents.length, c2⟩, ⟨a4, q.r.mems.length, c4⟩⟩).Nodup) := unhide HN4
    have hsz5 := hfr.size
    generalize w4.setCell ⟨b, 9, none⟩ (.slice a4 q.r.mems.length c4) = w5 at HX5 HB5 HP5 hsz5 ⊢
    generalize (⟨q.r, ⟨a2, q.r.ents.length, c2⟩, ⟨a4, q.r.mems.length, c4⟩⟩ : Mq) = p at HX5 HP5 HN5 hq5
    have HQ5 := hide hq5
    clear hfr c9 f9 HX4 HB4 HO4 HM HN4 hq5
    have HS5 := hide ((unhide HS).below (unhide HB5))
    generalize hpl : ps.length = L at hlt ⊢
    have HPL := hide hpl
    have hrow5 := (unhide HS5).row
    rw [unhide HPL] at hrow5
    have HRW := hide hrow5
    have c5 : w5.cell? ⟨n, 0, none⟩ = some (.slice ao L cap) := by have := (unhide HS5).box.cell 0 _ rfl; rw [unhide HPL] at this; exact this
    have C5 := hide c5
    clear hpl hrow5 c5
    refine wp_region_noPanic ?_
    refine wp_region_held_drew (S := fun W => W.rangeAt b 0 (mcs p)) (by kernel_rfl) (unhide HX5).range (fun hHeld => ?_)
    refine rtk 0 (h := ?_)
    refine rtk 1 (h := ?_)
    refine rtk 2 (h := ?_)
    refine rtk 3 (h := ?_)
    refine rtk 5 (v := .agg (mcs p).toArray) (hy := yieldsIf_load_mid (by rfl) 33 _ rfl b 0 rfl (mcs p) _ (fun _ h => h) Try.underlying33 rfl rpc_size) (h := ?_)
    refine rtk 6 (h := ?_)
    refine rtk 7 (h := ?_)
    refine rtk 8 (v := .agg (pcs ⟨p, now, delay⟩).toArray) (hy := Or.inl ⟨by rfl, fun W _ => par_build _ _ _ _ _ _ _ _ p now delay rfl rfl rfl W⟩) (h := ?_)
    have hal : Below w5.heap.size w5 (w5.drew.alloc (.cells (pcs ⟨p, now, delay⟩).toArray 53)) := (below_drewN (Below.refl _ w5) 1).alloc (Nat.le_refl _) _
    have HX6 : Hid (Bx (w5.drew.alloc (.cells (pcs ⟨p, now, delay⟩).toArray 53)) w5.heap.size (pcs ⟨p, now, delay⟩) 53) := Bx.new w5.drew _ 53 _ rfl
    have HR6 : Hid ((w5.drew.alloc (.cells (pcs ⟨p, now, delay⟩).toArray 53)).ownsRow B 53 13 (.slice ao L cap) L (prow ps)) := (owns_drewN (unhide HRW) 1).alloc _
    have HA6 := hide hal
    have hsz6 : w5.heap.size + 1 ≤ (w5.drew.alloc (.cells (pcs ⟨p, now, delay⟩).toArray 53)).heap.size := by simp
    have HRG6 : Hid ((w5.drew.alloc (.cells (pcs ⟨p, now, delay⟩).toArray 53)).rangeAt b 0 (mcs p)) := range_below (unhide HX5).range hal
    have C6 : Hid ((w5.drew.alloc (.cells (pcs ⟨p, now, delay⟩).toArray 53)).cell? ⟨n, 0, none⟩ = some (.slice ao L cap)) := (hal.cell (p := ⟨n, 0, none⟩) (by show n < w5.heap.size; omega)).trans (unhide C5)
    clear hal
    have HFIN : Hid (∀ (v' : Value) (w6 w7 : World), w6 = w5.drew.alloc (.cells (pcs ⟨p, now, delay⟩).toArray 53) → w7.ownsRow B 53 13 v' (L + 1) (prow ps ++ pcs ⟨p, now, delay⟩) → w6.grownBy w7 (Value.slice ao L cap).ownBlock → (v'.ownBlock = (Value.slice ao L cap).ownBlock ∨ v'.ownBlock = some w6.heap.size) →
        (w7.cell? ⟨n, 0, none⟩ = some (.slice ao L cap) ∧ w7.frozen? ⟨n, 0, none⟩ = false ∧ w7.rangeAt b 0 (mcs p) ∧ (w7.setCell ⟨n, 0, none⟩ v').rangeAt b 0 (mcs p)) ∧ SendIs w B n (.slice ao L cap) ps (addI (ps.map it) (q.r, now + delay)) (w7.setCell ⟨n, 0, none⟩ v')) := by
      intro v' w6 w7 e6 ho hg hat
      subst e6
      have HSa := unhide HS
      rw [unhide HPL] at HSa
      obtain ⟨n1, n2⟩ := List.nodup_cons.1 HSa.nd
      have hbv : ∀ g ∈ bl (Value.slice ao L cap), g < w.heap.size := fun g hg => (HSa.lt g (mem_fp.2 (.inr (.inl hg)))).2
      have hnv : n ∉ bl (Value.slice ao L cap) := fun h => n1 (List.mem_append.2 (.inl h))
      have f67 : Fr (fun k => k ∈ bl (Value.slice ao L cap)) (w5.drew.alloc (.cells (pcs ⟨p, now, delay⟩).toArray 53)) w7 := Fr.of_grown hg (fun g e => mem_bl.2 e)
      have f06 : Fr (fun k => k = n ∨ k ∈ bl (Value.slice ao L cap)) w (w5.drew.alloc (.cells (pcs ⟨p, now, delay⟩).toArray 53)) := Fr.of_below (bnx (unhide HB5) (unhide HA6))
      have f78 : Fr (fun k => k = n) w7 (w7.setCell ⟨n, 0, none⟩ v') := set_fr rfl
      have hbx7 : Bx w7 n [.slice ao L cap] 50 := (HSa.box.below (bnx (unhide HB5) (unhide HA6))).fr f67 hnv
      have hrg7 : w7.rangeAt b 0 (mcs p) := ((unhide HX5).below (unhide HA6)).fr f67 (fun h => by have := hbv b h; omega) |>.range
      have hbn' : ∀ g ∈ bl v', g ∈ bl (Value.slice ao L cap) ∨ g = (w5.drew.alloc (.cells (pcs ⟨p, now, delay⟩).toArray 53)).heap.size := fun g hg => by
        rw [mem_bl] at hg
        rcases hat with e | e
        · rw [e] at hg; exact .inl (mem_bl.2 hg)
        · rw [e] at hg; exact .inr (Option.some.inj hg).symm
      have hnv' : n ∉ bl v' := fun h => by
        rcases hbn' n h with e | e
        · exact hnv e
        · omega
      have hpb : ∀ g ∈ qb p, w5.heap.size > g ∧ b + 1 ≤ g := fun g hg => by
        obtain ⟨h1, h2⟩ := (unhide HP5).blk g hg
        exact ⟨h2, h1⟩
      refine ⟨⟨hbx7.cell 0 _ rfl, hbx7.frz 0, hrg7, (((unhide HX5).below (unhide HA6)).fr f67 (fun h => by have := hbv b h; omega)).fr f78 (by omega) |>.range⟩, v', ps ++ [⟨p, now, delay⟩], ?_, ?_, ?_, ?_⟩
      · refine HSa.more (w' := w7.setCell ⟨n, 0, none⟩ v') (p := ⟨p, now, delay⟩) ((f06.trans (f67.weak (fun k => .inr))).trans (f78.weak (fun k => .inl))) (hbx7.set 0 _ (by simp)) ?_ ?_ ?_ (unhide HN5) ?_ (unhide HKO)
        · rw [unhide HPL]; exact owns_fr ho f78 (fun g hg e => hnv' (by rw [← e]; exact mem_bl.2 hg))
        · intro g hg
          rcases hbn' g hg with e | e
          · exact .inl e
          · exact .inr (by omega)
        · refine ((((unhide HP5).mono (by omega)).below (unhide HA6)).fr f67 (fun g hg h => ?_)).fr f78 (fun g hg h => ?_)
          · have := hpb g hg; have := hbv g h; omega
          · have := hpb g hg; omega
        · intro g hg
          have := hpb g hg
          refine ⟨by omega, fun x hx e => ?_⟩
          rcases hbn' x hx with h | h
          · have := hbv x h; omega
          · omega
      · exact ((f06.trans (f67.weak (fun k => .inr))).trans (f78.weak (fun k => .inl))).weak (fun k hk => mem_fp.2 (hk.imp id (fun h => .inl h)))
      · intro g hg
        rcases mem_fp.1 hg with rfl | hg | ⟨x, hx, hg⟩
        · exact .inl (mem_fp.2 (.inl rfl))
        · rcases hbn' g hg with e | e
          · exact .inl (mem_fp.2 (.inr (.inl e)))
          · exact .inr (by omega)
        · rcases List.mem_append.1 hx with hx | hx
          · exact .inl (mem_fp.2 (.inr (.inr ⟨x, hx, hg⟩)))
          · obtain rfl := List.mem_singleton.1 hx
            have := hpb g hg
            exact .inr (by omega)
      · have hl : (ps.map it).length < 4096 := by rw [List.length_map, unhide HPL]; exact hlt
        unfold addI
        rw [if_pos hl, List.map_append]
        simp [it, unhide HQ5]
    refine wpAnyH_ready (rs := [4, 9]) (by kernel_rfl) (by simp) (rac (h := fun K hK => ?_) (hs := rac (h := fun K hK => ?_) (hs := AllReadyH.nil)))
    · have c4 := unhide C5
      go_simp
      refine hK.out _ _ hHeld (fun hHeld => ?_)
      clear hK K c4
      refine rcl 9 (h := fun K hK => ?_)
      rw [if_pos (by rfl)]
      refine wp_value (par_slice _ _ _ _ _ _ ⟨p, now, delay⟩ rfl _) ?_
      generalize w5.drew.alloc (.cells (pcs ⟨p, now, delay⟩).toArray 53) = w6 at HX6 HR6 HRG6 C6 HFIN HA6 hsz6 ⊢
      refine hK.out _ _ (unhide HRG6) (fun hHeld => ?_)
      clear hK K
      simp only [Act.put, List.setIfInBounds_toArray, List.set_cons_zero, List.set_cons_succ]
      refine rcl 10 (h := fun K hK => ?_)
      rw [if_pos (by rfl)]
      have hb6 : B ≤ w6.heap.size := by omega
      refine wp_append_at _ _ _ 48 rfl B 53 i0 _ 13 144 Try.underlying48 hi hz0 hz1 hz2 rfl (by decide) _ L (prow ps) rfl (unhide HR6) ⟨w5.heap.size, 0, none⟩ 1 1 (pcs ⟨p, now, delay⟩) rfl rfl (pcs_cells (unhide HX6)) (pcs_one _) (by unfold maxLen; omega) (by omega) hb6 ?_
      intro v' w7 hown hgrow hat
      obtain ⟨a9, c9, rfl⟩ := owns_slice hown
      obtain ⟨⟨c7, f7, rg7, rg8⟩, hfin⟩ := (unhide HFIN) _ _ w7 rfl hown hgrow hat
      have HF := hide hfin
      have RG8 := hide rg8
      clear hown hgrow hat hfin rg8 HFIN
      simp only [Act.put, List.setIfInBounds_toArray, List.set_cons_zero, List.set_cons_succ]
      refine hK.out _ _ rg7 (fun hHeld => ?_)
      clear hK K
      refine rtk 11 (h := ?_)
      refine rtk 12 (h := ?_)
      refine rcl 13 (h := fun K hK => ?_)
      go_simp
      refine hK.out _ _ (unhide RG8) (fun hHeld => ?_)
      clear hK K
      refine wpAnyH_done (by kernel_rfl) ?_ _
      refine NoPanic.normal ?_
      go_wp2
      go_end0
      refine ⟨rfl, ?_⟩
      rw [unhide HPL]
      exact unhide HF
    · rw [if_pos (by rfl)]
      refine wp_value (par_slice _ _ _ _ _ _ ⟨p, now, delay⟩ rfl _) ?_
      generalize w5.drew.alloc (.cells (pcs ⟨p, now, delay⟩).toArray 53) = w6 at HX6 HR6 HRG6 C6 HFIN HA6 hsz6 ⊢
      refine hK.out _ _ (unhide HRG6) (fun hHeld => ?_)
      clear hK K
      simp only [Act.put, List.setIfInBounds_toArray, List.set_cons_zero, List.set_cons_succ]
      refine rcl 4 (h := fun K hK => ?_)
      have c4 := unhide C6
      go_simp
      refine hK.out _ _ hHeld (fun hHeld => ?_)
      clear hK K c4
      refine rcl 10 (h := fun K hK => ?_)
      rw [if_pos (by rfl)]
      have hb6 : B ≤ w6.heap.size := by omega
      refine wp_append_at _ _ _ 48 rfl B 53 i0 _ 13 144 Try.underlying48 hi hz0 hz1 hz2 rfl (by decide) _ L (prow ps) rfl (unhide HR6) ⟨w5.heap.size, 0, none⟩ 1 1 (pcs ⟨p, now, delay⟩) rfl rfl (pcs_cells (unhide HX6)) (pcs_one _) (by unfold maxLen; omega) (by omega) hb6 ?_
      intro v' w7 hown hgrow hat
      obtain ⟨a9, c9, rfl⟩ := owns_slice hown
      obtain ⟨⟨c7, f7, rg7, rg8⟩, hfin⟩ := (unhide HFIN) _ _ w7 rfl hown hgrow hat
      have HF := hide hfin
      have RG8 := hide rg8
      clear hown hgrow hat hfin rg8 HFIN
      simp only [Act.put, List.setIfInBounds_toArray, List.set_cons_zero, List.set_cons_succ]
      refine hK.out _ _ rg7 (fun hHeld => ?_)
      clear hK K
      refine rtk 11 (h := ?_)
      refine rtk 12 (h := ?_)
      refine rcl 13 (h := fun K hK => ?_)
      go_simp
      refine hK.out _ _ (unhide RG8) (fun hHeld => ?_)
      clear hK K
      refine wpAnyH_done (by kernel_rfl) ?_ _
      refine NoPanic.normal ?_
      go_wp2
      go_end0
      refine ⟨rfl, ?_⟩
      rw [unhide HPL]
      exact unhide HF
  · have hge : decide (((ps.length : Nat) : Int) ≥ 4096) = true := decide_eq_true (by omega)
    go_wp2
    (try simp only [Exit.inBlock, Exit.then])
    refine bodyPost_ret (results_none rfl _ _ _) rfl ?_
    refine ⟨rfl, _, ps, unhide HS1, Fr.of_below (unhide HB1), fun g hg => .inl hg, ?_⟩
    unfold addI
    rw [if_neg (by simpa using hlt)]
end Go.Proofs.Ytfgelagmjjjlgaa.Nt
