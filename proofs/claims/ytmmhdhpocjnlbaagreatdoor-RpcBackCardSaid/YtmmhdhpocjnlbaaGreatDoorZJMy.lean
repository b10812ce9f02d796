/- Proved here: the page's MayRpc: whether a message may be. Helper contract. -/
import Derived.Test.YtmmhdhpocjnlbaaGreatDoorZJEq
import Derived.Test.YtmmhdhpocjnlbaaGreatDoorZKTk
import Derived.Test.YtmmhdhpocjnlbaaGreatDoorM1
import Derived.Test.YtmmhdhpocjnlbaaGreatDoorM4
import Derived.Deep.Cut
namespace Go.Proofs.YtmmhdhpocjnlbaaGreatDoor.Jr
open Go.RowKit Nt Et Qu
set_option maxRecDepth 100000

/-- a message with a kind, nodes and a term alone -/
def mqt (k f t te : Int) : Mq := ⟨⟨k, f, t, te, 0, 0, 0, false, [], [], ⟨#[]⟩⟩, none, 0, 0, none, 0, 0⟩
theorem rpc_buildt (k f t te : Int) (a : Act) (dst : Option Tmp) (x0 x1 x2 x3 : Operand) (ty : TypeId) (pos : String) (after : Array Edge) (h0 : a.eval x0 = .int .i64 k) (h1 : a.eval x1 = .int .i64 f) (h2 : a.eval x2 = .int .i64 t) (h3 : a.eval x3 = .int .i64 te) (w : World) :
    (execOp a.eval ⟨dst, .build 27 #[(0, x0), (1, x1), (2, x2), (3, x3)], ty, pos, after, none⟩).run Tryz.prog w = .ok (.value (.agg (mcs (mqt k f t te)).toArray)) w := by
  unfold execOp
  simp only [List.map_toArray, List.map_cons, List.map_nil, h0, h1, h2, h3]
  kernel_rfl
theorem may_hd {m : Rp} (h : hdB m = false) : mayB m = false := by unfold mayB; rw [h]; rfl
theorem may_kind {m : Rp} (h : ¬ (1 ≤ m.kind ∧ m.kind ≤ 7)) : mayB m = false := may_hd (by
  unfold hdB
  by_cases g1 : 1 ≤ m.kind
  · rw [decide_eq_false (show ¬ m.kind ≤ 7 by omega)]; simp
  · rw [decide_eq_false g1]; simp)
/-- what may be, of a kind: head and the rest -/
def insB (m : Rp) : Bool := nodB m.frm && nodB m.to && inB m.term && inB m.index && inB m.logt && inB m.com
theorem hd_ins {m : Rp} (h1 : 1 ≤ m.kind) (h7 : m.kind ≤ 7) : hdB m = insB m := by
  unfold hdB insB
  rw [decide_eq_true h1, decide_eq_true h7]
  simp only [Bool.true_and, Bool.and_assoc]
theorem dt_nil {s : ByteArray} : s.size = 0 ↔ (⟨#[]⟩ : ByteArray) = s := ⟨fun h => (ba_nil h).symm, fun h => by rw [← h]; rfl⟩
theorem x_1 {f t te ix lt co : Int} {ok : Bool} {es : List En} {ms : List Int} {dt : ByteArray} : ((⟨1, f, t, te, ix, lt, 0, false, [], [], ⟨#[]⟩⟩ : Rp) = ⟨1, f, t, te, ix, lt, co, ok, es, ms, dt⟩) ↔ empB (bsd ⟨1, f, t, te, ix, lt, co, ok, es, ms, dt⟩) = true := by
  rw [show bsd ⟨1, f, t, te, ix, lt, co, ok, es, ms, dt⟩ = ⟨1, f, t, te, 0, 0, co, ok, es, ms, dt⟩ from rfl, emp_iff]
  dsimp only
  constructor
  · intro h
    obtain ⟨_, _, _, _, i, l, c, o, e, m, d⟩ := Rp.mk.inj h
    exact ⟨⟨by omega, by omega, by omega⟩, ⟨by first | rfl | exact o.symm, by first | rfl | exact e.symm, by first | rfl | exact m.symm⟩, by first | rfl | (rw [← d]; rfl)⟩
  · rintro ⟨⟨i, l, c⟩, ⟨o, e, m⟩, d⟩
    have d2 := ba_nil d
    clear d
    subst_vars
    rfl
theorem x_3 {f t te ix lt co : Int} {ok : Bool} {es : List En} {ms : List Int} {dt : ByteArray} : ((⟨3, f, t, te, ix, lt, 0, false, [], [], ⟨#[]⟩⟩ : Rp) = ⟨3, f, t, te, ix, lt, co, ok, es, ms, dt⟩) ↔ empB (bsd ⟨3, f, t, te, ix, lt, co, ok, es, ms, dt⟩) = true := by
  rw [show bsd ⟨3, f, t, te, ix, lt, co, ok, es, ms, dt⟩ = ⟨3, f, t, te, 0, 0, co, ok, es, ms, dt⟩ from rfl, emp_iff]
  dsimp only
  constructor
  · intro h
    obtain ⟨_, _, _, _, i, l, c, o, e, m, d⟩ := Rp.mk.inj h
    exact ⟨⟨by omega, by omega, by omega⟩, ⟨by first | rfl | exact o.symm, by first | rfl | exact e.symm, by first | rfl | exact m.symm⟩, by first | rfl | (rw [← d]; rfl)⟩
  · rintro ⟨⟨i, l, c⟩, ⟨o, e, m⟩, d⟩
    have d2 := ba_nil d
    clear d
    subst_vars
    rfl
theorem x_2 {f t te ix lt co : Int} {ok : Bool} {es : List En} {ms : List Int} {dt : ByteArray} : ((⟨2, f, t, te, 0, 0, 0, ok, [], [], ⟨#[]⟩⟩ : Rp) = ⟨2, f, t, te, ix, lt, co, ok, es, ms, dt⟩) ↔ empB (bsd ⟨2, f, t, te, ix, lt, co, ok, es, ms, dt⟩) = true := by
  rw [show bsd ⟨2, f, t, te, ix, lt, co, ok, es, ms, dt⟩ = ⟨2, f, t, te, ix, lt, co, false, es, ms, dt⟩ from rfl, emp_iff]
  dsimp only
  constructor
  · intro h
    obtain ⟨_, _, _, _, i, l, c, o, e, m, d⟩ := Rp.mk.inj h
    exact ⟨⟨by omega, by omega, by omega⟩, ⟨by first | rfl | exact o.symm, by first | rfl | exact e.symm, by first | rfl | exact m.symm⟩, by first | rfl | (rw [← d]; rfl)⟩
  · rintro ⟨⟨i, l, c⟩, ⟨o, e, m⟩, d⟩
    have d2 := ba_nil d
    clear d
    subst_vars
    rfl
theorem x_4 {f t te ix lt co : Int} {ok : Bool} {es : List En} {ms : List Int} {dt : ByteArray} : ((⟨4, f, t, te, 0, 0, 0, ok, [], [], ⟨#[]⟩⟩ : Rp) = ⟨4, f, t, te, ix, lt, co, ok, es, ms, dt⟩) ↔ empB (bsd ⟨4, f, t, te, ix, lt, co, ok, es, ms, dt⟩) = true := by
  rw [show bsd ⟨4, f, t, te, ix, lt, co, ok, es, ms, dt⟩ = ⟨4, f, t, te, ix, lt, co, false, es, ms, dt⟩ from rfl, emp_iff]
  dsimp only
  constructor
  · intro h
    obtain ⟨_, _, _, _, i, l, c, o, e, m, d⟩ := Rp.mk.inj h
    exact ⟨⟨by omega, by omega, by omega⟩, ⟨by first | rfl | exact o.symm, by first | rfl | exact e.symm, by first | rfl | exact m.symm⟩, by first | rfl | (rw [← d]; rfl)⟩
  · rintro ⟨⟨i, l, c⟩, ⟨o, e, m⟩, d⟩
    have d2 := ba_nil d
    clear d
    subst_vars
    rfl
theorem x_5 {f t te ix lt co : Int} {ok : Bool} {es : List En} {ms : List Int} {dt : ByteArray} : ((⟨5, f, t, te, ix, lt, co, false, es, [], ⟨#[]⟩⟩ : Rp) = ⟨5, f, t, te, ix, lt, co, ok, es, ms, dt⟩) ↔ empB (bsd ⟨5, f, t, te, ix, lt, co, ok, es, ms, dt⟩) = true := by
  rw [show bsd ⟨5, f, t, te, ix, lt, co, ok, es, ms, dt⟩ = ⟨5, f, t, te, 0, 0, 0, ok, [], ms, dt⟩ from rfl, emp_iff]
  dsimp only
  constructor
  · intro h
    obtain ⟨_, _, _, _, i, l, c, o, e, m, d⟩ := Rp.mk.inj h
    exact ⟨⟨by omega, by omega, by omega⟩, ⟨by first | rfl | exact o.symm, by first | rfl | exact e.symm, by first | rfl | exact m.symm⟩, by first | rfl | (rw [← d]; rfl)⟩
  · rintro ⟨⟨i, l, c⟩, ⟨o, e, m⟩, d⟩
    have d2 := ba_nil d
    clear d
    subst_vars
    rfl
theorem x_6 {f t te ix lt co : Int} {ok : Bool} {es : List En} {ms : List Int} {dt : ByteArray} : ((⟨6, f, t, te, ix, 0, 0, ok, [], [], ⟨#[]⟩⟩ : Rp) = ⟨6, f, t, te, ix, lt, co, ok, es, ms, dt⟩) ↔ empB (bsd ⟨6, f, t, te, ix, lt, co, ok, es, ms, dt⟩) = true := by
  rw [show bsd ⟨6, f, t, te, ix, lt, co, ok, es, ms, dt⟩ = ⟨6, f, t, te, 0, lt, co, false, es, ms, dt⟩ from rfl, emp_iff]
  dsimp only
  constructor
  · intro h
    obtain ⟨_, _, _, _, i, l, c, o, e, m, d⟩ := Rp.mk.inj h
    exact ⟨⟨by omega, by omega, by omega⟩, ⟨by first | rfl | exact o.symm, by first | rfl | exact e.symm, by first | rfl | exact m.symm⟩, by first | rfl | (rw [← d]; rfl)⟩
  · rintro ⟨⟨i, l, c⟩, ⟨o, e, m⟩, d⟩
    have d2 := ba_nil d
    clear d
    subst_vars
    rfl
theorem x_7 {f t te ix lt co : Int} {ok : Bool} {es : List En} {ms : List Int} {dt : ByteArray} : ((⟨7, f, t, te, ix, lt, 0, false, [], ms, dt⟩ : Rp) = ⟨7, f, t, te, ix, lt, co, ok, es, ms, dt⟩) ↔ empB (bsd ⟨7, f, t, te, ix, lt, co, ok, es, ms, dt⟩) = true := by
  rw [show bsd ⟨7, f, t, te, ix, lt, co, ok, es, ms, dt⟩ = ⟨7, f, t, te, 0, 0, co, ok, es, [], ⟨#[]⟩⟩ from rfl, emp_iff]
  dsimp only
  constructor
  · intro h
    obtain ⟨_, _, _, _, i, l, c, o, e, m, d⟩ := Rp.mk.inj h
    exact ⟨⟨by omega, by omega, by omega⟩, ⟨by first | rfl | exact o.symm, by first | rfl | exact e.symm, by first | rfl | exact m.symm⟩, by first | rfl | (rw [← d]; rfl)⟩
  · rintro ⟨⟨i, l, c⟩, ⟨o, e, m⟩, d⟩
    have d2 := ba_nil d
    clear d
    subst_vars
    rfl
set_option maxHeartbeats 16000000 in
theorem may_any (k f t te ix lt co : Int) (ok : Bool) (ea ma : Option Addr) (en ec mn mcp : Nat) (es : List En) (ms : List Int) (dt : ByteArray) (w : World) (h : Rok w ⟨⟨k, f, t, te, ix, lt, co, ok, es, ms, dt⟩, ea, en, ec, ma, mn, mcp⟩) :
    Calls Tryz.prog 5 #[.agg #[.int .i64 k, .int .i64 f, .int .i64 t, .int .i64 te, .int .i64 ix, .int .i64 lt, .int .i64 co, .bool ok, .slice ea en ec, .slice ma mn mcp, .string dt]] w fun e w' => e = .returned (.bool (mayB ⟨k, f, t, te, ix, lt, co, ok, es, ms, dt⟩)) ∧ Hid (Below w.heap.size w w') := by
  obtain ⟨d, hd⟩ : ∃ d, d = mayB ⟨k, f, t, te, ix, lt, co, ok, es, ms, dt⟩ := ⟨_, rfl⟩
  have HD := hide hd
  rw [← hd]
  obtain ⟨B, hB⟩ : ∃ B, B = w.heap.size := ⟨_, rfl⟩
  have HB : Hid (Bx (w.alloc (.cells #[.int .i64 k, .int .i64 f, .int .i64 t, .int .i64 te, .int .i64 ix, .int .i64 lt, .int .i64 co, .bool ok, .slice ea en ec, .slice ma mn mcp, .string dt] 27)) B [.int .i64 k, .int .i64 f, .int .i64 t, .int .i64 te, .int .i64 ix, .int .i64 lt, .int .i64 co, .bool ok, .slice ea en ec, .slice ma mn mcp, .string dt] 27) := Bx.new w [.int .i64 k, .int .i64 f, .int .i64 t, .int .i64 te, .int .i64 ix, .int .i64 lt, .int .i64 co, .bool ok, .slice ea en ec, .slice ma mn mcp, .string dt] 27 B hB
  have HW : Hid (Below w.heap.size w (w.alloc (.cells #[.int .i64 k, .int .i64 f, .int .i64 t, .int .i64 te, .int .i64 ix, .int .i64 lt, .int .i64 co, .bool ok, .slice ea en ec, .slice ma mn mcp, .string dt] 27))) := al_below _ _
  have HK := hide h
  clear h hd
  go_enter Tryz.func5, Tryz.ntmps5
  go_upto_region 1 with fail
  change Code.wp _ _ _ _ (w.alloc (.cells #[.int .i64 k, .int .i64 f, .int .i64 t, .int .i64 te, .int .i64 ix, .int .i64 lt, .int .i64 co, .bool ok, .slice ea en ec, .slice ma mn mcp, .string dt] 27))
  rw [← hB]
  generalize w.alloc (.cells #[.int .i64 k, .int .i64 f, .int .i64 t, .int .i64 te, .int .i64 ix, .int .i64 lt, .int .i64 co, .bool ok, .slice ea en ec, .slice ma mn mcp, .string dt] 27) = W at HB HW ⊢
  have hBw : w.heap.size ≤ B := by omega
  clear hB
  have c0 := (unhide HB).cell 0 _ rfl
  have c1 := (unhide HB).cell 1 _ rfl
  have c2 := (unhide HB).cell 2 _ rfl
  have c3 := (unhide HB).cell 3 _ rfl
  obtain ⟨X, hX⟩ : ∃ X, X = W.heap.size := ⟨_, rfl⟩
  have hBX : B ≠ X := by have := (unhide HB).lt; omega
  have hXw : w.heap.size ≤ X := by have := (unhide HB).lt; omega
  have HX2 : Hid (Bx (W.alloc (.cells (mcs (mqt k f t te)).toArray 27)) X (mcs (mqt k f t te)) 27) := Bx.new _ _ _ _ hX
  have HB2 := hide ((unhide HB).below (al_below W (.cells (mcs (mqt k f t te)).toArray 27)))
  have HW2 : Hid (Below w.heap.size w (W.alloc (.cells (mcs (mqt k f t te)).toArray 27))) := bnx (unhide HW) (al_below _ _)
  (iterate 25 go_step)
  refine Nt.wpList_value rfl (rpc_buildt k f t te _ _ _ _ _ _ _ _ _ rfl rfl rfl rfl _) ?_
  simp only [Act.put, List.setIfInBounds_toArray, List.set_cons_zero, List.set_cons_succ]
  refine Nt.wpList_value rfl (rpc_alloc _ _ _ _ _ _) ?_
  simp only [Act.put, List.setIfInBounds_toArray, List.set_cons_zero, List.set_cons_succ]
  refine Nt.wpList_skip rfl (rpc_store _ _ _ _ _ _ _ (mqt k f t te) W rfl rfl) ?_
  simp only [Act.put]
  rw [← hX]
  clear hX c0 c1 c2 c3 HB HW
  generalize W.alloc (.cells (mcs (mqt k f t te)).toArray 27) = W2 at HX2 HB2 HW2 ⊢
  have c0 := (unhide HB2).cell 0 _ rfl
  have c1 := (unhide HB2).cell 1 _ rfl
  have c2 := (unhide HB2).cell 2 _ rfl
  have c3 := (unhide HB2).cell 3 _ rfl
  have c4 := (unhide HB2).cell 4 _ rfl
  have c5 := (unhide HB2).cell 5 _ rfl
  have c6 := (unhide HB2).cell 6 _ rfl
  obtain ⟨bf, hf⟩ : ∃ b, b = nodB f := ⟨_, rfl⟩
  have Hf := hide hf.symm
  clear hf
  go_wp2_with fail
  refine (node_any f _).mono ?_
  rw [unhide Hf]
  rintro e w' ⟨rfl, hw'⟩
  obtain rfl := hw'.symm
  clear hw'
  cases bf
  · have HF : Hid (d = false) := by
      show _ = _
      rw [unhide HD]; exact may_hd (by unfold hdB; dsimp only; rw [unhide Hf]; simp)
    go_wp2
    go_ret
    exact ⟨by rw [unhide HF]; rfl, HW2⟩
  · obtain ⟨bt, ht⟩ : ∃ b, b = nodB t := ⟨_, rfl⟩
    have Ht := hide ht.symm
    clear ht
    go_wp2_with fail
    refine (node_any t _).mono ?_
    rw [unhide Ht]
    rintro e w' ⟨rfl, hw'⟩
    obtain rfl := hw'.symm
    clear hw'
    cases bt
    · have HF : Hid (d = false) := by
        show _ = _
        rw [unhide HD]; exact may_hd (by unfold hdB; dsimp only; rw [unhide Ht]; simp)
      go_wp2
      go_ret
      exact ⟨by rw [unhide HF]; rfl, HW2⟩
    · obtain ⟨bte, hte⟩ : ∃ b, b = inB te := ⟨_, rfl⟩
      have Hte := hide hte.symm
      clear hte
      go_wp2_with fail
      refine (inn_any te _).mono ?_
      rw [unhide Hte]
      rintro e w' ⟨rfl, hw'⟩
      obtain rfl := hw'.symm
      clear hw'
      cases bte
      · have HF : Hid (d = false) := by
          show _ = _
          rw [unhide HD]; exact may_hd (by unfold hdB; dsimp only; rw [unhide Hte]; simp)
        go_wp2
        go_ret
        exact ⟨by rw [unhide HF]; rfl, HW2⟩
      · obtain ⟨bix, hix⟩ : ∃ b, b = inB ix := ⟨_, rfl⟩
        have Hix := hide hix.symm
        clear hix
        go_wp2_with fail
        refine (inn_any ix _).mono ?_
        rw [unhide Hix]
        rintro e w' ⟨rfl, hw'⟩
        obtain rfl := hw'.symm
        clear hw'
        cases bix
        · have HF : Hid (d = false) := by
            show _ = _
            rw [unhide HD]; exact may_hd (by unfold hdB; dsimp only; rw [unhide Hix]; simp)
          go_wp2
          go_ret
          exact ⟨by rw [unhide HF]; rfl, HW2⟩
        · obtain ⟨blt, hlt⟩ : ∃ b, b = inB lt := ⟨_, rfl⟩
          have Hlt := hide hlt.symm
          clear hlt
          go_wp2_with fail
          refine (inn_any lt _).mono ?_
          rw [unhide Hlt]
          rintro e w' ⟨rfl, hw'⟩
          obtain rfl := hw'.symm
          clear hw'
          cases blt
          · have HF : Hid (d = false) := by
              show _ = _
              rw [unhide HD]; exact may_hd (by unfold hdB; dsimp only; rw [unhide Hlt]; simp)
            go_wp2
            go_ret
            exact ⟨by rw [unhide HF]; rfl, HW2⟩
          · obtain ⟨bco, hco⟩ : ∃ b, b = inB co := ⟨_, rfl⟩
            have Hco := hide hco.symm
            clear hco
            go_wp2_with fail
            refine (inn_any co _).mono ?_
            rw [unhide Hco]
            rintro e w' ⟨rfl, hw'⟩
            obtain rfl := hw'.symm
            clear hw'
            cases bco
            · have HF : Hid (d = false) := by
                show _ = _
                rw [unhide HD]; exact may_hd (by unfold hdB; dsimp only; rw [unhide Hco]; simp)
              go_wp2
              go_ret
              exact ⟨by rw [unhide HF]; rfl, HW2⟩
            · by_cases h1 : k = 1
              · subst h1
                have HDK : Hid (d = (empB (bsd ⟨1, f, t, te, ix, lt, co, ok, es, ms, dt⟩) && true)) := by
                  show _ = _
                  rw [unhide HD]
                  unfold mayB
                  rw [hd_ins (by dsimp only; omega) (by dsimp only; omega)]
                  unfold insB
                  dsimp only
                  rw [unhide Hf, unhide Ht, unhide Hte, unhide Hix, unhide Hlt, unhide Hco]
                  rfl
                go_upto_region 8 with fail
                refine wp_region_noPanic ?_
                refine wp_region_held_drew (S := fun W => W.cell? ⟨B, 4, none⟩ = some (.int .i64 ix) ∧ W.cell? ⟨B, 5, none⟩ = some (.int .i64 lt)) (by kernel_rfl) ⟨(unhide HB2).cell 4 _ rfl, (unhide HB2).cell 5 _ rfl⟩ (fun hH2 => ?_)
                refine rtk 0 (h := ?_)
                refine rtk 1 (h := ?_)
                refine rtk 2 (h := ?_)
                refine rtk 3 (h := ?_)
                refine rtk 4 (h := ?_)
                have HBd : Hid (Bx W2.drew B [.int .i64 1, .int .i64 f, .int .i64 t, .int .i64 te, .int .i64 ix, .int .i64 lt, .int .i64 co, .bool ok, .slice ea en ec, .slice ma mn mcp, .string dt] 27) := unhide HB2
                have HXd : Hid (Bx W2.drew X (mcs ⟨⟨1, f, t, te, 0, 0, 0, false, [], [], ⟨#[]⟩⟩, none, 0, 0, none, 0, 0⟩) 27) := unhide HX2
                have HWd : Hid (Below w.heap.size w W2.drew) := below_drewN (unhide HW2) 1
                have hsd : w.heap.size ≤ W2.drew.heap.size := (unhide HWd).size
                clear HB2 HX2 HW2
                generalize W2.drew = Wd0 at HBd HXd HWd hsd hH2 ⊢
                have x4 := (unhide HXd).cell 4 _ rfl
                have y4 := (unhide HXd).frz 4
                refine rcl 5 (h := fun K hK => ?_)
                go_simp
                have HBe0 := hide ((unhide HBd).set_ne 4 (.int .i64 ix) hBX)
                have HXe0 : Hid (Bx (Wd0.setCell ⟨X, 4, none⟩ (.int .i64 ix)) X (mcs ⟨⟨1, f, t, te, ix, 0, 0, false, [], [], ⟨#[]⟩⟩, none, 0, 0, none, 0, 0⟩) 27) := (unhide HXd).set 4 (.int .i64 ix) (by rw [mcs_len]; omega)
                have HWe0 : Hid (Below w.heap.size w (Wd0.setCell ⟨X, 4, none⟩ (.int .i64 ix))) := Fr.bel (unhide HWd) (set_fr (F := fun k => k = X) rfl) (fun i hi => by omega) hsd
                have hse0 := (unhide HWe0).size
                refine hK.out _ _ ⟨(unhide HBe0).cell 4 _ rfl, (unhide HBe0).cell 5 _ rfl⟩ (fun hHe0 => ?_)
                clear hK K x4 y4 HBd HXd HWd hsd hH2
                generalize Wd0.setCell ⟨X, 4, none⟩ (.int .i64 ix) = Wd1 at HBe0 HXe0 HWe0 hse0 hHe0 ⊢
                refine rtk 6 (h := ?_)
                have x5 := (unhide HXe0).cell 5 _ rfl
                have y5 := (unhide HXe0).frz 5
                refine rcl 7 (h := fun K hK => ?_)
                go_simp
                have HBe1 := hide ((unhide HBe0).set_ne 5 (.int .i64 lt) hBX)
                have HXe1 : Hid (Bx (Wd1.setCell ⟨X, 5, none⟩ (.int .i64 lt)) X (mcs ⟨⟨1, f, t, te, ix, lt, 0, false, [], [], ⟨#[]⟩⟩, none, 0, 0, none, 0, 0⟩) 27) := (unhide HXe0).set 5 (.int .i64 lt) (by rw [mcs_len]; omega)
                have HWe1 : Hid (Below w.heap.size w (Wd1.setCell ⟨X, 5, none⟩ (.int .i64 lt))) := Fr.bel (unhide HWe0) (set_fr (F := fun k => k = X) rfl) (fun i hi => by omega) hse0
                have hse1 := (unhide HWe1).size
                refine hK.out _ _ ⟨(unhide HBe1).cell 4 _ rfl, (unhide HBe1).cell 5 _ rfl⟩ (fun hHe1 => ?_)
                clear hK K x5 y5 HBe0 HXe0 HWe0 hse0 hHe0
                generalize Wd1.setCell ⟨X, 5, none⟩ (.int .i64 lt) = Wd2 at HBe1 HXe1 HWe1 hse1 hHe1 ⊢
                refine wpAnyH_done (by kernel_rfl) ?_ _
                refine NoPanic.normal ?_
                clear hHe1
                go_upto_region 22 with fail
                have HKf := hide ((unhide HK).below (unhide HWe1))
                go_step
                refine wpList_load_mid rfl 27 _ rfl X 0 rfl (mcs ⟨⟨1, f, t, te, ix, lt, 0, false, [], [], ⟨#[]⟩⟩, none, 0, 0, none, 0, 0⟩) _ (unhide HXe1).range Tryz.underlying27 rfl rpc_size ?_
                simp only [Act.put, List.setIfInBounds_toArray, List.set_cons_zero, List.set_cons_succ]
                refine wpList_load_mid rfl 27 _ rfl B 0 rfl (mcs ⟨⟨1, f, t, te, ix, lt, co, ok, es, ms, dt⟩, ea, en, ec, ma, mn, mcp⟩) _ (unhide HBe1).range Tryz.underlying27 rfl rpc_size ?_
                simp only [Act.put, List.setIfInBounds_toArray, List.set_cons_zero, List.set_cons_succ]
                have HEQ := hide (eqr_any ⟨⟨1, f, t, te, ix, lt, 0, false, [], [], ⟨#[]⟩⟩, none, 0, 0, none, 0, 0⟩ ⟨⟨1, f, t, te, ix, lt, co, ok, es, ms, dt⟩, ea, en, ec, ma, mn, mcp⟩ Wd2 ⟨(rok0 _).1, (rok0 _).2⟩ (unhide HKf) ⟨rfl, rfl, rfl, rfl⟩)
                clear HKf
                go_wp2_with fail
                refine (unhide HEQ).mono ?_
                rintro e w9 ⟨⟨b, rfl, hb9⟩, HB9⟩
                have HBD : Hid (b = d) := by
                  show _ = _
                  rw [unhide HDK, Bool.and_true]
                  rw [Bool.eq_iff_iff]
                  exact (unhide hb9).trans x_1
                have HWz : Hid (Below w.heap.size w w9) := bnx (unhide HWe1) (unhide HB9)
                clear hb9 HB9 HEQ
                go_wp2
                go_ret
                exact ⟨ret_bool (unhide HBD), HWz⟩
              · skip
                by_cases h3 : k = 3
                · subst h3
                  have HDK : Hid (d = (empB (bsd ⟨3, f, t, te, ix, lt, co, ok, es, ms, dt⟩) && true)) := by
                    show _ = _
                    rw [unhide HD]
                    unfold mayB
                    rw [hd_ins (by dsimp only; omega) (by dsimp only; omega)]
                    unfold insB
                    dsimp only
                    rw [unhide Hf, unhide Ht, unhide Hte, unhide Hix, unhide Hlt, unhide Hco]
                    rfl
                  go_upto_region 8 with fail
                  refine wp_region_noPanic ?_
                  refine wp_region_held_drew (S := fun W => W.cell? ⟨B, 4, none⟩ = some (.int .i64 ix) ∧ W.cell? ⟨B, 5, none⟩ = some (.int .i64 lt)) (by kernel_rfl) ⟨(unhide HB2).cell 4 _ rfl, (unhide HB2).cell 5 _ rfl⟩ (fun hH2 => ?_)
                  refine rtk 0 (h := ?_)
                  refine rtk 1 (h := ?_)
                  refine rtk 2 (h := ?_)
                  refine rtk 3 (h := ?_)
                  refine rtk 4 (h := ?_)
                  have HBd : Hid (Bx W2.drew B [.int .i64 3, .int .i64 f, .int .i64 t, .int .i64 te, .int .i64 ix, .int .i64 lt, .int .i64 co, .bool ok, .slice ea en ec, .slice ma mn mcp, .string dt] 27) := unhide HB2
                  have HXd : Hid (Bx W2.drew X (mcs ⟨⟨3, f, t, te, 0, 0, 0, false, [], [], ⟨#[]⟩⟩, none, 0, 0, none, 0, 0⟩) 27) := unhide HX2
                  have HWd : Hid (Below w.heap.size w W2.drew) := below_drewN (unhide HW2) 1
                  have hsd : w.heap.size ≤ W2.drew.heap.size := (unhide HWd).size
                  clear HB2 HX2 HW2
                  generalize W2.drew = Wd0 at HBd HXd HWd hsd hH2 ⊢
                  have x4 := (unhide HXd).cell 4 _ rfl
                  have y4 := (unhide HXd).frz 4
                  refine rcl 5 (h := fun K hK => ?_)
                  go_simp
                  have HBe0 := hide ((unhide HBd).set_ne 4 (.int .i64 ix) hBX)
                  have HXe0 : Hid (Bx (Wd0.setCell ⟨X, 4, none⟩ (.int .i64 ix)) X (mcs ⟨⟨3, f, t, te, ix, 0, 0, false, [], [], ⟨#[]⟩⟩, none, 0, 0, none, 0, 0⟩) 27) := (unhide HXd).set 4 (.int .i64 ix) (by rw [mcs_len]; omega)
                  have HWe0 : Hid (Below w.heap.size w (Wd0.setCell ⟨X, 4, none⟩ (.int .i64 ix))) := Fr.bel (unhide HWd) (set_fr (F := fun k => k = X) rfl) (fun i hi => by omega) hsd
                  have hse0 := (unhide HWe0).size
                  refine hK.out _ _ ⟨(unhide HBe0).cell 4 _ rfl, (unhide HBe0).cell 5 _ rfl⟩ (fun hHe0 => ?_)
                  clear hK K x4 y4 HBd HXd HWd hsd hH2
                  generalize Wd0.setCell ⟨X, 4, none⟩ (.int .i64 ix) = Wd1 at HBe0 HXe0 HWe0 hse0 hHe0 ⊢
                  refine rtk 6 (h := ?_)
                  have x5 := (unhide HXe0).cell 5 _ rfl
                  have y5 := (unhide HXe0).frz 5
                  refine rcl 7 (h := fun K hK => ?_)
                  go_simp
                  have HBe1 := hide ((unhide HBe0).set_ne 5 (.int .i64 lt) hBX)
                  have HXe1 : Hid (Bx (Wd1.setCell ⟨X, 5, none⟩ (.int .i64 lt)) X (mcs ⟨⟨3, f, t, te, ix, lt, 0, false, [], [], ⟨#[]⟩⟩, none, 0, 0, none, 0, 0⟩) 27) := (unhide HXe0).set 5 (.int .i64 lt) (by rw [mcs_len]; omega)
                  have HWe1 : Hid (Below w.heap.size w (Wd1.setCell ⟨X, 5, none⟩ (.int .i64 lt))) := Fr.bel (unhide HWe0) (set_fr (F := fun k => k = X) rfl) (fun i hi => by omega) hse0
                  have hse1 := (unhide HWe1).size
                  refine hK.out _ _ ⟨(unhide HBe1).cell 4 _ rfl, (unhide HBe1).cell 5 _ rfl⟩ (fun hHe1 => ?_)
                  clear hK K x5 y5 HBe0 HXe0 HWe0 hse0 hHe0
                  generalize Wd1.setCell ⟨X, 5, none⟩ (.int .i64 lt) = Wd2 at HBe1 HXe1 HWe1 hse1 hHe1 ⊢
                  refine wpAnyH_done (by kernel_rfl) ?_ _
                  refine NoPanic.normal ?_
                  clear hHe1
                  go_upto_region 22 with fail
                  have HKf := hide ((unhide HK).below (unhide HWe1))
                  go_step
                  refine wpList_load_mid rfl 27 _ rfl X 0 rfl (mcs ⟨⟨3, f, t, te, ix, lt, 0, false, [], [], ⟨#[]⟩⟩, none, 0, 0, none, 0, 0⟩) _ (unhide HXe1).range Tryz.underlying27 rfl rpc_size ?_
                  simp only [Act.put, List.setIfInBounds_toArray, List.set_cons_zero, List.set_cons_succ]
                  refine wpList_load_mid rfl 27 _ rfl B 0 rfl (mcs ⟨⟨3, f, t, te, ix, lt, co, ok, es, ms, dt⟩, ea, en, ec, ma, mn, mcp⟩) _ (unhide HBe1).range Tryz.underlying27 rfl rpc_size ?_
                  simp only [Act.put, List.setIfInBounds_toArray, List.set_cons_zero, List.set_cons_succ]
                  have HEQ := hide (eqr_any ⟨⟨3, f, t, te, ix, lt, 0, false, [], [], ⟨#[]⟩⟩, none, 0, 0, none, 0, 0⟩ ⟨⟨3, f, t, te, ix, lt, co, ok, es, ms, dt⟩, ea, en, ec, ma, mn, mcp⟩ Wd2 ⟨(rok0 _).1, (rok0 _).2⟩ (unhide HKf) ⟨rfl, rfl, rfl, rfl⟩)
                  clear HKf
                  go_wp2_with fail
                  refine (unhide HEQ).mono ?_
                  rintro e w9 ⟨⟨b, rfl, hb9⟩, HB9⟩
                  have HBD : Hid (b = d) := by
                    show _ = _
                    rw [unhide HDK, Bool.and_true]
                    rw [Bool.eq_iff_iff]
                    exact (unhide hb9).trans x_3
                  have HWz : Hid (Below w.heap.size w w9) := bnx (unhide HWe1) (unhide HB9)
                  clear hb9 HB9 HEQ
                  go_wp2
                  go_ret
                  exact ⟨ret_bool (unhide HBD), HWz⟩
                · skip
                  by_cases h2 : k = 2
                  · subst h2
                    have HDK : Hid (d = (empB (bsd ⟨2, f, t, te, ix, lt, co, ok, es, ms, dt⟩) && true)) := by
                      show _ = _
                      rw [unhide HD]
                      unfold mayB
                      rw [hd_ins (by dsimp only; omega) (by dsimp only; omega)]
                      unfold insB
                      dsimp only
                      rw [unhide Hf, unhide Ht, unhide Hte, unhide Hix, unhide Hlt, unhide Hco]
                      rfl
                    have c7 := (unhide HB2).cell 7 _ rfl
                    have x7 := (unhide HX2).cell 7 _ rfl
                    have y7 := (unhide HX2).frz 7
                    have HB3 := hide ((unhide HB2).set_ne 7 (.bool ok) hBX)
                    have HX3 : Hid (Bx (W2.setCell ⟨X, 7, none⟩ (.bool ok)) X (mcs ⟨⟨2, f, t, te, 0, 0, 0, ok, [], [], ⟨#[]⟩⟩, none, 0, 0, none, 0, 0⟩) 27) := (unhide HX2).set 7 (.bool ok) (by rw [mcs_len]; omega)
                    have HW3 : Hid (Below w.heap.size w (W2.setCell ⟨X, 7, none⟩ (.bool ok))) := Fr.bel (unhide HW2) (set_fr (F := fun k => k = X) rfl) (fun i hi => by omega) (unhide HW2).size
                    go_upto_region 22 with fail
                    clear c7 x7 y7 HB2 HX2 HW2 c0 c1 c2 c3 c4 c5 c6
                    generalize W2.setCell ⟨X, 7, none⟩ (.bool ok) = W3 at HB3 HX3 HW3 ⊢
                    have HKf := hide ((unhide HK).below (unhide HW3))
                    go_step
                    refine wpList_load_mid rfl 27 _ rfl X 0 rfl (mcs ⟨⟨2, f, t, te, 0, 0, 0, ok, [], [], ⟨#[]⟩⟩, none, 0, 0, none, 0, 0⟩) _ (unhide HX3).range Tryz.underlying27 rfl rpc_size ?_
                    simp only [Act.put, List.setIfInBounds_toArray, List.set_cons_zero, List.set_cons_succ]
                    refine wpList_load_mid rfl 27 _ rfl B 0 rfl (mcs ⟨⟨2, f, t, te, ix, lt, co, ok, es, ms, dt⟩, ea, en, ec, ma, mn, mcp⟩) _ (unhide HB3).range Tryz.underlying27 rfl rpc_size ?_
                    simp only [Act.put, List.setIfInBounds_toArray, List.set_cons_zero, List.set_cons_succ]
                    have HEQ := hide (eqr_any ⟨⟨2, f, t, te, 0, 0, 0, ok, [], [], ⟨#[]⟩⟩, none, 0, 0, none, 0, 0⟩ ⟨⟨2, f, t, te, ix, lt, co, ok, es, ms, dt⟩, ea, en, ec, ma, mn, mcp⟩ W3 ⟨(rok0 _).1, (rok0 _).2⟩ (unhide HKf) ⟨rfl, rfl, rfl, rfl⟩)
                    clear HKf
                    go_wp2_with fail
                    refine (unhide HEQ).mono ?_
                    rintro e w9 ⟨⟨b, rfl, hb9⟩, HB9⟩
                    have HBD : Hid (b = d) := by
                      show _ = _
                      rw [unhide HDK, Bool.and_true]
                      rw [Bool.eq_iff_iff]
                      exact (unhide hb9).trans x_2
                    have HWz : Hid (Below w.heap.size w w9) := bnx (unhide HW3) (unhide HB9)
                    clear hb9 HB9 HEQ
                    go_wp2
                    go_ret
                    exact ⟨ret_bool (unhide HBD), HWz⟩
                  · skip
                    by_cases h4 : k = 4
                    · subst h4
                      have HDK : Hid (d = (empB (bsd ⟨4, f, t, te, ix, lt, co, ok, es, ms, dt⟩) && true)) := by
                        show _ = _
                        rw [unhide HD]
                        unfold mayB
                        rw [hd_ins (by dsimp only; omega) (by dsimp only; omega)]
                        unfold insB
                        dsimp only
                        rw [unhide Hf, unhide Ht, unhide Hte, unhide Hix, unhide Hlt, unhide Hco]
                        rfl
                      have c7 := (unhide HB2).cell 7 _ rfl
                      have x7 := (unhide HX2).cell 7 _ rfl
                      have y7 := (unhide HX2).frz 7
                      have HB3 := hide ((unhide HB2).set_ne 7 (.bool ok) hBX)
                      have HX3 : Hid (Bx (W2.setCell ⟨X, 7, none⟩ (.bool ok)) X (mcs ⟨⟨4, f, t, te, 0, 0, 0, ok, [], [], ⟨#[]⟩⟩, none, 0, 0, none, 0, 0⟩) 27) := (unhide HX2).set 7 (.bool ok) (by rw [mcs_len]; omega)
                      have HW3 : Hid (Below w.heap.size w (W2.setCell ⟨X, 7, none⟩ (.bool ok))) := Fr.bel (unhide HW2) (set_fr (F := fun k => k = X) rfl) (fun i hi => by omega) (unhide HW2).size
                      go_upto_region 22 with fail
                      clear c7 x7 y7 HB2 HX2 HW2 c0 c1 c2 c3 c4 c5 c6
                      generalize W2.setCell ⟨X, 7, none⟩ (.bool ok) = W3 at HB3 HX3 HW3 ⊢
                      have HKf := hide ((unhide HK).below (unhide HW3))
                      go_step
                      refine wpList_load_mid rfl 27 _ rfl X 0 rfl (mcs ⟨⟨4, f, t, te, 0, 0, 0, ok, [], [], ⟨#[]⟩⟩, none, 0, 0, none, 0, 0⟩) _ (unhide HX3).range Tryz.underlying27 rfl rpc_size ?_
                      simp only [Act.put, List.setIfInBounds_toArray, List.set_cons_zero, List.set_cons_succ]
                      refine wpList_load_mid rfl 27 _ rfl B 0 rfl (mcs ⟨⟨4, f, t, te, ix, lt, co, ok, es, ms, dt⟩, ea, en, ec, ma, mn, mcp⟩) _ (unhide HB3).range Tryz.underlying27 rfl rpc_size ?_
                      simp only [Act.put, List.setIfInBounds_toArray, List.set_cons_zero, List.set_cons_succ]
                      have HEQ := hide (eqr_any ⟨⟨4, f, t, te, 0, 0, 0, ok, [], [], ⟨#[]⟩⟩, none, 0, 0, none, 0, 0⟩ ⟨⟨4, f, t, te, ix, lt, co, ok, es, ms, dt⟩, ea, en, ec, ma, mn, mcp⟩ W3 ⟨(rok0 _).1, (rok0 _).2⟩ (unhide HKf) ⟨rfl, rfl, rfl, rfl⟩)
                      clear HKf
                      go_wp2_with fail
                      refine (unhide HEQ).mono ?_
                      rintro e w9 ⟨⟨b, rfl, hb9⟩, HB9⟩
                      have HBD : Hid (b = d) := by
                        show _ = _
                        rw [unhide HDK, Bool.and_true]
                        rw [Bool.eq_iff_iff]
                        exact (unhide hb9).trans x_4
                      have HWz : Hid (Below w.heap.size w w9) := bnx (unhide HW3) (unhide HB9)
                      clear hb9 HB9 HEQ
                      go_wp2
                      go_ret
                      exact ⟨ret_bool (unhide HBD), HWz⟩
                    · skip
                      by_cases h5 : k = 5
                      · subst h5
                        have HDK : Hid (d = (empB (bsd ⟨5, f, t, te, ix, lt, co, ok, es, ms, dt⟩) && entB ⟨5, f, t, te, ix, lt, co, ok, es, ms, dt⟩)) := by
                          show _ = _
                          rw [unhide HD]
                          unfold mayB
                          rw [hd_ins (by dsimp only; omega) (by dsimp only; omega)]
                          unfold insB
                          dsimp only
                          rw [unhide Hf, unhide Ht, unhide Hte, unhide Hix, unhide Hlt, unhide Hco]
                          rfl
                        have HEL : Hid (es.length = en) := (unhide HK).1.1
                        go_upto_region 13 with fail
                        refine wp_region_noPanic ?_
                        refine wp_region_held_drew (S := fun W => W.cell? ⟨B, 4, none⟩ = some (.int .i64 ix) ∧ W.cell? ⟨B, 5, none⟩ = some (.int .i64 lt) ∧ W.cell? ⟨B, 6, none⟩ = some (.int .i64 co) ∧ W.cell? ⟨B, 8, none⟩ = some (.slice ea en ec)) (by kernel_rfl) ⟨(unhide HB2).cell 4 _ rfl, (unhide HB2).cell 5 _ rfl, (unhide HB2).cell 6 _ rfl, (unhide HB2).cell 8 _ rfl⟩ (fun hH2 => ?_)
                        refine rtk 0 (h := ?_)
                        refine rtk 1 (h := ?_)
                        refine rtk 2 (h := ?_)
                        refine rtk 3 (h := ?_)
                        refine rtk 4 (h := ?_)
                        refine rtk 5 (h := ?_)
                        refine rtk 6 (h := ?_)
                        refine rtk 7 (h := ?_)
                        refine rtk 8 (h := ?_)
                        have HBd : Hid (Bx W2.drew B [.int .i64 5, .int .i64 f, .int .i64 t, .int .i64 te, .int .i64 ix, .int .i64 lt, .int .i64 co, .bool ok, .slice ea en ec, .slice ma mn mcp, .string dt] 27) := unhide HB2
                        have HXd : Hid (Bx W2.drew X (mcs ⟨⟨5, f, t, te, 0, 0, 0, false, [], [], ⟨#[]⟩⟩, none, 0, 0, none, 0, 0⟩) 27) := unhide HX2
                        have HWd : Hid (Below w.heap.size w W2.drew) := below_drewN (unhide HW2) 1
                        have hsd : w.heap.size ≤ W2.drew.heap.size := (unhide HWd).size
                        clear HB2 HX2 HW2
                        generalize W2.drew = Wd0 at HBd HXd HWd hsd hH2 ⊢
                        have x4 := (unhide HXd).cell 4 _ rfl
                        have y4 := (unhide HXd).frz 4
                        refine rcl 9 (h := fun K hK => ?_)
                        go_simp
                        have HBe0 := hide ((unhide HBd).set_ne 4 (.int .i64 ix) hBX)
                        have HXe0 : Hid (Bx (Wd0.setCell ⟨X, 4, none⟩ (.int .i64 ix)) X (mcs ⟨⟨5, f, t, te, ix, 0, 0, false, [], [], ⟨#[]⟩⟩, none, 0, 0, none, 0, 0⟩) 27) := (unhide HXd).set 4 (.int .i64 ix) (by rw [mcs_len]; omega)
                        have HWe0 : Hid (Below w.heap.size w (Wd0.setCell ⟨X, 4, none⟩ (.int .i64 ix))) := Fr.bel (unhide HWd) (set_fr (F := fun k => k = X) rfl) (fun i hi => by omega) hsd
                        have hse0 := (unhide HWe0).size
                        refine hK.out _ _ ⟨(unhide HBe0).cell 4 _ rfl, (unhide HBe0).cell 5 _ rfl, (unhide HBe0).cell 6 _ rfl, (unhide HBe0).cell 8 _ rfl⟩ (fun hHe0 => ?_)
                        clear hK K x4 y4 HBd HXd HWd hsd hH2
                        generalize Wd0.setCell ⟨X, 4, none⟩ (.int .i64 ix) = Wd1 at HBe0 HXe0 HWe0 hse0 hHe0 ⊢
                        refine rtk 10 (h := ?_)
                        have x5 := (unhide HXe0).cell 5 _ rfl
                        have y5 := (unhide HXe0).frz 5
                        refine rcl 11 (h := fun K hK => ?_)
                        go_simp
                        have HBe1 := hide ((unhide HBe0).set_ne 5 (.int .i64 lt) hBX)
                        have HXe1 : Hid (Bx (Wd1.setCell ⟨X, 5, none⟩ (.int .i64 lt)) X (mcs ⟨⟨5, f, t, te, ix, lt, 0, false, [], [], ⟨#[]⟩⟩, none, 0, 0, none, 0, 0⟩) 27) := (unhide HXe0).set 5 (.int .i64 lt) (by rw [mcs_len]; omega)
                        have HWe1 : Hid (Below w.heap.size w (Wd1.setCell ⟨X, 5, none⟩ (.int .i64 lt))) := Fr.bel (unhide HWe0) (set_fr (F := fun k => k = X) rfl) (fun i hi => by omega) hse0
                        have hse1 := (unhide HWe1).size
                        refine hK.out _ _ ⟨(unhide HBe1).cell 4 _ rfl, (unhide HBe1).cell 5 _ rfl, (unhide HBe1).cell 6 _ rfl, (unhide HBe1).cell 8 _ rfl⟩ (fun hHe1 => ?_)
                        clear hK K x5 y5 HBe0 HXe0 HWe0 hse0 hHe0
                        generalize Wd1.setCell ⟨X, 5, none⟩ (.int .i64 lt) = Wd2 at HBe1 HXe1 HWe1 hse1 hHe1 ⊢
                        refine rtk 12 (h := ?_)
                        have x6 := (unhide HXe1).cell 6 _ rfl
                        have y6 := (unhide HXe1).frz 6
                        refine rcl 13 (h := fun K hK => ?_)
                        go_simp
                        have HBe2 := hide ((unhide HBe1).set_ne 6 (.int .i64 co) hBX)
                        have HXe2 : Hid (Bx (Wd2.setCell ⟨X, 6, none⟩ (.int .i64 co)) X (mcs ⟨⟨5, f, t, te, ix, lt, co, false, [], [], ⟨#[]⟩⟩, none, 0, 0, none, 0, 0⟩) 27) := (unhide HXe1).set 6 (.int .i64 co) (by rw [mcs_len]; omega)
                        have HWe2 : Hid (Below w.heap.size w (Wd2.setCell ⟨X, 6, none⟩ (.int .i64 co))) := Fr.bel (unhide HWe1) (set_fr (F := fun k => k = X) rfl) (fun i hi => by omega) hse1
                        have hse2 := (unhide HWe2).size
                        refine hK.out _ _ ⟨(unhide HBe2).cell 4 _ rfl, (unhide HBe2).cell 5 _ rfl, (unhide HBe2).cell 6 _ rfl, (unhide HBe2).cell 8 _ rfl⟩ (fun hHe2 => ?_)
                        clear hK K x6 y6 HBe1 HXe1 HWe1 hse1 hHe1
                        generalize Wd2.setCell ⟨X, 6, none⟩ (.int .i64 co) = Wd3 at HBe2 HXe2 HWe2 hse2 hHe2 ⊢
                        refine rtk 14 (h := ?_)
                        have x8 := (unhide HXe2).cell 8 _ rfl
                        have y8 := (unhide HXe2).frz 8
                        refine rcl 15 (h := fun K hK => ?_)
                        go_simp
                        have HBe3 := hide ((unhide HBe2).set_ne 8 (.slice ea en ec) hBX)
                        have HXe3 : Hid (Bx (Wd3.setCell ⟨X, 8, none⟩ (.slice ea en ec)) X (mcs ⟨⟨5, f, t, te, ix, lt, co, false, es, [], ⟨#[]⟩⟩, ea, en, ec, none, 0, 0⟩) 27) := (unhide HXe2).set 8 (.slice ea en ec) (by rw [mcs_len]; omega)
                        have HWe3 : Hid (Below w.heap.size w (Wd3.setCell ⟨X, 8, none⟩ (.slice ea en ec))) := Fr.bel (unhide HWe2) (set_fr (F := fun k => k = X) rfl) (fun i hi => by omega) hse2
                        have hse3 := (unhide HWe3).size
                        refine hK.out _ _ ⟨(unhide HBe3).cell 4 _ rfl, (unhide HBe3).cell 5 _ rfl, (unhide HBe3).cell 6 _ rfl, (unhide HBe3).cell 8 _ rfl⟩ (fun hHe3 => ?_)
                        clear hK K x8 y8 HBe2 HXe2 HWe2 hse2 hHe2
                        generalize Wd3.setCell ⟨X, 8, none⟩ (.slice ea en ec) = Wd4 at HBe3 HXe3 HWe3 hse3 hHe3 ⊢
                        refine wpAnyH_done (by kernel_rfl) ?_ _
                        refine NoPanic.normal ?_
                        clear hHe3
                        have d4 := (unhide HBe3).cell 4 _ rfl
                        have d5 := (unhide HBe3).cell 5 _ rfl
                        have d8 := (unhide HBe3).cell 8 _ rfl
                        have hix : 0 ≤ ix ∧ ix ≤ 1099511627775 := by have := unhide Hix; unfold inB at this; simpa using this
                        by_cases h16 : en ≤ 16
                        · have g16 : ¬ (16 : Int) < (en : Int) := by omega
                          obtain ⟨bg, hbg⟩ : ∃ b, b = decide (GoOn ix lt es) := ⟨_, rfl⟩
                          have HBG := hide hbg
                          have HRU := hide (runs_any ix lt ea en ec es Wd4 ((unhide HK).1.below (unhide HWe3)) hix.1 (by omega))
                          rw [← hbg] at HRU
                          clear hbg
                          go_wp2_with fail
                          refine (unhide HRU).mono ?_
                          rintro e w5 ⟨rfl, hb5⟩
                          have HB5 := hide ((unhide HBe3).below hb5)
                          have HX5 := hide ((unhide HXe3).below hb5)
                          have HW5 : Hid (Below w.heap.size w w5) := bnx (unhide HWe3) hb5
                          clear hb5 HRU d4 d5 d8
                          have d8 := (unhide HB5).cell 8 _ rfl
                          cases bg
                          · have HF : Hid (d = false) := by
                              show _ = _
                              rw [unhide HDK]; unfold entB; dsimp only; rw [← unhide HBG]; simp
                            go_wp2
                            go_ret
                            exact ⟨by rw [unhide HF]; rfl, HW5⟩
                          · have HGO := hide (p := GoOn ix lt es) (of_decide_eq_true (unhide HBG).symm)
                            obtain ⟨bc, hbc⟩ : ∃ b, b = es.all confB := ⟨_, rfl⟩
                            have HBC := hide hbc
                            have HCF := hide (confs_any ea en ec es w5 ((unhide HK).1.below (unhide HW5)) (fun j hj => (unhide HGO j (by rw [unhide HEL]; exact hj)).2.2.2.2.2.2.2))
                            rw [← hbc] at HCF
                            clear hbc
                            go_wp2_with fail
                            refine (unhide HCF).mono ?_
                            rintro e w6 ⟨rfl, HB65⟩
                            have HB6 := hide ((unhide HB5).below (unhide HB65))
                            have HX6 := hide ((unhide HX5).below (unhide HB65))
                            have HW6 : Hid (Below w.heap.size w w6) := bnx (unhide HW5) (unhide HB65)
                            clear HCF HB65 d8 HB5 HX5 HW5
                            cases bc
                            · have HF : Hid (d = false) := by
                                show _ = _
                                rw [unhide HDK]; unfold entB; dsimp only; rw [← unhide HBC]; simp
                              go_wp2
                              go_ret
                              exact ⟨by rw [unhide HF]; rfl, HW6⟩
                            · have HDE : Hid (d = empB (bsd ⟨5, f, t, te, ix, lt, co, ok, es, ms, dt⟩)) := by
                                show _ = _
                                rw [unhide HDK]
                                unfold entB
                                dsimp only
                                rw [← unhide HBC, ← unhide HBG, unhide HEL, decide_eq_true h16]
                                simp
                              go_upto_region 22 with fail
                              have HKf := hide ((unhide HK).below (unhide HW6))
                              go_step
                              refine wpList_load_mid rfl 27 _ rfl X 0 rfl (mcs ⟨⟨5, f, t, te, ix, lt, co, false, es, [], ⟨#[]⟩⟩, ea, en, ec, none, 0, 0⟩) _ (unhide HX6).range Tryz.underlying27 rfl rpc_size ?_
                              simp only [Act.put, List.setIfInBounds_toArray, List.set_cons_zero, List.set_cons_succ]
                              refine wpList_load_mid rfl 27 _ rfl B 0 rfl (mcs ⟨⟨5, f, t, te, ix, lt, co, ok, es, ms, dt⟩, ea, en, ec, ma, mn, mcp⟩) _ (unhide HB6).range Tryz.underlying27 rfl rpc_size ?_
                              simp only [Act.put, List.setIfInBounds_toArray, List.set_cons_zero, List.set_cons_succ]
                              have HEQ := hide (eqr_any ⟨⟨5, f, t, te, ix, lt, co, false, es, [], ⟨#[]⟩⟩, ea, en, ec, none, 0, 0⟩ ⟨⟨5, f, t, te, ix, lt, co, ok, es, ms, dt⟩, ea, en, ec, ma, mn, mcp⟩ w6 ⟨(unhide HKf).1, (rok0 _).2⟩ (unhide HKf) ⟨rfl, rfl, rfl, rfl⟩)
                              clear HKf
                              go_wp2_with fail
                              refine (unhide HEQ).mono ?_
                              rintro e w9 ⟨⟨b, rfl, hb9⟩, HB9⟩
                              have HBD : Hid (b = d) := by
                                show _ = _
                                rw [unhide HDE]
                                rw [Bool.eq_iff_iff]
                                exact (unhide hb9).trans x_5
                              have HWz : Hid (Below w.heap.size w w9) := bnx (unhide HW6) (unhide HB9)
                              clear hb9 HB9 HEQ
                              go_wp2
                              go_ret
                              exact ⟨ret_bool (unhide HBD), HWz⟩
                        · have g16 : (16 : Int) < (en : Int) := by omega
                          have HF : Hid (d = false) := by
                            show _ = _
                            rw [unhide HDK]; unfold entB; dsimp only; rw [unhide HEL, decide_eq_false h16]; simp
                          go_wp2
                          go_ret
                          exact ⟨by rw [unhide HF]; rfl, HWe3⟩
                      · skip
                        by_cases h6 : k = 6
                        · subst h6
                          have HDK : Hid (d = (empB (bsd ⟨6, f, t, te, ix, lt, co, ok, es, ms, dt⟩) && true)) := by
                            show _ = _
                            rw [unhide HD]
                            unfold mayB
                            rw [hd_ins (by dsimp only; omega) (by dsimp only; omega)]
                            unfold insB
                            dsimp only
                            rw [unhide Hf, unhide Ht, unhide Hte, unhide Hix, unhide Hlt, unhide Hco]
                            rfl
                          go_upto_region 17 with fail
                          refine wp_region_noPanic ?_
                          refine wp_region_held_drew (S := fun W => W.cell? ⟨B, 7, none⟩ = some (.bool ok) ∧ W.cell? ⟨B, 4, none⟩ = some (.int .i64 ix)) (by kernel_rfl) ⟨(unhide HB2).cell 7 _ rfl, (unhide HB2).cell 4 _ rfl⟩ (fun hH2 => ?_)
                          refine rtk 0 (h := ?_)
                          refine rtk 1 (h := ?_)
                          refine rtk 2 (h := ?_)
                          refine rtk 3 (h := ?_)
                          refine rtk 4 (h := ?_)
                          have HBd : Hid (Bx W2.drew B [.int .i64 6, .int .i64 f, .int .i64 t, .int .i64 te, .int .i64 ix, .int .i64 lt, .int .i64 co, .bool ok, .slice ea en ec, .slice ma mn mcp, .string dt] 27) := unhide HB2
                          have HXd : Hid (Bx W2.drew X (mcs ⟨⟨6, f, t, te, 0, 0, 0, false, [], [], ⟨#[]⟩⟩, none, 0, 0, none, 0, 0⟩) 27) := unhide HX2
                          have HWd : Hid (Below w.heap.size w W2.drew) := below_drewN (unhide HW2) 1
                          have hsd : w.heap.size ≤ W2.drew.heap.size := (unhide HWd).size
                          clear HB2 HX2 HW2
                          generalize W2.drew = Wd0 at HBd HXd HWd hsd hH2 ⊢
                          have x7 := (unhide HXd).cell 7 _ rfl
                          have y7 := (unhide HXd).frz 7
                          refine rcl 5 (h := fun K hK => ?_)
                          go_simp
                          have HBe0 := hide ((unhide HBd).set_ne 7 (.bool ok) hBX)
                          have HXe0 : Hid (Bx (Wd0.setCell ⟨X, 7, none⟩ (.bool ok)) X (mcs ⟨⟨6, f, t, te, 0, 0, 0, ok, [], [], ⟨#[]⟩⟩, none, 0, 0, none, 0, 0⟩) 27) := (unhide HXd).set 7 (.bool ok) (by rw [mcs_len]; omega)
                          have HWe0 : Hid (Below w.heap.size w (Wd0.setCell ⟨X, 7, none⟩ (.bool ok))) := Fr.bel (unhide HWd) (set_fr (F := fun k => k = X) rfl) (fun i hi => by omega) hsd
                          have hse0 := (unhide HWe0).size
                          refine hK.out _ _ ⟨(unhide HBe0).cell 7 _ rfl, (unhide HBe0).cell 4 _ rfl⟩ (fun hHe0 => ?_)
                          clear hK K x7 y7 HBd HXd HWd hsd hH2
                          generalize Wd0.setCell ⟨X, 7, none⟩ (.bool ok) = Wd1 at HBe0 HXe0 HWe0 hse0 hHe0 ⊢
                          refine rtk 6 (h := ?_)
                          have x4 := (unhide HXe0).cell 4 _ rfl
                          have y4 := (unhide HXe0).frz 4
                          refine rcl 7 (h := fun K hK => ?_)
                          go_simp
                          have HBe1 := hide ((unhide HBe0).set_ne 4 (.int .i64 ix) hBX)
                          have HXe1 : Hid (Bx (Wd1.setCell ⟨X, 4, none⟩ (.int .i64 ix)) X (mcs ⟨⟨6, f, t, te, ix, 0, 0, ok, [], [], ⟨#[]⟩⟩, none, 0, 0, none, 0, 0⟩) 27) := (unhide HXe0).set 4 (.int .i64 ix) (by rw [mcs_len]; omega)
                          have HWe1 : Hid (Below w.heap.size w (Wd1.setCell ⟨X, 4, none⟩ (.int .i64 ix))) := Fr.bel (unhide HWe0) (set_fr (F := fun k => k = X) rfl) (fun i hi => by omega) hse0
                          have hse1 := (unhide HWe1).size
                          refine hK.out _ _ ⟨(unhide HBe1).cell 7 _ rfl, (unhide HBe1).cell 4 _ rfl⟩ (fun hHe1 => ?_)
                          clear hK K x4 y4 HBe0 HXe0 HWe0 hse0 hHe0
                          generalize Wd1.setCell ⟨X, 4, none⟩ (.int .i64 ix) = Wd2 at HBe1 HXe1 HWe1 hse1 hHe1 ⊢
                          refine wpAnyH_done (by kernel_rfl) ?_ _
                          refine NoPanic.normal ?_
                          clear hHe1
                          go_upto_region 22 with fail
                          have HKf := hide ((unhide HK).below (unhide HWe1))
                          go_step
                          refine wpList_load_mid rfl 27 _ rfl X 0 rfl (mcs ⟨⟨6, f, t, te, ix, 0, 0, ok, [], [], ⟨#[]⟩⟩, none, 0, 0, none, 0, 0⟩) _ (unhide HXe1).range Tryz.underlying27 rfl rpc_size ?_
                          simp only [Act.put, List.setIfInBounds_toArray, List.set_cons_zero, List.set_cons_succ]
                          refine wpList_load_mid rfl 27 _ rfl B 0 rfl (mcs ⟨⟨6, f, t, te, ix, lt, co, ok, es, ms, dt⟩, ea, en, ec, ma, mn, mcp⟩) _ (unhide HBe1).range Tryz.underlying27 rfl rpc_size ?_
                          simp only [Act.put, List.setIfInBounds_toArray, List.set_cons_zero, List.set_cons_succ]
                          have HEQ := hide (eqr_any ⟨⟨6, f, t, te, ix, 0, 0, ok, [], [], ⟨#[]⟩⟩, none, 0, 0, none, 0, 0⟩ ⟨⟨6, f, t, te, ix, lt, co, ok, es, ms, dt⟩, ea, en, ec, ma, mn, mcp⟩ Wd2 ⟨(rok0 _).1, (rok0 _).2⟩ (unhide HKf) ⟨rfl, rfl, rfl, rfl⟩)
                          clear HKf
                          go_wp2_with fail
                          refine (unhide HEQ).mono ?_
                          rintro e w9 ⟨⟨b, rfl, hb9⟩, HB9⟩
                          have HBD : Hid (b = d) := by
                            show _ = _
                            rw [unhide HDK, Bool.and_true]
                            rw [Bool.eq_iff_iff]
                            exact (unhide hb9).trans x_6
                          have HWz : Hid (Below w.heap.size w w9) := bnx (unhide HWe1) (unhide HB9)
                          clear hb9 HB9 HEQ
                          go_wp2
                          go_ret
                          exact ⟨ret_bool (unhide HBD), HWz⟩
                        · skip
                          by_cases h7 : k = 7
                          · subst h7
                            have HDK : Hid (d = (empB (bsd ⟨7, f, t, te, ix, lt, co, ok, es, ms, dt⟩) && snpB ⟨7, f, t, te, ix, lt, co, ok, es, ms, dt⟩)) := by
                              show _ = _
                              rw [unhide HD]
                              unfold mayB
                              rw [hd_ins (by dsimp only; omega) (by dsimp only; omega)]
                              unfold insB
                              dsimp only
                              rw [unhide Hf, unhide Ht, unhide Hte, unhide Hix, unhide Hlt, unhide Hco]
                              rfl
                            have HML : Hid (ms.length = mn) := (unhide HK).2.1
                            go_upto_region 19 with fail
                            refine wp_region_noPanic ?_
                            refine wp_region_held_drew (S := fun W => W.cell? ⟨B, 4, none⟩ = some (.int .i64 ix) ∧ W.cell? ⟨B, 5, none⟩ = some (.int .i64 lt) ∧ W.cell? ⟨B, 9, none⟩ = some (.slice ma mn mcp) ∧ W.cell? ⟨B, 10, none⟩ = some (.string dt)) (by kernel_rfl) ⟨(unhide HB2).cell 4 _ rfl, (unhide HB2).cell 5 _ rfl, (unhide HB2).cell 9 _ rfl, (unhide HB2).cell 10 _ rfl⟩ (fun hH2 => ?_)
                            refine rtk 0 (h := ?_)
                            refine rtk 1 (h := ?_)
                            refine rtk 2 (h := ?_)
                            refine rtk 3 (h := ?_)
                            refine rtk 4 (h := ?_)
                            refine rtk 5 (h := ?_)
                            refine rtk 6 (h := ?_)
                            refine rtk 7 (h := ?_)
                            refine rtk 8 (h := ?_)
                            have HBd : Hid (Bx W2.drew B [.int .i64 7, .int .i64 f, .int .i64 t, .int .i64 te, .int .i64 ix, .int .i64 lt, .int .i64 co, .bool ok, .slice ea en ec, .slice ma mn mcp, .string dt] 27) := unhide HB2
                            have HXd : Hid (Bx W2.drew X (mcs ⟨⟨7, f, t, te, 0, 0, 0, false, [], [], ⟨#[]⟩⟩, none, 0, 0, none, 0, 0⟩) 27) := unhide HX2
                            have HWd : Hid (Below w.heap.size w W2.drew) := below_drewN (unhide HW2) 1
                            have hsd : w.heap.size ≤ W2.drew.heap.size := (unhide HWd).size
                            clear HB2 HX2 HW2
                            generalize W2.drew = Wd0 at HBd HXd HWd hsd hH2 ⊢
                            have x4 := (unhide HXd).cell 4 _ rfl
                            have y4 := (unhide HXd).frz 4
                            refine rcl 9 (h := fun K hK => ?_)
                            go_simp
                            have HBe0 := hide ((unhide HBd).set_ne 4 (.int .i64 ix) hBX)
                            have HXe0 : Hid (Bx (Wd0.setCell ⟨X, 4, none⟩ (.int .i64 ix)) X (mcs ⟨⟨7, f, t, te, ix, 0, 0, false, [], [], ⟨#[]⟩⟩, none, 0, 0, none, 0, 0⟩) 27) := (unhide HXd).set 4 (.int .i64 ix) (by rw [mcs_len]; omega)
                            have HWe0 : Hid (Below w.heap.size w (Wd0.setCell ⟨X, 4, none⟩ (.int .i64 ix))) := Fr.bel (unhide HWd) (set_fr (F := fun k => k = X) rfl) (fun i hi => by omega) hsd
                            have hse0 := (unhide HWe0).size
                            refine hK.out _ _ ⟨(unhide HBe0).cell 4 _ rfl, (unhide HBe0).cell 5 _ rfl, (unhide HBe0).cell 9 _ rfl, (unhide HBe0).cell 10 _ rfl⟩ (fun hHe0 => ?_)
                            clear hK K x4 y4 HBd HXd HWd hsd hH2
                            generalize Wd0.setCell ⟨X, 4, none⟩ (.int .i64 ix) = Wd1 at HBe0 HXe0 HWe0 hse0 hHe0 ⊢
                            refine rtk 10 (h := ?_)
                            have x5 := (unhide HXe0).cell 5 _ rfl
                            have y5 := (unhide HXe0).frz 5
                            refine rcl 11 (h := fun K hK => ?_)
                            go_simp
                            have HBe1 := hide ((unhide HBe0).set_ne 5 (.int .i64 lt) hBX)
                            have HXe1 : Hid (Bx (Wd1.setCell ⟨X, 5, none⟩ (.int .i64 lt)) X (mcs ⟨⟨7, f, t, te, ix, lt, 0, false, [], [], ⟨#[]⟩⟩, none, 0, 0, none, 0, 0⟩) 27) := (unhide HXe0).set 5 (.int .i64 lt) (by rw [mcs_len]; omega)
                            have HWe1 : Hid (Below w.heap.size w (Wd1.setCell ⟨X, 5, none⟩ (.int .i64 lt))) := Fr.bel (unhide HWe0) (set_fr (F := fun k => k = X) rfl) (fun i hi => by omega) hse0
                            have hse1 := (unhide HWe1).size
                            refine hK.out _ _ ⟨(unhide HBe1).cell 4 _ rfl, (unhide HBe1).cell 5 _ rfl, (unhide HBe1).cell 9 _ rfl, (unhide HBe1).cell 10 _ rfl⟩ (fun hHe1 => ?_)
                            clear hK K x5 y5 HBe0 HXe0 HWe0 hse0 hHe0
                            generalize Wd1.setCell ⟨X, 5, none⟩ (.int .i64 lt) = Wd2 at HBe1 HXe1 HWe1 hse1 hHe1 ⊢
                            refine rtk 12 (h := ?_)
                            have x9 := (unhide HXe1).cell 9 _ rfl
                            have y9 := (unhide HXe1).frz 9
                            refine rcl 13 (h := fun K hK => ?_)
                            go_simp
                            have HBe2 := hide ((unhide HBe1).set_ne 9 (.slice ma mn mcp) hBX)
                            have HXe2 : Hid (Bx (Wd2.setCell ⟨X, 9, none⟩ (.slice ma mn mcp)) X (mcs ⟨⟨7, f, t, te, ix, lt, 0, false, [], ms, ⟨#[]⟩⟩, none, 0, 0, ma, mn, mcp⟩) 27) := (unhide HXe1).set 9 (.slice ma mn mcp) (by rw [mcs_len]; omega)
                            have HWe2 : Hid (Below w.heap.size w (Wd2.setCell ⟨X, 9, none⟩ (.slice ma mn mcp))) := Fr.bel (unhide HWe1) (set_fr (F := fun k => k = X) rfl) (fun i hi => by omega) hse1
                            have hse2 := (unhide HWe2).size
                            refine hK.out _ _ ⟨(unhide HBe2).cell 4 _ rfl, (unhide HBe2).cell 5 _ rfl, (unhide HBe2).cell 9 _ rfl, (unhide HBe2).cell 10 _ rfl⟩ (fun hHe2 => ?_)
                            clear hK K x9 y9 HBe1 HXe1 HWe1 hse1 hHe1
                            generalize Wd2.setCell ⟨X, 9, none⟩ (.slice ma mn mcp) = Wd3 at HBe2 HXe2 HWe2 hse2 hHe2 ⊢
                            refine rtk 14 (h := ?_)
                            have x10 := (unhide HXe2).cell 10 _ rfl
                            have y10 := (unhide HXe2).frz 10
                            refine rcl 15 (h := fun K hK => ?_)
                            go_simp
                            have HBe3 := hide ((unhide HBe2).set_ne 10 (.string dt) hBX)
                            have HXe3 : Hid (Bx (Wd3.setCell ⟨X, 10, none⟩ (.string dt)) X (mcs ⟨⟨7, f, t, te, ix, lt, 0, false, [], ms, dt⟩, none, 0, 0, ma, mn, mcp⟩) 27) := (unhide HXe2).set 10 (.string dt) (by rw [mcs_len]; omega)
                            have HWe3 : Hid (Below w.heap.size w (Wd3.setCell ⟨X, 10, none⟩ (.string dt))) := Fr.bel (unhide HWe2) (set_fr (F := fun k => k = X) rfl) (fun i hi => by omega) hse2
                            have hse3 := (unhide HWe3).size
                            refine hK.out _ _ ⟨(unhide HBe3).cell 4 _ rfl, (unhide HBe3).cell 5 _ rfl, (unhide HBe3).cell 9 _ rfl, (unhide HBe3).cell 10 _ rfl⟩ (fun hHe3 => ?_)
                            clear hK K x10 y10 HBe2 HXe2 HWe2 hse2 hHe2
                            generalize Wd3.setCell ⟨X, 10, none⟩ (.string dt) = Wd4 at HBe3 HXe3 HWe3 hse3 hHe3 ⊢
                            refine wpAnyH_done (by kernel_rfl) ?_ _
                            refine NoPanic.normal ?_
                            clear hHe3
                            have d4 := (unhide HBe3).cell 4 _ rfl
                            have d9 := (unhide HBe3).cell 9 _ rfl
                            have d10 := (unhide HBe3).cell 10 _ rfl
                            have hix : 0 ≤ ix ∧ ix ≤ 1099511627775 := by have := unhide Hix; unfold inB at this; simpa using this
                            by_cases h0 : ix = 0
                            · have HF0 : Hid (d = false) := by
                                show _ = _
                                rw [unhide HDK]
                                unfold snpB
                                dsimp only
                                rw [decide_eq_false (show ¬ 1 ≤ ix by omega)]
                                simp
                              subst h0
                              go_wp2
                              go_ret
                              exact ⟨by rw [unhide HF0]; rfl, HWe3⟩
                            · have h1 : 1 ≤ ix := by omega
                              have g0e : (ix == 0) = false := beq_false_of_ne h0
                              by_cases h2 : ix ≤ 1099511625728
                              · have g2 : ¬ 1099511625728 < ix := by omega
                                by_cases h3 : mn = 0
                                · have HF0 : Hid (d = false) := by
                                    show _ = _
                                    rw [unhide HDK]
                                    unfold snpB memB
                                    dsimp only
                                    rw [unhide HML, h3]
                                    simp
                                  subst h3
                                  go_wp2
                                  go_ret
                                  exact ⟨by rw [unhide HF0]; rfl, HWe3⟩
                                · have g3 : ¬ (mn : Int) = 0 := by omega
                                  have g3e : ((mn : Int) == 0) = false := beq_false_of_ne g3
                                  obtain ⟨bm, hbm⟩ : ∃ b, b = decide (Mem ms) := ⟨_, rfl⟩
                                  have HBM := hide hbm
                                  have HRM := hide (rmem_any ma mn mcp ms Wd4 ((unhide HK).2.below (unhide HWe3)))
                                  rw [← hbm] at HRM
                                  clear hbm
                                  go_wp2_with fail
                                  refine (unhide HRM).mono ?_
                                  rintro e w6 ⟨rfl, q6, hw6⟩
                                  have HB6 : Hid (Bx w6 B [.int .i64 7, .int .i64 f, .int .i64 t, .int .i64 te, .int .i64 ix, .int .i64 lt, .int .i64 co, .bool ok, .slice ea en ec, .slice ma mn mcp, .string dt] 27) := by show Bx _ _ _ _; rw [hw6]; exact unhide HBe3
                                  have HX6 : Hid (Bx w6 X (mcs ⟨⟨7, f, t, te, ix, lt, 0, false, [], ms, dt⟩, none, 0, 0, ma, mn, mcp⟩) 27) := by show Bx _ _ _ _; rw [hw6]; exact unhide HXe3
                                  have HW6 : Hid (Below w.heap.size w w6) := by show Below _ _ _; rw [hw6]; exact below_drewN (unhide HWe3) q6
                                  clear hw6 HRM d4 d9 d10 HBe3 HXe3 HWe3 hse3
                                  have d10 := (unhide HB6).cell 10 _ rfl
                                  cases bm
                                  · have HF : Hid (d = false) := by
                                      show _ = _
                                      rw [unhide HDK]; unfold snpB memB; dsimp only; rw [← unhide HBM]; simp
                                    go_wp2
                                    go_ret
                                    exact ⟨by rw [unhide HF]; rfl, HW6⟩
                                  · by_cases h4 : dt.size ≤ 524288
                                    · have g4 : ¬ (524288 : Int) < (dt.size : Int) := by omega
                                      have g4n : ¬ 524288 < dt.size := by omega
                                      have g4d : decide ((524288 : Int) < (dt.size : Int)) = false := decide_eq_false g4
                                      have HDE : Hid (d = empB (bsd ⟨7, f, t, te, ix, lt, co, ok, es, ms, dt⟩)) := by
                                        show _ = _
                                        rw [unhide HDK]
                                        unfold snpB memB
                                        dsimp only
                                        rw [← unhide HBM, unhide HML, decide_eq_true h1, decide_eq_true h2, decide_eq_true h4, decide_eq_true h3]
                                        simp
                                      go_upto_region 22 with fail
                                      have HKf := hide ((unhide HK).below (unhide HW6))
                                      go_step
                                      refine wpList_load_mid rfl 27 _ rfl X 0 rfl (mcs ⟨⟨7, f, t, te, ix, lt, 0, false, [], ms, dt⟩, none, 0, 0, ma, mn, mcp⟩) _ (unhide HX6).range Tryz.underlying27 rfl rpc_size ?_
                                      simp only [Act.put, List.setIfInBounds_toArray, List.set_cons_zero, List.set_cons_succ]
                                      refine wpList_load_mid rfl 27 _ rfl B 0 rfl (mcs ⟨⟨7, f, t, te, ix, lt, co, ok, es, ms, dt⟩, ea, en, ec, ma, mn, mcp⟩) _ (unhide HB6).range Tryz.underlying27 rfl rpc_size ?_
                                      simp only [Act.put, List.setIfInBounds_toArray, List.set_cons_zero, List.set_cons_succ]
                                      have HEQ := hide (eqr_any ⟨⟨7, f, t, te, ix, lt, 0, false, [], ms, dt⟩, none, 0, 0, ma, mn, mcp⟩ ⟨⟨7, f, t, te, ix, lt, co, ok, es, ms, dt⟩, ea, en, ec, ma, mn, mcp⟩ w6 ⟨(rok0 _).1, (unhide HKf).2⟩ (unhide HKf) ⟨rfl, rfl, rfl, rfl⟩)
                                      clear HKf
                                      go_wp2_with fail
                                      refine (unhide HEQ).mono ?_
                                      rintro e w9 ⟨⟨b, rfl, hb9⟩, HB9⟩
                                      have HBD : Hid (b = d) := by
                                        show _ = _
                                        rw [unhide HDE]
                                        rw [Bool.eq_iff_iff]
                                        exact (unhide hb9).trans x_7
                                      have HWz : Hid (Below w.heap.size w w9) := bnx (unhide HW6) (unhide HB9)
                                      clear hb9 HB9 HEQ
                                      go_wp2
                                      go_ret
                                      exact ⟨ret_bool (unhide HBD), HWz⟩
                                    · have g4 : (524288 : Int) < (dt.size : Int) := by omega
                                      have HF : Hid (d = false) := by
                                        show _ = _
                                        rw [unhide HDK]; unfold snpB; dsimp only; rw [decide_eq_false h4]; simp
                                      go_wp2
                                      go_ret
                                      exact ⟨by rw [unhide HF]; rfl, HW6⟩
                              · have g2 : 1099511625728 < ix := by omega
                                have HF : Hid (d = false) := by
                                  show _ = _
                                  rw [unhide HDK]; unfold snpB; dsimp only; rw [decide_eq_false h2]; simp
                                go_wp2
                                go_ret
                                exact ⟨by rw [unhide HF]; rfl, HWe3⟩
                          · skip
                            have HF : Hid (d = false) := by
                              show _ = _
                              rw [unhide HD]; exact may_kind (by dsimp only; omega)
                            go_wp2
                            go_ret
                            exact ⟨by rw [unhide HF]; rfl, HW2⟩
end Go.Proofs.YtmmhdhpocjnlbaaGreatDoor.Jr
