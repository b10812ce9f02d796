/- Proved here: dovecotelaw17.Heavy answers, whatever the message. Helper contract. -/
import Derived.Test.YtmmhdhpocjnlbaaGreatDoorZJLw
import Derived.Test.YtmmhdhpocjnlbaaGreatDoorZEEq
import Derived.Test.YtmmhdhpocjnlbaaGreatDoorZKTk
namespace Go.Proofs.YtmmhdhpocjnlbaaGreatDoor.Jr
open Go.RowKit Nt Et Qu
set_option maxRecDepth 100000

/-- yes or no -/
def AnyB (e : Ending) : Prop := ∃ b : Bool, e = .returned (.bool b)
set_option maxHeartbeats 4000000 in
theorem heavyR_any (q : Mq) (w : World) (h : Rok w q) : Calls Tryz.prog 4 #[.agg (mcs q).toArray] w fun e w' => AnyB e ∧ Hid (Below w.heap.size w w') := by
  obtain ⟨⟨k, f, t, te, ix, lt, co, ok, es, ms, dt⟩, ea, en, ec, ma, mn, mcp⟩ := q
  show Calls Tryz.prog 4 #[.agg #[.int .i64 k, .int .i64 f, .int .i64 t, .int .i64 te, .int .i64 ix, .int .i64 lt, .int .i64 co, .bool ok, .slice ea en ec, .slice ma mn mcp, .string dt]] w _
  obtain ⟨B, hB⟩ : ∃ B, B = w.heap.size := ⟨_, rfl⟩
  have HB : Hid (Bx (w.alloc (.cells #[.int .i64 k, .int .i64 f, .int .i64 t, .int .i64 te, .int .i64 ix, .int .i64 lt, .int .i64 co, .bool ok, .slice ea en ec, .slice ma mn mcp, .string dt] 27)) B [.int .i64 k, .int .i64 f, .int .i64 t, .int .i64 te, .int .i64 ix, .int .i64 lt, .int .i64 co, .bool ok, .slice ea en ec, .slice ma mn mcp, .string dt] 27) := Bx.new w [.int .i64 k, .int .i64 f, .int .i64 t, .int .i64 te, .int .i64 ix, .int .i64 lt, .int .i64 co, .bool ok, .slice ea en ec, .slice ma mn mcp, .string dt] 27 B hB
  have HW : Hid (Below w.heap.size w (w.alloc (.cells #[.int .i64 k, .int .i64 f, .int .i64 t, .int .i64 te, .int .i64 ix, .int .i64 lt, .int .i64 co, .bool ok, .slice ea en ec, .slice ma mn mcp, .string dt] 27))) := al_below _ _
  have HE := hide (h.1.below (unhide HW))
  clear h
  go_enter Tryz.func4, Tryz.ntmps4
  go_upto_region 1 with fail
  change Code.wp _ _ _ _ (w.alloc (.cells #[.int .i64 k, .int .i64 f, .int .i64 t, .int .i64 te, .int .i64 ix, .int .i64 lt, .int .i64 co, .bool ok, .slice ea en ec, .slice ma mn mcp, .string dt] 27))
  rw [← hB]
  generalize w.alloc (.cells #[.int .i64 k, .int .i64 f, .int .i64 t, .int .i64 te, .int .i64 ix, .int .i64 lt, .int .i64 co, .bool ok, .slice ea en ec, .slice ma mn mcp, .string dt] 27) = W at HB HW HE ⊢
  clear hB
  refine wp_region_noPanic ?_
  refine wp_region_held_drew (S := fun W => W.cell? ⟨B, 8, none⟩ = some (.slice ea en ec) ∧ W.cell? ⟨B, 9, none⟩ = some (.slice ma mn mcp) ∧ W.cell? ⟨B, 10, none⟩ = some (.string dt)) (by kernel_rfl) ⟨(unhide HB).cell 8 _ rfl, (unhide HB).cell 9 _ rfl, (unhide HB).cell 10 _ rfl⟩ (fun hH => ?_)
  refine rtk 0 (h := ?_)
  refine rtk 1 (h := ?_)
  refine rtk 2 (h := ?_)
  refine rtk 3 (h := ?_)
  refine rtk 4 (h := ?_)
  refine rtk 7 (h := ?_)
  refine rtk 8 (h := ?_)
  refine rtk 9 (h := ?_)
  have HEd : Hid (Es W.drew ea en ec es) := unhide HE
  have HWd : Hid (Below w.heap.size w W.drew) := below_drewN (unhide HW) 1
  clear HE HW HB
  generalize W.drew = wd at HEd HWd hH ⊢
  refine rcl 5 (h := fun K hK => ?_)
  go_simp
  refine (lw_any ea en ec es wd (unhide HEd)).mono ?_
  rintro e w' ⟨⟨z, rfl⟩, hw'⟩
  obtain rfl := hw'.symm
  refine hK.out _ _ hH (fun hH2 => ?_)
  clear hK K hw'
  refine rtk 6 (h := ?_)
  refine rtk 10 (h := ?_)
  refine rtk 11 (h := ?_)
  refine rtk 12 (h := ?_)
  generalize decide ((20000 : Int) < IntKind.i64.wrap (IntKind.i64.wrap ((dt.size : Int) + z) + (mn : Int))) = bb
  cases bb
  · refine rtk 13 (h := ?_)
    refine rtk 14 (h := ?_)
    refine rtk 15 (h := ?_)
    refine rtk 16 (h := ?_)
    refine rtk 17 (h := ?_)
    refine rtk 18 (h := ?_)
    refine wpAnyH_done (by kernel_rfl) ?_ _
    refine NoPanic.normal ?_
    go_wp2
    go_ret
    exact ⟨⟨_, rfl⟩, HWd⟩
  · refine rsk 13 (h := ?_)
    refine rsk 14 (h := ?_)
    refine rsk 15 (h := ?_)
    refine rsk 16 (h := ?_)
    refine rtk 17 (h := ?_)
    refine rtk 18 (h := ?_)
    refine wpAnyH_done (by kernel_rfl) ?_ _
    refine NoPanic.normal ?_
    go_wp2
    go_ret
    exact ⟨⟨_, rfl⟩, HWd⟩
end Go.Proofs.YtmmhdhpocjnlbaaGreatDoor.Jr
