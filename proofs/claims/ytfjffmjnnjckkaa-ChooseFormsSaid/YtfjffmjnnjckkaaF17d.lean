/- Stage 17: tails (written by gen_17d.py). -/
import Derived.Test.YtfjffmjnnjckkaaF17c
import Derived.Test.YtfjffmjnnjckkaaSup17
namespace Go.Proofs.Ytfjffmjnnjckkaa
set_option maxRecDepth 20000
open Go.RowKit Go.Px Go.Maps
set_option linter.unusedVariables false
set_option linter.unusedSimpArgs false
theorem tl_led {w : World} {Q : Nat → Prop} {x : TailD} {cs : List Value} (h : tyTail.Is w Q x cs) : tyLedger.Is w Q (tlL x) (cs.drop 3) := by
  obtain ⟨_, _, _, h⟩ := h
  rw [List.drop_drop, List.drop_drop] at h
  exact h
set_option maxRecDepth 20000 in
set_option maxHeartbeats 1600000 in
theorem lies_any {w : World} {Q : Nat → Prop} {x : TailD} {cs : List Value} (h : tyTail.Is w Q x cs) : Calls Try.prog 28 #[.agg cs.toArray] w fun e w' => e = .returned (.agg (cs.drop 3 ++ [Value.int .i64 x.2.1]).toArray) ∧ Below w.heap.size w w' := by
  obtain ⟨tNode, tNormal, tCommit, tStateNum, tStateShapeBlocks, tStateShapeSize, tStatePages, tStatePagesA, tStatePagesn, tStatePagesc, tStatePagesv, tStateRows, tStateRowsA, tStateRowsn, tStateRowsc, tStateRowsv, tStateGroupEpoch, tStateGroupMembers, tStateGroupMembersA, tStateGroupMembersn, tStateGroupMembersc, tStateGroupMembersv, tLog, tLogA, tLogn, tLogc, tLogv, rfl, rfl, h1_tNode, h2_tNode, h1_tNormal, h2_tNormal, h1_tCommit, h2_tCommit, h1_tStateNum, h2_tStateNum, h1_tStateShapeBlocks, h2_tStateShapeBlocks, h1_tStateShapeSize, h2_tStateShapeSize, hl_tStatePages, hc_tStatePages, hm_tStatePages, hr_tStatePages, hq_tStatePages, he_tStatePages, hl_tStateRows, hc_tStateRows, hm_tStateRows, hr_tStateRows, hq_tStateRows, he_tStateRows, h1_tStateGroupEpoch, h2_tStateGroupEpoch, hl_tStateGroupMembers, hc_tStateGroupMembers, hm_tStateGroupMembers, hr_tStateGroupMembers, hq_tStateGroupMembers, he_tStateGroupMembers, hl_tLog, hc_tLog, hm_tLog, hr_tLog, hq_tLog, he_tLog⟩ := Tail_out h
  obtain ⟨g, hg⟩ : ∃ g, w.heap.size = g := ⟨_, rfl⟩
  obtain ⟨w0, hw0⟩ : ∃ x, (w.alloc (.cells #[.int .i64 tNode, .int .i64 tNormal, .int .i64 tCommit, .int .i64 tStateNum, .int .i64 tStateShapeBlocks, .int .i64 tStateShapeSize, .slice tStatePagesA tStatePagesn tStatePagesc, .slice tStateRowsA tStateRowsn tStateRowsc, .int .i64 tStateGroupEpoch, .slice tStateGroupMembersA tStateGroupMembersn tStateGroupMembersc, .slice tLogA tLogn tLogc] 33)).alloc (.cells #[.int .i64 0, .int .i64 0, .int .i64 0, .slice none 0 0, .slice none 0 0, .int .i64 0, .slice none 0 0, .slice none 0 0, .int .i64 0] 70) = x := ⟨_, rfl⟩
  have hP : Blk w0 g [.int .i64 tNode, .int .i64 tNormal, .int .i64 tCommit, .int .i64 tStateNum, .int .i64 tStateShapeBlocks, .int .i64 tStateShapeSize, .slice tStatePagesA tStatePagesn tStatePagesc, .slice tStateRowsA tStateRowsn tStateRowsc, .int .i64 tStateGroupEpoch, .slice tStateGroupMembersA tStateGroupMembersn tStateGroupMembersc, .slice tLogA tLogn tLogc] 33 := by rw [← hw0, ← hg]; exact (Blk.new w [.int .i64 tNode, .int .i64 tNormal, .int .i64 tCommit, .int .i64 tStateNum, .int .i64 tStateShapeBlocks, .int .i64 tStateShapeSize, .slice tStatePagesA tStatePagesn tStatePagesc, .slice tStateRowsA tStateRowsn tStateRowsc, .int .i64 tStateGroupEpoch, .slice tStateGroupMembersA tStateGroupMembersn tStateGroupMembersc, .slice tLogA tLogn tLogc] _).alloc _
  have hZ : Blk w0 (g + 1) [.int .i64 0, .int .i64 0, .int .i64 0, .slice none 0 0, .slice none 0 0, .int .i64 0, .slice none 0 0, .slice none 0 0, .int .i64 0] 70 := by
    rw [← hw0, ← hg]
    have := Blk.new (w.alloc (.cells #[.int .i64 tNode, .int .i64 tNormal, .int .i64 tCommit, .int .i64 tStateNum, .int .i64 tStateShapeBlocks, .int .i64 tStateShapeSize, .slice tStatePagesA tStatePagesn tStatePagesc, .slice tStateRowsA tStateRowsn tStateRowsc, .int .i64 tStateGroupEpoch, .slice tStateGroupMembersA tStateGroupMembersn tStateGroupMembersc, .slice tLogA tLogn tLogc] 33)) [.int .i64 0, .int .i64 0, .int .i64 0, .slice none 0 0, .slice none 0 0, .int .i64 0, .slice none 0 0, .slice none 0 0, .int .i64 0] 70
    rwa [World.size_alloc] at this
  have hb0 : Below w.heap.size w w0 := by rw [← hw0]; exact ((Below.refl _ _).alloc (Nat.le_refl _) _).alloc (by simp) _
  have y0 := Blk.cell hP (j := 0) rfl; have y1 := Blk.cell hP (j := 1) rfl; have y2 := Blk.cell hP (j := 2) rfl; have y3 := Blk.cell hP (j := 3) rfl; have y4 := Blk.cell hP (j := 4) rfl; have y5 := Blk.cell hP (j := 5) rfl; have y6 := Blk.cell hP (j := 6) rfl; have y7 := Blk.cell hP (j := 7) rfl; have y8 := Blk.cell hP (j := 8) rfl; have y9 := Blk.cell hP (j := 9) rfl; have y10 := Blk.cell hP (j := 10) rfl
  go_enter Try.func28, Try.ntmps28
  go_wp2_with (first | (with_reducible refine stop_store 70 rfl ?_))
  try rw [hw0]
  refine go_store rfl rfl rfl (by rw [← hg]; rfl) rfl hZ (by kernel_rfl) rfl (by intro u hu; simp only [List.mem_cons, List.not_mem_nil, or_false] at hu; rcases hu with rfl | rfl | rfl | rfl | rfl | rfl | rfl | rfl | rfl <;> rfl) ?_
  go_wp2
  refine bodyPost_ret (results_cell rfl rfl (hZ.setAll [.int .i64 tStateNum, .int .i64 tStateShapeBlocks, .int .i64 tStateShapeSize, .slice tStatePagesA tStatePagesn tStatePagesc, .slice tStateRowsA tStateRowsn tStateRowsc, .int .i64 tStateGroupEpoch, .slice tStateGroupMembersA tStateGroupMembersn tStateGroupMembersc, .slice tLogA tLogn tLogc, .int .i64 tNormal]) Try.underlying70 rfl (by kernel_rfl)) rfl ?_
  exact ⟨rfl, below_setRow hb0 (by omega) _⟩
set_option maxRecDepth 20000 in
set_option maxHeartbeats 1600000 in
theorem rledger_any {w : World} {Q : Nat → Prop} {x : TailD} {cs : List Value} (h : tyTail.Is w Q x cs) : Calls Try.prog 33 #[.agg cs.toArray] w fun e w' => e = .returned (.agg (cs.drop 3).toArray) ∧ Below w.heap.size w w' := by
  obtain ⟨tNode, tNormal, tCommit, tStateNum, tStateShapeBlocks, tStateShapeSize, tStatePages, tStatePagesA, tStatePagesn, tStatePagesc, tStatePagesv, tStateRows, tStateRowsA, tStateRowsn, tStateRowsc, tStateRowsv, tStateGroupEpoch, tStateGroupMembers, tStateGroupMembersA, tStateGroupMembersn, tStateGroupMembersc, tStateGroupMembersv, tLog, tLogA, tLogn, tLogc, tLogv, rfl, rfl, h1_tNode, h2_tNode, h1_tNormal, h2_tNormal, h1_tCommit, h2_tCommit, h1_tStateNum, h2_tStateNum, h1_tStateShapeBlocks, h2_tStateShapeBlocks, h1_tStateShapeSize, h2_tStateShapeSize, hl_tStatePages, hc_tStatePages, hm_tStatePages, hr_tStatePages, hq_tStatePages, he_tStatePages, hl_tStateRows, hc_tStateRows, hm_tStateRows, hr_tStateRows, hq_tStateRows, he_tStateRows, h1_tStateGroupEpoch, h2_tStateGroupEpoch, hl_tStateGroupMembers, hc_tStateGroupMembers, hm_tStateGroupMembers, hr_tStateGroupMembers, hq_tStateGroupMembers, he_tStateGroupMembers, hl_tLog, hc_tLog, hm_tLog, hr_tLog, hq_tLog, he_tLog⟩ := Tail_out h
  obtain ⟨g, hg⟩ : ∃ g, w.heap.size = g := ⟨_, rfl⟩
  obtain ⟨w0, hw0⟩ : ∃ x, (w.alloc (.cells #[.int .i64 tNode, .int .i64 tNormal, .int .i64 tCommit, .int .i64 tStateNum, .int .i64 tStateShapeBlocks, .int .i64 tStateShapeSize, .slice tStatePagesA tStatePagesn tStatePagesc, .slice tStateRowsA tStateRowsn tStateRowsc, .int .i64 tStateGroupEpoch, .slice tStateGroupMembersA tStateGroupMembersn tStateGroupMembersc, .slice tLogA tLogn tLogc] 33)).alloc (.cells #[.int .i64 0, .int .i64 0, .int .i64 0, .slice none 0 0, .slice none 0 0, .int .i64 0, .slice none 0 0, .slice none 0 0] 42) = x := ⟨_, rfl⟩
  have hP : Blk w0 g [.int .i64 tNode, .int .i64 tNormal, .int .i64 tCommit, .int .i64 tStateNum, .int .i64 tStateShapeBlocks, .int .i64 tStateShapeSize, .slice tStatePagesA tStatePagesn tStatePagesc, .slice tStateRowsA tStateRowsn tStateRowsc, .int .i64 tStateGroupEpoch, .slice tStateGroupMembersA tStateGroupMembersn tStateGroupMembersc, .slice tLogA tLogn tLogc] 33 := by rw [← hw0, ← hg]; exact (Blk.new w [.int .i64 tNode, .int .i64 tNormal, .int .i64 tCommit, .int .i64 tStateNum, .int .i64 tStateShapeBlocks, .int .i64 tStateShapeSize, .slice tStatePagesA tStatePagesn tStatePagesc, .slice tStateRowsA tStateRowsn tStateRowsc, .int .i64 tStateGroupEpoch, .slice tStateGroupMembersA tStateGroupMembersn tStateGroupMembersc, .slice tLogA tLogn tLogc] _).alloc _
  have hZ : Blk w0 (g + 1) [.int .i64 0, .int .i64 0, .int .i64 0, .slice none 0 0, .slice none 0 0, .int .i64 0, .slice none 0 0, .slice none 0 0] 42 := by
    rw [← hw0, ← hg]
    have := Blk.new (w.alloc (.cells #[.int .i64 tNode, .int .i64 tNormal, .int .i64 tCommit, .int .i64 tStateNum, .int .i64 tStateShapeBlocks, .int .i64 tStateShapeSize, .slice tStatePagesA tStatePagesn tStatePagesc, .slice tStateRowsA tStateRowsn tStateRowsc, .int .i64 tStateGroupEpoch, .slice tStateGroupMembersA tStateGroupMembersn tStateGroupMembersc, .slice tLogA tLogn tLogc] 33)) [.int .i64 0, .int .i64 0, .int .i64 0, .slice none 0 0, .slice none 0 0, .int .i64 0, .slice none 0 0, .slice none 0 0] 42
    rwa [World.size_alloc] at this
  have hb0 : Below w.heap.size w w0 := by rw [← hw0]; exact ((Below.refl _ _).alloc (Nat.le_refl _) _).alloc (by simp) _
  have y0 := Blk.cell hP (j := 0) rfl; have y1 := Blk.cell hP (j := 1) rfl; have y2 := Blk.cell hP (j := 2) rfl; have y3 := Blk.cell hP (j := 3) rfl; have y4 := Blk.cell hP (j := 4) rfl; have y5 := Blk.cell hP (j := 5) rfl; have y6 := Blk.cell hP (j := 6) rfl; have y7 := Blk.cell hP (j := 7) rfl; have y8 := Blk.cell hP (j := 8) rfl; have y9 := Blk.cell hP (j := 9) rfl; have y10 := Blk.cell hP (j := 10) rfl
  go_enter Try.func33, Try.ntmps33
  go_wp2_with (first | (with_reducible refine stop_store 42 rfl ?_))
  try rw [hw0]
  refine go_store rfl rfl rfl (by rw [← hg]; rfl) rfl hZ (by kernel_rfl) rfl (by intro u hu; simp only [List.mem_cons, List.not_mem_nil, or_false] at hu; rcases hu with rfl | rfl | rfl | rfl | rfl | rfl | rfl | rfl <;> rfl) ?_
  go_wp2
  refine bodyPost_ret (results_cell rfl rfl (hZ.setAll [.int .i64 tStateNum, .int .i64 tStateShapeBlocks, .int .i64 tStateShapeSize, .slice tStatePagesA tStatePagesn tStatePagesc, .slice tStateRowsA tStateRowsn tStateRowsc, .int .i64 tStateGroupEpoch, .slice tStateGroupMembersA tStateGroupMembersn tStateGroupMembersc, .slice tLogA tLogn tLogc]) Try.underlying42 rfl (by kernel_rfl)) rfl ?_
  exact ⟨rfl, below_setRow hb0 (by omega) _⟩
set_option maxRecDepth 20000 in
set_option maxHeartbeats 1600000 in
theorem lyLast_any {w : World} {Q : Nat → Prop} {x : LedgerD} {cs : List Value} (nm : Int) (h : tyLedger.Is w Q x cs) : Calls Try.prog 32 #[.agg (cs ++ [Value.int .i64 nm]).toArray] w fun e w' => e = .returned (.int .i64 (lastW x)) ∧ Below w.heap.size w w' := by
  have hL := h
  obtain ⟨xStateNum, xStateShapeBlocks, xStateShapeSize, xStatePages, xStatePagesA, xStatePagesn, xStatePagesc, xStatePagesv, xStateRows, xStateRowsA, xStateRowsn, xStateRowsc, xStateRowsv, xStateGroupEpoch, xStateGroupMembers, xStateGroupMembersA, xStateGroupMembersn, xStateGroupMembersc, xStateGroupMembersv, xLog, xLogA, xLogn, xLogc, xLogv, rfl, rfl, h1_xStateNum, h2_xStateNum, h1_xStateShapeBlocks, h2_xStateShapeBlocks, h1_xStateShapeSize, h2_xStateShapeSize, hl_xStatePages, hc_xStatePages, hm_xStatePages, hr_xStatePages, hq_xStatePages, he_xStatePages, hl_xStateRows, hc_xStateRows, hm_xStateRows, hr_xStateRows, hq_xStateRows, he_xStateRows, h1_xStateGroupEpoch, h2_xStateGroupEpoch, hl_xStateGroupMembers, hc_xStateGroupMembers, hm_xStateGroupMembers, hr_xStateGroupMembers, hq_xStateGroupMembers, he_xStateGroupMembers, hl_xLog, hc_xLog, hm_xLog, hr_xLog, hq_xLog, he_xLog⟩ := Ledger_out h
  simp only [List.cons_append, List.nil_append]
  obtain ⟨w0, hw0⟩ : ∃ x, w.alloc (.cells #[.int .i64 xStateNum, .int .i64 xStateShapeBlocks, .int .i64 xStateShapeSize, .slice xStatePagesA xStatePagesn xStatePagesc, .slice xStateRowsA xStateRowsn xStateRowsc, .int .i64 xStateGroupEpoch, .slice xStateGroupMembersA xStateGroupMembersn xStateGroupMembersc, .slice xLogA xLogn xLogc, .int .i64 nm] 70) = x := ⟨_, rfl⟩
  have hBw0 : Blk w0 w.heap.size [.int .i64 xStateNum, .int .i64 xStateShapeBlocks, .int .i64 xStateShapeSize, .slice xStatePagesA xStatePagesn xStatePagesc, .slice xStateRowsA xStateRowsn xStateRowsc, .int .i64 xStateGroupEpoch, .slice xStateGroupMembersA xStateGroupMembersn xStateGroupMembersc, .slice xLogA xLogn xLogc, .int .i64 nm] 70 := by rw [← hw0]; exact Blk.new w [.int .i64 xStateNum, .int .i64 xStateShapeBlocks, .int .i64 xStateShapeSize, .slice xStatePagesA xStatePagesn xStatePagesc, .slice xStateRowsA xStateRowsn xStateRowsc, .int .i64 xStateGroupEpoch, .slice xStateGroupMembersA xStateGroupMembersn xStateGroupMembersc, .slice xLogA xLogn xLogc, .int .i64 nm] _
  have hbw0 : Below w.heap.size w w0 := by rw [← hw0]; exact (Below.refl _ _).alloc (Nat.le_refl _) _
  have HT := hide (mlast17_any (hL.below hbw0))
  have Hw0 := hide hw0
  clear hw0 hL hl_xLog hr_xLog he_xLog hq_xLog
  have y0 := Blk.cell hBw0 (j := 0) rfl; have y1 := Blk.cell hBw0 (j := 1) rfl; have y2 := Blk.cell hBw0 (j := 2) rfl; have y3 := Blk.cell hBw0 (j := 3) rfl; have y4 := Blk.cell hBw0 (j := 4) rfl; have y5 := Blk.cell hBw0 (j := 5) rfl; have y6 := Blk.cell hBw0 (j := 6) rfl; have y7 := Blk.cell hBw0 (j := 7) rfl; have y8 := Blk.cell hBw0 (j := 8) rfl
  go_enter Try.func32, Try.ntmps32
  go_wp2_with fail
  rw [Hw0.out]
  go_fit HT.out
  rintro xx w1 ⟨rfl, hb1⟩
  go_wp2
  go_ret
  exact ⟨rfl, hbw0.trans (hb1.mono hbw0.size)⟩
end Go.Proofs.Ytfjffmjnnjckkaa
