/- Stage 24: copies of states (written by gen_24h.py). -/
import Derived.Test.YtlcbelmbonaooaaF24f
namespace Go.Proofs.Ytlcbelmbonaooaa
set_option maxRecDepth 20000
open Go.RowKit Go.Px Go.Maps
set_option linter.unusedVariables false
set_option linter.unusedSimpArgs false
theorem rows_nil {w : World} {Q : Nat → Prop} {t : Ty} : t.Rows w Q [] [] := by
  refine ⟨by simp, fun j x hj => ?_⟩
  simp at hj
set_option maxHeartbeats 1600000 in
theorem eachPage0 (A : Option Addr) (c : Nat) (f : Value) (w : World) : Calls Try.prog 101 #[.slice A 0 c, f] w fun e w' => e = .returned (.slice none 0 0) ∧ w' = w := by
  go_enter Try.func101, Try.ntmps101
  go_wp2
  go_ret
  exact ⟨rfl, rfl⟩
set_option maxHeartbeats 1600000 in
theorem eachRow0 (A : Option Addr) (c : Nat) (f : Value) (w : World) : Calls Try.prog 103 #[.slice A 0 c, f] w fun e w' => e = .returned (.slice none 0 0) ∧ w' = w := by
  go_enter Try.func103, Try.ntmps103
  go_wp2
  go_ret
  exact ⟨rfl, rfl⟩
set_option maxHeartbeats 1600000 in
theorem eachEntry0 (A : Option Addr) (c : Nat) (f : Value) (w : World) : Calls Try.prog 105 #[.slice A 0 c, f] w fun e w' => e = .returned (.slice none 0 0) ∧ w' = w := by
  go_enter Try.func105, Try.ntmps105
  go_wp2
  go_ret
  exact ⟨rfl, rfl⟩
set_option maxHeartbeats 1600000 in
theorem entries0_any (A : Option Addr) (c : Nat) (w : World) : Calls Try.prog 98 #[.slice A 0 c] w fun e w' => e = .returned (.slice none 0 0) ∧ w' = w := by
  go_enter Try.func98, Try.ntmps98
  go_wp2_with fail
  go_fit (eachEntry0 A c _ w)
  rintro xx wz ⟨rfl, rfl⟩
  go_wp2
  go_ret
  exact ⟨rfl, rfl⟩
set_option maxRecDepth 20000 in
set_option maxHeartbeats 12800000 in
theorem cloneState0_any {w : World} {Q : Nat → Prop} {x : StateD} {cs : List Value} (h : tyState.Is w Q x cs) (hp : x.2.2.1 = []) (hr : x.2.2.2.1 = []) (h8 : x.2.2.2.2.2.length ≤ 1099511627776) :
    Calls Try.prog 97 #[.agg cs.toArray] w fun e w' => ∃ ds, e = .returned (.agg ds.toArray) ∧ tyState.Is w' (fun b => w.heap.size ≤ b) x ds ∧ Below w.heap.size w w' := by
  obtain ⟨sNum, sShapeBlocks, sShapeSize, sPages, sPagesA, sPagesn, sPagesc, sPagesv, sRows, sRowsA, sRowsn, sRowsc, sRowsv, sGroupEpoch, sGroupMembers, sGroupMembersA, sGroupMembersn, sGroupMembersc, sGroupMembersv, rfl, rfl, h1_sNum, h2_sNum, h1_sShapeBlocks, h2_sShapeBlocks, h1_sShapeSize, h2_sShapeSize, hl_sPages, hc_sPages, hm_sPages, hr_sPages, hq_sPages, he_sPages, hl_sRows, hc_sRows, hm_sRows, hr_sRows, hq_sRows, he_sRows, h1_sGroupEpoch, h2_sGroupEpoch, hl_sGroupMembers, hc_sGroupMembers, hm_sGroupMembers, hr_sGroupMembers, hq_sGroupMembers, he_sGroupMembers⟩ := State_out h
  simp only at hp hr h8
  subst hp hr
  obtain ⟨hmi, hri⟩ := i64rows he_sGroupMembers
  subst hmi
  have hl1 := hl_sPages
  have hl2 := hl_sRows
  simp only [List.length_nil] at hl1 hl2
  subst hl1 hl2
  obtain ⟨g, hg⟩ : ∃ g, w.heap.size = g := ⟨_, rfl⟩
  have HG := hide (fun W (hW : Below w.heap.size w W) => cloneG_any sGroupEpoch sGroupMembersA sGroupMembersn sGroupMembersc sGroupMembers W hl_sGroupMembers (by rw [← hl_sGroupMembers]; exact h8) (hr_sGroupMembers.below hW))
  obtain ⟨w0, hw0⟩ : ∃ x, (w.alloc (.cells #[.int .i64 sNum, .int .i64 sShapeBlocks, .int .i64 sShapeSize, .slice sPagesA 0 sPagesc, .slice sRowsA 0 sRowsc, .int .i64 sGroupEpoch, .slice sGroupMembersA sGroupMembersn sGroupMembersc] 55)).alloc (.cells #[.int .i64 0, .int .i64 0, .int .i64 0, .slice none 0 0, .slice none 0 0, .int .i64 0, .slice none 0 0] 55) = x := ⟨_, rfl⟩
  have hP : Blk w0 g [.int .i64 sNum, .int .i64 sShapeBlocks, .int .i64 sShapeSize, .slice sPagesA 0 sPagesc, .slice sRowsA 0 sRowsc, .int .i64 sGroupEpoch, .slice sGroupMembersA sGroupMembersn sGroupMembersc] 55 := by rw [← hw0, ← hg]; exact (Blk.new w [.int .i64 sNum, .int .i64 sShapeBlocks, .int .i64 sShapeSize, .slice sPagesA 0 sPagesc, .slice sRowsA 0 sRowsc, .int .i64 sGroupEpoch, .slice sGroupMembersA sGroupMembersn sGroupMembersc] _).alloc _
  have hZ : Blk w0 (g + 1) [.int .i64 0, .int .i64 0, .int .i64 0, .slice none 0 0, .slice none 0 0, .int .i64 0, .slice none 0 0] 55 := by
    rw [← hw0, ← hg]
    have := Blk.new (w.alloc (.cells #[.int .i64 sNum, .int .i64 sShapeBlocks, .int .i64 sShapeSize, .slice sPagesA 0 sPagesc, .slice sRowsA 0 sRowsc, .int .i64 sGroupEpoch, .slice sGroupMembersA sGroupMembersn sGroupMembersc] 55)) [.int .i64 0, .int .i64 0, .int .i64 0, .slice none 0 0, .slice none 0 0, .int .i64 0, .slice none 0 0] 55
    rwa [World.size_alloc] at this
  have b0 : Below w.heap.size w w0 := by rw [← hw0]; exact ((Below.refl _ _).alloc (Nat.le_refl _) _).alloc (by simp) _
  have zl := hZ.lt
  have Hw0 := hide hw0
  have Hlg := hide hl_sGroupMembers
  have Hri := hide hri
  have s0 := b0.size
  clear hw0 hl_sGroupMembers hl_sPages hl_sRows he_sGroupMembers he_sPages he_sRows hri hr_sGroupMembers hq_sGroupMembers hr_sPages hq_sPages hr_sRows hq_sRows
  have y3 := hP.cell (j := 3) rfl
  have f3 := hP.frozen 3
  have hP1 : Blk (w0.setCell ⟨g, 3, none⟩ (.slice none 0 0)) g [.int .i64 sNum, .int .i64 sShapeBlocks, .int .i64 sShapeSize, .slice none 0 0, .slice sRowsA 0 sRowsc, .int .i64 sGroupEpoch, .slice sGroupMembersA sGroupMembersn sGroupMembersc] 55 := hP.set 3 (.slice none 0 0)
  have y4 := hP1.cell (j := 4) rfl
  have f4 := hP1.frozen 4
  obtain ⟨wA, hwA⟩ : ∃ x, (w0.setCell ⟨g, 3, none⟩ (.slice none 0 0)).setCell ⟨g, 4, none⟩ (.slice none 0 0) = x := ⟨_, rfl⟩
  have hP2 : Blk wA g [.int .i64 sNum, .int .i64 sShapeBlocks, .int .i64 sShapeSize, .slice none 0 0, .slice none 0 0, .int .i64 sGroupEpoch, .slice sGroupMembersA sGroupMembersn sGroupMembersc] 55 := by rw [← hwA]; exact hP1.set 4 (.slice none 0 0)
  have hFA : Fr (fun b => b = g) w0 wA := by rw [← hwA]; exact (Fr.set (X := fun b => b = g) w0 ⟨g, 3, none⟩ _ rfl).trans (Fr.set (X := fun b => b = g) _ ⟨g, 4, none⟩ _ rfl)
  have hZ2 := hZ.fr hFA (by omega)
  have bA := hFA.below b0 s0 (fun b hb => by have hb' : b = g := hb; omega)
  have sA := hFA.size
  have HwA := hide hwA
  clear hwA
  go_enter Try.func97, Try.ntmps97
  go_wp2_with (first | (with_reducible refine stop_load 24 rfl ?_) | (with_reducible refine stop_load 55 rfl ?_) | (with_reducible refine stop_store 24 rfl ?_) | (with_reducible refine stop_store 55 rfl ?_))
  rw [Hw0.out]
  go_fit (eachPage0 sPagesA sPagesc _ w0)
  rintro xx wz ⟨rfl, hz⟩
  subst hz
  go_wp2_with (first | (with_reducible refine stop_load 24 rfl ?_) | (with_reducible refine stop_load 55 rfl ?_) | (with_reducible refine stop_store 24 rfl ?_) | (with_reducible refine stop_store 55 rfl ?_))
  go_fit (eachRow0 sRowsA sRowsc _ _)
  rintro xx wz ⟨rfl, hz⟩
  subst hz
  go_wp2_with (first | (with_reducible refine stop_load 24 rfl ?_) | (with_reducible refine stop_load 55 rfl ?_) | (with_reducible refine stop_store 24 rfl ?_) | (with_reducible refine stop_store 55 rfl ?_))
  rw [HwA.out]
  refine go_loadM rfl rfl (k := 5) rfl hP2 [.int .i64 sGroupEpoch, .slice sGroupMembersA sGroupMembersn sGroupMembersc] rfl Try.underlying24 rfl (by kernel_rfl) ?_
  go_wp2_with (first | (with_reducible refine stop_load 24 rfl ?_) | (with_reducible refine stop_load 55 rfl ?_) | (with_reducible refine stop_store 24 rfl ?_) | (with_reducible refine stop_store 55 rfl ?_))
  go_fit (HG.out wA bA)
  rintro xx w3 ⟨A3, c3, rfl, hc3, hm3, hr3, ha3, hd3⟩
  have s3 := hd3.size
  have b3 := bA.trans (hd3.mono bA.size)
  have hP5 := hP2.below hd3
  have hZ5 := hZ2.below hd3
  go_wp2_with (first | (with_reducible refine stop_load 24 rfl ?_) | (with_reducible refine stop_load 55 rfl ?_) | (with_reducible refine stop_store 24 rfl ?_) | (with_reducible refine stop_store 55 rfl ?_))
  refine go_storeM rfl rfl rfl (k := 5) rfl hP5 [.int .i64 sGroupEpoch, .slice A3 sGroupMembersn c3] rfl (by simp) (by kernel_rfl) (by intro u hu; simp only [List.mem_cons, List.not_mem_nil, or_false] at hu; rcases hu with rfl | rfl <;> rfl) ?_
  obtain ⟨wC, hwC⟩ : ∃ x, w3.setCells g 5 [.int .i64 sGroupEpoch, .slice A3 sGroupMembersn c3] = x := ⟨_, rfl⟩
  have hF3 : Fr (fun b => b = g) w3 wC := by rw [← hwC]; exact Fr.sets (X := fun b => b = g) rfl _ _ _
  have hP6 : Blk wC g [.int .i64 sNum, .int .i64 sShapeBlocks, .int .i64 sShapeSize, .slice none 0 0, .slice none 0 0, .int .i64 sGroupEpoch, .slice A3 sGroupMembersn c3] 55 := by
    rw [← hwC]
    exact (hP5.set 5 (.int .i64 sGroupEpoch)).set 6 (.slice A3 sGroupMembersn c3)
  have hZ6 := hZ5.fr hF3 (by omega)
  have bC := hF3.below b3 (by omega) (fun b hb => by have hb' : b = g := hb; omega)
  have sC := hF3.size
  have HwC := hide hwC
  clear hwC
  have hF4 := hF3
  go_wp2_with (first | (with_reducible refine stop_load 24 rfl ?_) | (with_reducible refine stop_load 55 rfl ?_) | (with_reducible refine stop_store 24 rfl ?_) | (with_reducible refine stop_store 55 rfl ?_))
  rw [HwC.out]
  refine go_load rfl rfl rfl hP6 Try.underlying55 rfl (by kernel_rfl) ?_
  go_wp2_with (first | (with_reducible refine stop_load 24 rfl ?_) | (with_reducible refine stop_load 55 rfl ?_) | (with_reducible refine stop_store 24 rfl ?_) | (with_reducible refine stop_store 55 rfl ?_))
  refine go_store rfl rfl rfl rfl rfl hZ6 (by kernel_rfl) rfl (us := [.int .i64 sNum, .int .i64 sShapeBlocks, .int .i64 sShapeSize, .slice none 0 0, .slice none 0 0, .int .i64 sGroupEpoch, .slice A3 sGroupMembersn c3]) (by intro u hu; simp only [List.mem_cons, List.not_mem_nil, or_false] at hu; rcases hu with rfl | rfl | rfl | rfl | rfl | rfl | rfl <;> rfl) ?_
  go_wp2
  refine bodyPost_ret (results_cell rfl rfl (hZ6.setAll [.int .i64 sNum, .int .i64 sShapeBlocks, .int .i64 sShapeSize, .slice none 0 0, .slice none 0 0, .int .i64 sGroupEpoch, .slice A3 sGroupMembersn c3]) Try.underlying55 rfl (by kernel_rfl)) rfl ?_
  have hF : Fr (fun b => b = g + 1) wC (wC.setRow (g + 1) #[.int .i64 sNum, .int .i64 sShapeBlocks, .int .i64 sShapeSize, .slice none 0 0, .slice none 0 0, .int .i64 sGroupEpoch, .slice A3 sGroupMembersn c3]) := ⟨rfl, rfl, rfl, by simp [World.setRow], fun k _ hk => heap_setRow_other wC (g + 1) k _ (fun e => hk e)⟩
  refine ⟨[.int .i64 sNum, .int .i64 sShapeBlocks, .int .i64 sShapeSize, .slice none 0 0, .slice none 0 0, .int .i64 sGroupEpoch, .slice A3 sGroupMembersn c3], rfl, ?_, hF.below (by first | exact bC | (rw [← hg]; exact bC)) (by omega) (fun b hb => by have hb' : b = g + 1 := hb; omega)⟩
  have hr4 := (hr3.fr hF3 (fun _ a ha hx => by have := ha3 a ha; have hx' : a.block = g := hx; omega)).fr hF (fun _ a ha hx => by have := ha3 a ha; have hx' : a.block = g + 1 := hx; omega)
  exact State_mk h1_sNum h2_sNum h1_sShapeBlocks h2_sShapeBlocks h1_sShapeSize h2_sShapeSize rfl (by omega) (by omega) Rd.nil (fun hn => absurd rfl hn) rows_nil rfl (by omega) (by omega) Rd.nil (fun hn => absurd rfl hn) rows_nil h1_sGroupEpoch h2_sGroupEpoch Hlg.out hc3 hm3 hr4 (fun _ a ha => by have := ha3 a ha; show _ ≤ a.block; omega) (i64rows_mk Hri.out)
end Go.Proofs.Ytlcbelmbonaooaa
