/- Texts joined (shake.py). -/
import Derived.Test.YtkknkdjdneldlaaGreatK713
import Derived.Test.YtkknkdjdneldlaaGreatK714
namespace Go.Proofs.YtkknkdjdneldlaaGreat
set_option maxRecDepth 20000
open Go.RowKit Go.Px Go.Maps
set_option linter.unusedVariables false
/-- The cells of a data, of which an argument is. -/
theorem arg7 {w : World} {Q : Nat → Prop} {x : StateD} {cs : List Value} (h : tyState.Is w Q x cs) : cs.length = 7 := h.len
set_option maxHeartbeats 1600000 in
theorem small7_any {w : World} {Q : Nat → Prop} {x : StateD} {cs : List Value} (h : tyState.Is w Q x cs) : Calls Tryz.prog 21 #[.agg cs.toArray] w fun e w' => ∃ q, e = .returned (.bool q) ∧ Below w.heap.size w w' := by
  obtain ⟨sNum, sShapeBlocks, sShapeSize, sPages, sPagesA, sPagesn, sPagesc, sPagesv, sRows, sRowsA, sRowsn, sRowsc, sRowsv, sGroupEpoch, sGroupMembers, sGroupMembersA, sGroupMembersn, sGroupMembersc, sGroupMembersv, rfl, rfl, h1_sNum, h2_sNum, h1_sShapeBlocks, h2_sShapeBlocks, h1_sShapeSize, h2_sShapeSize, hl_sPages, hc_sPages, hm_sPages, hr_sPages, hq_sPages, he_sPages, hl_sRows, hc_sRows, hm_sRows, hr_sRows, hq_sRows, he_sRows, h1_sGroupEpoch, h2_sGroupEpoch, hl_sGroupMembers, hc_sGroupMembers, hm_sGroupMembers, hr_sGroupMembers, hq_sGroupMembers, he_sGroupMembers⟩ := State_out h
  obtain ⟨w0, hw0⟩ : ∃ x, w.alloc (.cells #[.int .i64 sNum, .int .i64 sShapeBlocks, .int .i64 sShapeSize, .slice sPagesA sPagesn sPagesc, .slice sRowsA sRowsn sRowsc, .int .i64 sGroupEpoch, .slice sGroupMembersA sGroupMembersn sGroupMembersc] 30) = x := ⟨_, rfl⟩; have hBw0 : Blk w0 w.heap.size [.int .i64 sNum, .int .i64 sShapeBlocks, .int .i64 sShapeSize, .slice sPagesA sPagesn sPagesc, .slice sRowsA sRowsn sRowsc, .int .i64 sGroupEpoch, .slice sGroupMembersA sGroupMembersn sGroupMembersc] 30 := (by rw [← hw0]; exact Blk.new w [.int .i64 sNum, .int .i64 sShapeBlocks, .int .i64 sShapeSize, .slice sPagesA sPagesn sPagesc, .slice sRowsA sRowsn sRowsc, .int .i64 sGroupEpoch, .slice sGroupMembersA sGroupMembersn sGroupMembersc] _); have hbw0 : Below w.heap.size w w0 := (by rw [← hw0]; exact (Below.refl _ _).alloc (Nat.le_refl _) _); have Hw0 := hide hw0; clear hw0
  have y0 := Blk.cell hBw0 (j := 0) rfl; have y1 := Blk.cell hBw0 (j := 1) rfl; have y2 := Blk.cell hBw0 (j := 2) rfl; have y3 := Blk.cell hBw0 (j := 3) rfl; have y4 := Blk.cell hBw0 (j := 4) rfl; have y5 := Blk.cell hBw0 (j := 5) rfl; have y6 := Blk.cell hBw0 (j := 6) rfl
  rcases bool_or (decide (sShapeBlocks ≤ 64)) with q1 | q1
  · rcases bool_or (decide (sShapeSize ≤ 64)) with q2 | q2
    · rcases bool_or (decide ((sPagesn : Int) ≤ 100)) with q3 | q3
      · go_enter Tryz.func21, Tryz.ntmps21
        go_wp2
        go_ret
        exact ⟨_, rfl, by rw [Hw0.out]; exact hbw0⟩
      · go_enter Tryz.func21, Tryz.ntmps21
        go_wp2
        go_ret
        exact ⟨_, rfl, by rw [Hw0.out]; exact hbw0⟩
    · go_enter Tryz.func21, Tryz.ntmps21
      go_wp2
      go_ret
      exact ⟨_, rfl, by rw [Hw0.out]; exact hbw0⟩
  · go_enter Tryz.func21, Tryz.ntmps21
    go_wp2
    go_ret
    exact ⟨_, rfl, by rw [Hw0.out]; exact hbw0⟩
/-- What begin tells. -/
def Beg7 (x : StateD) (w : World) (e : Ending) (w' : World) : Prop :=
  (e = .returned (.tuple #[.pointer none, .pointer none, .bool true]) ∧ Below w.heap.size w w') ∨
  ∃ (f : MFp) (rf : RFp) (lo : Nat), e = .returned (.tuple #[.pointer (some ⟨f.mb, 0, none⟩), .pointer (some ⟨rf.rb, 0, none⟩), .bool true]) ∧ stateB x = true ∧ MX w' w.heap.size rf.W f (MA.of x) 64 ∧ RMX w' lo f.W rf (MA.of x) ∧ w.heap.size ≤ lo ∧ Below w.heap.size w w'
set_option maxHeartbeats 3200000 in
theorem begin7_any {w : World} {Q : Nat → Prop} {x : StateD} {cs : List Value} (h : tyState.Is w Q x cs) : Calls Tryz.prog 9 #[.agg cs.toArray] w (Beg7 x w) := by
  have h' := h
  obtain ⟨sNum, sShapeBlocks, sShapeSize, sPages, sPagesA, sPagesn, sPagesc, sPagesv, sRows, sRowsA, sRowsn, sRowsc, sRowsv, sGroupEpoch, sGroupMembers, sGroupMembersA, sGroupMembersn, sGroupMembersc, sGroupMembersv, rfl, rfl, h1_sNum, h2_sNum, h1_sShapeBlocks, h2_sShapeBlocks, h1_sShapeSize, h2_sShapeSize, hl_sPages, hc_sPages, hm_sPages, hr_sPages, hq_sPages, he_sPages, hl_sRows, hc_sRows, hm_sRows, hr_sRows, hq_sRows, he_sRows, h1_sGroupEpoch, h2_sGroupEpoch, hl_sGroupMembers, hc_sGroupMembers, hm_sGroupMembers, hr_sGroupMembers, hq_sGroupMembers, he_sGroupMembers⟩ := State_out h'
  obtain ⟨w0, hw0⟩ : ∃ x, w.alloc (.cells #[.int .i64 sNum, .int .i64 sShapeBlocks, .int .i64 sShapeSize, .slice sPagesA sPagesn sPagesc, .slice sRowsA sRowsn sRowsc, .int .i64 sGroupEpoch, .slice sGroupMembersA sGroupMembersn sGroupMembersc] 30) = x := ⟨_, rfl⟩; have hBw0 : Blk w0 w.heap.size [.int .i64 sNum, .int .i64 sShapeBlocks, .int .i64 sShapeSize, .slice sPagesA sPagesn sPagesc, .slice sRowsA sRowsn sRowsc, .int .i64 sGroupEpoch, .slice sGroupMembersA sGroupMembersn sGroupMembersc] 30 := (by rw [← hw0]; exact Blk.new w [.int .i64 sNum, .int .i64 sShapeBlocks, .int .i64 sShapeSize, .slice sPagesA sPagesn sPagesc, .slice sRowsA sRowsn sRowsc, .int .i64 sGroupEpoch, .slice sGroupMembersA sGroupMembersn sGroupMembersc] _); have hbw0 : Below w.heap.size w w0 := (by rw [← hw0]; exact (Below.refl _ _).alloc (Nat.le_refl _) _); have Hw0 := hide hw0; clear hw0
  have y0 := Blk.cell hBw0 (j := 0) rfl; have y1 := Blk.cell hBw0 (j := 1) rfl; have y2 := Blk.cell hBw0 (j := 2) rfl; have y3 := Blk.cell hBw0 (j := 3) rfl; have y4 := Blk.cell hBw0 (j := 4) rfl; have y5 := Blk.cell hBw0 (j := 5) rfl; have y6 := Blk.cell hBw0 (j := 6) rfl
  have h0 := h.low.below hbw0
  have s0 := hbw0.size
  go_enter Tryz.func9, Tryz.ntmps9
  go_wp2_with fail
  rw [Hw0.out]
  go_fit (small7_any h0)
  rintro xx w1 ⟨q, rfl, hb1⟩
  have hb01 := hbw0.trans (hb1.mono hbw0.size)
  have hB1 := hBw0.below hb1
  have h1 := h0.below hb1
  have s1 := hb1.size
  clear y0 y1 y2 y3 y4 y5 y6
  cases q with
  | false =>
    go_wp2
    go_ret3
    exact .inl ⟨rfl, hb01⟩
  | true =>
    have y0 := Blk.cell hB1 (j := 0) rfl; have y1 := Blk.cell hB1 (j := 1) rfl; have y2 := Blk.cell hB1 (j := 2) rfl; have y3 := Blk.cell hB1 (j := 3) rfl; have y4 := Blk.cell hB1 (j := 4) rfl; have y5 := Blk.cell hB1 (j := 5) rfl; have y6 := Blk.cell hB1 (j := 6) rfl
    cases hx : stateB (sNum, (sShapeBlocks, sShapeSize), sPages, sRows, (sGroupEpoch, sGroupMembers)) with
    | false =>
      have HX := hide hx
      clear hx
      go_wp2_with fail
      go_fit (load7_bad h1 HX.out)
      rintro xx w2 ⟨rfl, hb2⟩
      have hb02 := hb01.trans (hb2.mono (by omega))
      have hB2 := hB1.below hb2
      have h2 := h1.below hb2
      have s2 := hb2.size
      clear y0 y1 y2 y3 y4 y5 y6
      have y0 := Blk.cell hB2 (j := 0) rfl; have y1 := Blk.cell hB2 (j := 1) rfl; have y2 := Blk.cell hB2 (j := 2) rfl; have y3 := Blk.cell hB2 (j := 3) rfl; have y4 := Blk.cell hB2 (j := 4) rfl; have y5 := Blk.cell hB2 (j := 5) rfl; have y6 := Blk.cell hB2 (j := 6) rfl
      go_wp2_with fail
      go_fit (rload7_bad h2 HX.out)
      rintro xx w3 ⟨rfl, hb3⟩
      go_wp2
      go_ret3
      exact .inl ⟨rfl, hb02.trans (hb3.mono (by omega))⟩
    | true =>
      have HX := hide hx
      clear hx
      go_wp2_with fail
      go_fit (load7_any (Y := fun _ => False) h1 HX.out (fun b hb => hb.elim))
      rintro xx w2 ⟨f, rfl, hM2, hb2⟩
      have hb02 := hb01.trans (hb2.mono (by omega))
      have hB2 := hB1.below hb2
      have h2 := h1.below hb2
      have s2 := hb2.size
      have hlw := hM2.low
      have hlt := hM2.lts
      clear y0 y1 y2 y3 y4 y5 y6
      have y0 := Blk.cell hB2 (j := 0) rfl; have y1 := Blk.cell hB2 (j := 1) rfl; have y2 := Blk.cell hB2 (j := 2) rfl; have y3 := Blk.cell hB2 (j := 3) rfl; have y4 := Blk.cell hB2 (j := 4) rfl; have y5 := Blk.cell hB2 (j := 5) rfl; have y6 := Blk.cell hB2 (j := 6) rfl
      go_wp2_with fail
      go_fit (rload7_any (Y := f.W) h2 HX.out (fun b hb hW => by have := hlw b hW; omega) hlt)
      rintro xx w3 ⟨rf, rfl, hR3, hb3⟩
      have hrl := hR3.low
      have HM := hide ((((hM2.avoid (Z := rf.W) hrl).below hb3).free (Y' := rf.W) (fun b hb => .inr hb)).lower (L' := w.heap.size) (by omega))
      have HR := hide hR3
      clear hM2 hR3
      go_wp2
      go_ret3
      exact .inr ⟨f, rf, w2.heap.size, rfl, HX.out, HM.out, HR.out, by omega, hb02.trans (hb3.mono (by omega))⟩
theorem shape07_any (w : World) : Calls Tryz.prog 38 #[] w fun e w' => e = .returned (shp 6 2) ∧ Below w.heap.size w w' := by
  obtain ⟨g, hg⟩ : ∃ g, w.heap.size = g := ⟨_, rfl⟩
  have hZ : Blk (w.alloc (.cells #[.int .i64 6, .int .i64 2] 23)) g [.int .i64 6, .int .i64 2] 23 := by rw [← hg]; exact Blk.new w [.int .i64 6, .int .i64 2] _
  go_enter Tryz.func38, Tryz.ntmps38
  go_wp2
  refine bodyPost_ret (results_cell rfl rfl hZ Tryz.underlying23 rfl (by kernel_rfl)) rfl ?_
  exact ⟨rfl, (Below.refl _ _).alloc (Nat.le_refl _) _⟩
theorem group07_any (w : World) : Calls Tryz.prog 39 #[] w fun e w' => ∃ A, e = .returned (grp 0 A 3 3) ∧ Rd w' A (ints [0, 1, 2]) ∧ (∀ a, A = some a → w.heap.size ≤ a.block) ∧ Below w.heap.size w w' := by
  obtain ⟨g, hg⟩ : ∃ g, w.heap.size = g := ⟨_, rfl⟩
  have hZ : Blk ((w.alloc (.cells #[.int .i64 0, .slice (some ⟨g + 1, 0, none⟩) 3 3] 28)).alloc (.cells #[.int .i64 0, .int .i64 1, .int .i64 2] 3)) g [.int .i64 0, .slice (some ⟨g + 1, 0, none⟩) 3 3] 28 := by
    rw [← hg]; exact (Blk.new w [.int .i64 0, .slice (some ⟨w.heap.size + 1, 0, none⟩) 3 3] _).alloc _
  have hr : Rd ((w.alloc (.cells #[.int .i64 0, .slice (some ⟨g + 1, 0, none⟩) 3 3] 28)).alloc (.cells #[.int .i64 0, .int .i64 1, .int .i64 2] 3)) (some ⟨g + 1, 0, none⟩) (ints [0, 1, 2]) :=
    Rd.newG (us := [.int .i64 0, .int .i64 1, .int .i64 2]) (by rw [World.size_alloc, hg])
  go_enter Tryz.func39, Tryz.ntmps39
  go_wp2
  refine bodyPost_ret (results_cell rfl rfl hZ Tryz.underlying28 rfl (by kernel_rfl)) rfl ?_
  exact ⟨_, rfl, hr, (fun a ha => by injection ha with ha; subst ha; show w.heap.size ≤ g + 1; omega), ((Below.refl _ _).alloc (Nat.le_refl _) _).alloc (by simp) _⟩
def e07 : EntryD := (1, 1, 0, 5, 1, (2, 0, 1, [97, 98], []), 0, [])
def a07 : MA := MA.of (newSt 6 2 0 [0, 1, 2])
def b07 : MA := (a07.apply e07).1
def c07 : MA := (b07.apply (1, 2, e07.2.2)).1
theorem r07 : (a07.apply e07).2 = (0, 1, []) := by decide +kernel
theorem s07 : (b07.apply (1, 2, e07.2.2)).2 = (0, 1, []) := by decide +kernel
theorem t07 : c07.num = 2 := by decide +kernel
theorem u07 : pgL c07.z c07.bs c07.vs 0 c07.b = [(0, 1, [97, 98])] := by decide +kernel
theorem fit07 : a07.Fit := fit_of (newSt_ok (by decide +kernel) (by decide +kernel))
end Go.Proofs.YtkknkdjdneldlaaGreat
namespace Go.Proofs.YtkknkdjdneldlaaGreat
set_option maxRecDepth 20000
open Go.RowKit Go.Px Go.Maps
set_option linter.unusedVariables false
set_option maxRecDepth 20000 in
set_option maxHeartbeats 6400000 in
theorem awake07_any (w : World) : Calls Tryz.prog 8 #[] w fun e w' => e = .returned (.bool true) ∧ Below w.heap.size w w' := by
  obtain ⟨B, hB⟩ : ∃ x, w.heap.size = x := ⟨_, rfl⟩
  have HB := hide hB
  clear hB
  go_enter Tryz.func8, Tryz.ntmps8
  go_wp2_with fail
  go_fit (shape07_any w)
  rintro x w1 ⟨rfl, hb1⟩
  go_wp2_with fail
  go_fit (group07_any w1)
  rintro x w2 ⟨GA, rfl, hG2, hGa, hb2⟩
  have hb02 := hb1.trans (hb2.mono hb1.size)
  go_wp2_with fail
  go_fit (new7_any 6 2 0 GA 3 3 [0, 1, 2] w2 (Y := fun _ => False) rfl (by decide) (by decide) hG2 (by decide +kernel) (by decide) (by decide) (fun b hb => hb.elim))
  rintro x w3 ⟨f, rfl, hM3, hb3⟩
  have hb03 := hb02.trans (hb3.mono hb02.size)
  have hM3 : MX w3 w2.heap.size (fun _ => False) f a07 64 := hM3
  obtain ⟨d, hd⟩ : ∃ y, w3.heap.size = y := ⟨_, rfl⟩
  obtain ⟨w4, hw4⟩ : ∃ y, (w3.alloc (.cells #[.int .u8 97, .int .u8 98] 5 (2, 3))).alloc (.cells #[.int .u8 1, .int .i64 1, .int .i64 0, .int .i64 5, .int .i64 1, .int .u8 2, .int .i64 0, .int .i64 1, .slice (some ⟨d, 0, none⟩) 2 2, .slice none 0 0, .int .i64 0, .slice none 0 0] 49) = y := ⟨_, rfl⟩
  have hE4 : Blk w4 (d + 1) [.int .u8 1, .int .i64 1, .int .i64 0, .int .i64 5, .int .i64 1, .int .u8 2, .int .i64 0, .int .i64 1, .slice (some ⟨d, 0, none⟩) 2 2, .slice none 0 0, .int .i64 0, .slice none 0 0] 49 := by
    rw [← hw4]
    have := Blk.new (w3.alloc (.cells #[.int .u8 97, .int .u8 98] 5 (2, 3))) [.int .u8 1, .int .i64 1, .int .i64 0, .int .i64 5, .int .i64 1, .int .u8 2, .int .i64 0, .int .i64 1, .slice (some ⟨d, 0, none⟩) 2 2, .slice none 0 0, .int .i64 0, .slice none 0 0] 49
    rwa [World.size_alloc, hd] at this
  have hb34 : Below w3.heap.size w3 w4 := by rw [← hw4]; exact ((Below.refl _ _).alloc (Nat.le_refl _) _).alloc (by simp) _
  have hr4 : Rd w4 (some ⟨d, 0, none⟩) (bys [97, 98]) := by
    rw [← hw4, ← hd]; exact (Rd.newN w3 [.int .u8 97, .int .u8 98] _ (2, 3)).alloc _
  have Hw4 := hide hw4
  have Hd := hide hd
  clear hw4
  have hlt := hM3.lts
  have hnW : ∀ b, d ≤ b → ¬ f.W b := fun b h1 h2 => by have := hlt b h2; omega
  have s4 : d + 1 < w4.heap.size := hE4.lt
  have hM4 := ((hM3.avoid (Z := fun b => b = d + 1) (fun b hb => by omega)).below hb34)
  have hI4 : tyEntry.Is w4 (fun b => b = d) e07 [.int .u8 1, .int .i64 1, .int .i64 0, .int .i64 5, .int .i64 1, .int .u8 2, .int .i64 0, .int .i64 1, .slice (some ⟨d, 0, none⟩) 2 2, .slice none 0 0, .int .i64 0, .slice none 0 0] := Entry_mk (by decide) (by decide) (by decide) (by decide) (by decide) (by decide) (by decide) (by decide) (by decide) (by decide) (by decide) (by decide) (by decide) (by decide) rfl (by decide) (by decide) hr4 (fun _ a ha => by injection ha with ha; subst ha; rfl) rfl (by decide) (by decide) Rd.nil (fun h => absurd rfl h) (by decide) (by decide) rfl (by decide) (by decide) Rd.nil (fun h => absurd rfl h) Ty.Rows.nil
  have AP := apply7_any hM4 fit07.ok hI4 (fun b hb => hnW b (by omega)) (fun b hb => by rcases hb with hb | hb; exact hb.elim; omega) (by decide)
  have e1 : a07.apply e07 = (b07, 0, 1, []) := by rw [← r07]; rfl
  rw [e1] at AP
  have HAP := hide AP
  clear AP e1 hd
  go_wp2_with fail
  rw [Hd.out]
  rw [Hw4.out]
  go_fit HAP.out
  rintro x w5 ⟨A5, c5, rfl, q1, q2, q3, q4, hM5, F5⟩
  simp only [List.length_nil] at q1 q3 hM5
  have hE5 := hE4.fr F5 (hnW _ (by omega))
  have hr5 := hr4.fr F5 (fun _ a ha => by injection ha with ha; subst ha; exact hnW _ (Nat.le_refl _))
  have hlt5 := hM5.lts
  have s5 := F5.size
  have hlow := hM3.low
  have z2 := hb02.size
  have z3 := hb3.size
  have hdw : w2.heap.size ≤ d := by rw [← Hd.out]; exact z3
  have hB5 : Below w.heap.size w w5 := F5.below (hb03.trans (hb34.mono hb03.size)) (by have := hb34.size; omega) (fun k hk => by have := hlow k hk; omega)
  have y1 := (hE5.alloc (.cells #[.int .u8 1, .slice A5 0 c5] 40)).cell (j := 1) rfl
  have f1 := (hE5.alloc (.cells #[.int .u8 1, .slice A5 0 c5] 40)).frozen 1
  obtain ⟨w6, hw6⟩ : ∃ y, w5.alloc (.cells #[.int .u8 1, .slice A5 0 c5] 40) = y := ⟨_, rfl⟩
  have hR6 : Blk w6 w5.heap.size [.int .u8 1, .slice A5 0 c5] 40 := by rw [← hw6]; exact Blk.new w5 [.int .u8 1, .slice A5 0 c5] _
  have hb56 : Below w5.heap.size w5 w6 := by rw [← hw6]; exact (Below.refl _ _).alloc (Nat.le_refl _) _
  have hE6 : Blk w6 (d + 1) [.int .u8 1, .int .i64 1, .int .i64 0, .int .i64 5, .int .i64 1, .int .u8 2, .int .i64 0, .int .i64 1, .slice (some ⟨d, 0, none⟩) 2 2, .slice none 0 0, .int .i64 0, .slice none 0 0] 49 := hE5.below hb56
  have hr6 := hr5.below hb56
  have hM6 := hM5.below hb56
  have s6 : w6.heap.size = w5.heap.size + 1 := by rw [← hw6, World.size_alloc]
  obtain ⟨w7, hw7⟩ : ∃ y, (w5.alloc (.cells #[.int .u8 1, .slice A5 0 c5] 40)).setCell ⟨d + 1, 1, none⟩ (.int .i64 2) = y := ⟨_, rfl⟩
  have hE7' : Blk ((w5.alloc (.cells #[.int .u8 1, .slice A5 0 c5] 40)).setCell ⟨d + 1, 1, none⟩ (.int .i64 2)) (d + 1) [.int .u8 1, .int .i64 2, .int .i64 0, .int .i64 5, .int .i64 1, .int .u8 2, .int .i64 0, .int .i64 1, .slice (some ⟨d, 0, none⟩) 2 2, .slice none 0 0, .int .i64 0, .slice none 0 0] 49 := (hE5.alloc (.cells #[.int .u8 1, .slice A5 0 c5] 40)).set 1 (.int .i64 2)
  have v0 := Blk.cell hE7' (j := 0) rfl; have v1 := Blk.cell hE7' (j := 1) rfl; have v2 := Blk.cell hE7' (j := 2) rfl; have v3 := Blk.cell hE7' (j := 3) rfl; have v4 := Blk.cell hE7' (j := 4) rfl; have v5 := Blk.cell hE7' (j := 5) rfl; have v6 := Blk.cell hE7' (j := 6) rfl; have v7 := Blk.cell hE7' (j := 7) rfl; have v8 := Blk.cell hE7' (j := 8) rfl; have v9 := Blk.cell hE7' (j := 9) rfl; have v10 := Blk.cell hE7' (j := 10) rfl; have v11 := Blk.cell hE7' (j := 11) rfl
  have F7 : Fr (fun b => b = d + 1) w6 w7 := by rw [← hw7, hw6]; exact Fr.setg w6 (d + 1) 1 _
  have hE7 : Blk w7 (d + 1) [.int .u8 1, .int .i64 2, .int .i64 0, .int .i64 5, .int .i64 1, .int .u8 2, .int .i64 0, .int .i64 1, .slice (some ⟨d, 0, none⟩) 2 2, .slice none 0 0, .int .i64 0, .slice none 0 0] 49 := by rw [← hw7]; exact hE7'
  have hR7 := hR6.fr F7 (by omega)
  have hr7 := hr6.fr F7 (fun _ a ha => by injection ha with ha; subst ha; show ¬ d = d + 1; omega)
  have hM7 := hM6.fr F7 (fun b hb _ => .inr hb)
  have s7 := F7.size
  have hB7 : Below w.heap.size w w7 := F7.below (hB5.trans (hb56.mono hB5.size)) (by omega) (fun k hk => by omega)
  have Hw7 := hide hw7
  have Hs6 := hide s6
  clear hw6 hw7 hE7'
  have hI7 : tyEntry.Is w7 (fun b => b = d) (1, 2, e07.2.2) [.int .u8 1, .int .i64 2, .int .i64 0, .int .i64 5, .int .i64 1, .int .u8 2, .int .i64 0, .int .i64 1, .slice (some ⟨d, 0, none⟩) 2 2, .slice none 0 0, .int .i64 0, .slice none 0 0] := Entry_mk (by decide) (by decide) (by decide) (by decide) (by decide) (by decide) (by decide) (by decide) (by decide) (by decide) (by decide) (by decide) (by decide) (by decide) rfl (by decide) (by decide) hr7 (fun _ a ha => by injection ha with ha; subst ha; rfl) rfl (by decide) (by decide) Rd.nil (fun h => absurd rfl h) (by decide) (by decide) rfl (by decide) (by decide) Rd.nil (fun h => absurd rfl h) Ty.Rows.nil
  have AP := apply7_any hM7 (show b07.Ok from ok_apply fit07.ok e07) hI7 (fun b hb => hnW b (by omega)) (fun b hb => by rcases hb with hb | hb; exact hb.elim; omega) (by decide)
  have e2 : b07.apply (1, 2, e07.2.2) = (c07, 0, 1, []) := by rw [← s07]; rfl
  rw [e2] at AP
  have HAP2 := hide AP
  clear AP e2 s6
  go_wp2_with fail
  rw [Hw7.out]
  go_fit HAP2.out
  rintro x w8 ⟨A8, c8, rfl, k1, k2, k3, k4, hM8, F8⟩
  simp only [List.length_nil] at k1 k3 hM8
  have hR8 := hR7.fr F8 (hnW _ (by have := Hs6.out; have := F5.size; omega))
  have s8 := F8.size
  have hB8 : Below w.heap.size w w8 := F8.below hB7 (by have := hB7.size; omega) (fun k hk => by have := hlow k hk; omega)
  obtain ⟨w9, hw9⟩ : ∃ y, w8.alloc (.cells #[.int .u8 1, .slice A8 0 c8] 40) = y := ⟨_, rfl⟩
  have hQ9 : Blk w9 w8.heap.size [.int .u8 1, .slice A8 0 c8] 40 := by rw [← hw9]; exact Blk.new w8 [.int .u8 1, .slice A8 0 c8] _
  have hb89 : Below w8.heap.size w8 w9 := by rw [← hw9]; exact (Below.refl _ _).alloc (Nat.le_refl _) _
  have hM9 := hM8.below hb89
  have hR9 := hR8.below hb89
  have hB9 := hB8.trans (hb89.mono hB8.size)
  have Hw9 := hide hw9
  clear hw9 v0 v1 v2 v3 v4 v5 v6 v7 v8 v9 v10 v11 y1 f1
  obtain ⟨NN, B9, D9, G9, gn9, gc9, hI9⟩ := hM9
  have hok9 := (fit_apply (fit_apply fit07 e07).1 (1, 2, e07.2.2)).1.ok
  go_wp2_with fail
  rw [Hw9.out]
  go_fit (state7_any hI9 hok9 0)
  rintro x w10 ⟨cs, rfl, hS10, hb10⟩
  have hB10 := hB9.trans (hb10.mono hB9.size)
  have hQ10 := hQ9.below hb10
  have hR10 := hR9.below hb10
  have hI10 := hI9.below hb10
  have e3 : c07.st 0 = (2, (6, 2), [(0, 1, [97, 98])], c07.rows, c07.ep, c07.ms) := by
    show (c07.num, ((c07.b : Int), (c07.z : Int)), pgL c07.z c07.bs c07.vs 0 c07.b, c07.rows, c07.ep, c07.ms) = _
    rw [u07, t07]; rfl
  have hS10' : tyState.Is w10 (fun k => w9.heap.size ≤ k) (c07.st 0) cs := hS10
  rw [e3] at hS10'
  generalize hst : ((2, (6, 2), [(0, 1, [97, 98])], c07.rows, c07.ep, c07.ms) : StateD) = st at hS10'
  obtain ⟨sNum, sShapeBlocks, sShapeSize, sPages, sPagesA, sPagesn, sPagesc, sPagesv, sRows, sRowsA, sRowsn, sRowsc, sRowsv, sGroupEpoch, sGroupMembers, sGroupMembersA, sGroupMembersn, sGroupMembersc, sGroupMembersv, rfl, rfl, h1_sNum, h2_sNum, h1_sShapeBlocks, h2_sShapeBlocks, h1_sShapeSize, h2_sShapeSize, hl_sPages, hc_sPages, hm_sPages, hr_sPages, hq_sPages, he_sPages, hl_sRows, hc_sRows, hm_sRows, hr_sRows, hq_sRows, he_sRows, h1_sGroupEpoch, h2_sGroupEpoch, hl_sGroupMembers, hc_sGroupMembers, hm_sGroupMembers, hr_sGroupMembers, hq_sGroupMembers, he_sGroupMembers⟩ := State_out hS10'
  simp only [Prod.mk.injEq] at hst
  obtain ⟨-, -, hpg, -⟩ := hst
  subst hpg
  obtain rfl : 1 = sPagesn := hl_sPages
  obtain ⟨pa, hpa, hat⟩ := hr_sPages.some_of (by rw [he_sPages.len]; decide)
  subst hpa
  obtain ⟨pc, hpI, hpc⟩ := he_sPages.get (k := 0) rfl
  generalize hpg : ((0, 1, [97, 98]) : PageD) = pg at hpI
  obtain ⟨tAt, tVersion, tData, tDataA, tDatan, tDatac, rfl, rfl, h1_tAt, h2_tAt, h1_tVersion, h2_tVersion, hl_tData, hc_tData, hm_tData, hr_tData, hq_tData⟩ := Page_out hpI
  simp only [Prod.mk.injEq] at hpg
  obtain ⟨-, hv1, -⟩ := hpg
  subst hv1
  obtain ⟨w11, hw11⟩ : ∃ y, w10.alloc (.cells #[.int .i64 sNum, .int .i64 sShapeBlocks, .int .i64 sShapeSize, .slice (some pa) 1 sPagesc, .slice sRowsA sRowsn sRowsc, .int .i64 sGroupEpoch, .slice sGroupMembersA sGroupMembersn sGroupMembersc] 30) = y := ⟨_, rfl⟩
  have r0 := (hR10.alloc (.cells #[.int .i64 sNum, .int .i64 sShapeBlocks, .int .i64 sShapeSize, .slice (some pa) 1 sPagesc, .slice sRowsA sRowsn sRowsc, .int .i64 sGroupEpoch, .slice sGroupMembersA sGroupMembersn sGroupMembersc] 30)).cell (j := 0) rfl
  have q0 := (hQ10.alloc (.cells #[.int .i64 sNum, .int .i64 sShapeBlocks, .int .i64 sShapeSize, .slice (some pa) 1 sPagesc, .slice sRowsA sRowsn sRowsc, .int .i64 sGroupEpoch, .slice sGroupMembersA sGroupMembersn sGroupMembersc] 30)).cell (j := 0) rfl
  have hS11 : Blk w11 w10.heap.size [.int .i64 sNum, .int .i64 sShapeBlocks, .int .i64 sShapeSize, .slice (some pa) 1 sPagesc, .slice sRowsA sRowsn sRowsc, .int .i64 sGroupEpoch, .slice sGroupMembersA sGroupMembersn sGroupMembersc] 30 := by rw [← hw11]; exact Blk.new w10 [.int .i64 sNum, .int .i64 sShapeBlocks, .int .i64 sShapeSize, .slice (some pa) 1 sPagesc, .slice sRowsA sRowsn sRowsc, .int .i64 sGroupEpoch, .slice sGroupMembersA sGroupMembersn sGroupMembersc] _
  have hb11 : Below w10.heap.size w10 w11 := by rw [← hw11]; exact (Below.refl _ _).alloc (Nat.le_refl _) _
  have hI11 := hI10.below hb11
  have v1 := below_cell hb11 (el_0S (n := 3) (i := 0) hat (hpc 1 _ rfl))
  have y3 := hS11.cell (j := 3) rfl
  have hB11 := hB10.trans (hb11.mono hB10.size)
  have Hw11 := hide hw11
  have HN := hide (num7_any hI11)
  rw [t07] at HN
  clear hw11 hat hpc
  go_wp2_with fail
  rw [Hw11.out]
  clear r0 q0
  go_fit HN.out
  rintro x w12 ⟨rfl, rfl⟩
  go_wp2
  go_ret
  exact ⟨rfl, hB11⟩
end Go.Proofs.YtkknkdjdneldlaaGreat
namespace Go.Proofs.YtkknkdjdneldlaaGreat
set_option maxRecDepth 20000
open Go.RowKit Go.Px Go.Maps
set_option linter.unusedVariables false
/-- Entries that came in: in memory that no machine writes. -/
structure EntsAt (w : World) (B : Nat) (A : Option Addr) (n : Nat) (es : List EntryD) (vs : List Value) : Prop where
  len : es.length = n
  rd : Rd w A vs
  rows : tyEntry.Rows w (fun b => b < B) es vs
  lo : es ≠ [] → ∀ a, A = some a → a.block < B
theorem entsAt_of {w : World} {Q : Nat → Prop} {A : Option Addr} {n : Nat} {es : List EntryD} {vs : List Value} (hl : es.length = n) (hr : Rd w A vs) (hR : tyEntry.Rows w Q es vs) : EntsAt w w.heap.size A n es vs :=
  ⟨hl, hr, hR.low, fun hne => rd_block hr (fun e => hne (by
    have := hR.1
    rw [e] at this
    have h0 : tyEntry.n = 12 := rfl
    rw [h0] at this
    exact List.eq_nil_of_length_eq_zero (by simp at this; omega)))⟩
theorem EntsAt.at_ {w wr : World} {B : Nat} {A : Option Addr} {n : Nat} {es : List EntryD} {vs : List Value} (h : EntsAt w B A n es vs) (hb : Below B w wr) {k : Nat} (hk : k < n) :
    ∃ e a cs, es[k]? = some e ∧ A = some a ∧ tyEntry.Is wr (fun b => b < B) e cs ∧ (∀ (j : Nat) (u : Value), vs[j]? = some u → wr.cell? (a.add j) = some u) ∧ ∀ (i : Nat) (u : Value), cs[i]? = some u → vs[12 * k + i]? = some u := by
  have hk' : k < es.length := by rw [h.len]; exact hk
  have hne : es ≠ [] := fun e => by rw [e] at hk'; simp at hk'
  have hr := h.rd.lo (fun a ha => h.lo hne a ha) hb
  obtain ⟨cs, hI, hc⟩ := (h.rows.lo hb).get (List.getElem?_eq_getElem hk')
  obtain ⟨a, rfl, hat⟩ := hr.some_of (by
    have := h.rows.1
    have h0 : tyEntry.n = 12 := rfl
    rw [h0] at this
    omega)
  exact ⟨_, a, cs, List.getElem?_eq_getElem hk', rfl, hI, hat, hc⟩
theorem entry_renum {w : World} {Q : Nat → Prop} {e : EntryD} {c0 c1 : Value} {cs : List Value} (h : tyEntry.Is w Q e (c0 :: c1 :: cs)) {n : Int} (hn : -9223372036854775808 ≤ n ∧ n ≤ 9223372036854775807) : tyEntry.Is w Q (e.1, n, e.2.2) (c0 :: .int .i64 n :: cs) := by
  obtain ⟨h1, h2, h3⟩ := h
  exact ⟨h1, ⟨rfl, hn⟩, h3⟩
/-- Apply, of an entry that came in. -/
theorem apply_at {w wr : World} {B L : Nat} {Y : Nat → Prop} {f : MFp} {a : MA} {N : Nat} {e : EntryD} {cs : List Value} (hM : MX wr L Y f a N) (hfit : a.Fit) (hI : tyEntry.Is wr (fun b => b < B) e cs) (hL : B ≤ L) (hY : ∀ b, Y b → b < wr.heap.size) (hN : N < 1000000000000) (hB : Below B w wr) (hs : B ≤ wr.heap.size) :
    Calls Tryz.prog 10 #[.pointer (some ⟨f.mb, 0, none⟩), .agg cs.toArray] wr fun x w' => ∃ A c, x = .returned (.tuple #[resv (a.apply e).2.2.1 A (a.apply e).2.2.2.length c, .int .i64 (a.apply e).2.1]) ∧ (a.apply e).2.2.2.length ≤ c ∧ c ≤ 9223372036854775807 ∧ Rd w' A (bys (a.apply e).2.2.2) ∧ (∀ a, A = some a → wr.heap.size ≤ a.block) ∧ MX w' L Y f (a.apply e).1 (N + 1) ∧ (a.apply e).1.Fit ∧ Fr f.W wr w' ∧ Below B w w' := by
  have hlow := hM.low
  refine (apply7_any hM hfit.ok hI (fun b hb hW => by have := hlow b hW; omega) hY hN).mono ?_
  rintro x w' ⟨A, c, h1, h2, h3, h4, h5, h6, h7⟩
  exact ⟨A, c, h1, h2, h3, h4, h5, h6, (fit_apply hfit e).1, h7, h7.below hB hs (fun k hk => by have := hlow k hk; omega)⟩
end Go.Proofs.YtkknkdjdneldlaaGreat
namespace Go.Proofs.YtkknkdjdneldlaaGreat
set_option maxRecDepth 20000
open Go.RowKit Go.Px Go.Maps
set_option linter.unusedVariables false
/-- The document's Apply, of an entry that came in, beside a machine. -/
theorem rapply_at {w wr : World} {B L lo N : Nat} {f : MFp} {rf : RFp} {a b : MA} {e : EntryD} {cs : List Value} (hR : RMX wr lo f.W rf a) (hM : MX wr L rf.W f b N) (hok : a.Ok) (hI : tyEntry.Is wr (fun b => b < B) e cs) (hL : B ≤ L) (hlo : B ≤ lo) (hB : Below B w wr) (hs : B ≤ wr.heap.size) :
    Calls Tryz.prog 11 #[.pointer (some ⟨rf.rb, 0, none⟩), .agg cs.toArray] wr fun x w' => ∃ A c, x = .returned (.tuple #[resv (a.apply e).2.2.1 A (a.apply e).2.2.2.length c, .int .i64 (a.apply e).2.1]) ∧ (a.apply e).2.2.2.length ≤ c ∧ c ≤ 9223372036854775807 ∧ Rd w' A (bys (a.apply e).2.2.2) ∧ RMX w' lo f.W rf (a.apply e).1 ∧ MX w' L rf.W f b N ∧ Fr rf.W wr w' ∧ Below B w w' := by
  have l1 := hM.low
  have l2 := hR.low
  refine (rapply7_any hR hok hI hM.lts (fun k hk => ⟨fun h => by have := l1 k h; omega, by omega, fun h => by have := l2 k h; omega⟩)).mono ?_
  rintro x w' ⟨A, c, h1, h2, h3, h4, h5, h6⟩
  exact ⟨A, c, h1, h2, h3, h4, h5, hM.fr h6 (fun k hk _ => hk), h6, h6.below hB hs (fun k hk => by have := l2 k hk; omega)⟩
/-- Apply, beside the document's machine. -/
theorem mapply_at {w wr : World} {B L lo N : Nat} {f : MFp} {rf : RFp} {a : MA} {e : EntryD} {cs : List Value} (hR : RMX wr lo f.W rf a) (hM : MX wr L rf.W f a N) (hfit : a.Fit) (hI : tyEntry.Is wr (fun b => b < B) e cs) (hL : B ≤ L) (hN : N < 1000000000000) (hB : Below B w wr) (hs : B ≤ wr.heap.size) :
    Calls Tryz.prog 10 #[.pointer (some ⟨f.mb, 0, none⟩), .agg cs.toArray] wr fun x w' => ∃ A c, x = .returned (.tuple #[resv (a.apply e).2.2.1 A (a.apply e).2.2.2.length c, .int .i64 (a.apply e).2.1]) ∧ (a.apply e).2.2.2.length ≤ c ∧ c ≤ 9223372036854775807 ∧ Rd w' A (bys (a.apply e).2.2.2) ∧ (∀ x, A = some x → ¬ rf.W x.block) ∧ MX w' L rf.W f (a.apply e).1 (N + 1) ∧ (a.apply e).1.Fit ∧ RMX w' lo f.W rf a ∧ Fr f.W wr w' ∧ Below B w w' := by
  have l2 := hR.lts
  refine (apply_at hM hfit hI hL l2 hN hB hs).mono ?_
  rintro x w' ⟨A, c, h1, h2, h3, h4, h5, h6, h7, h8, h9⟩
  exact ⟨A, c, h1, h2, h3, h4, fun x hx hW => (by have := h5 x hx; have := l2 _ hW; omega), h6, h7, hR.fr h8 (fun k hk _ => hk), h8, h9⟩
/-- An entry that came in, in every later world. -/
theorem EntsAt.at_all {w : World} {B : Nat} {A : Option Addr} {n : Nat} {es : List EntryD} {vs : List Value} (h : EntsAt w B A n es vs) {k : Nat} (hk : k < n) :
    ∃ e a cs, es[k]? = some e ∧ A = some a ∧ (∀ X, Below B w X → tyEntry.Is X (fun b => b < B) e cs ∧ (∀ (j : Nat) (u : Value), vs[j]? = some u → X.cell? (a.add j) = some u)) ∧ ∀ (i : Nat) (u : Value), cs[i]? = some u → vs[12 * k + i]? = some u := by
  have hk' : k < es.length := by rw [h.len]; exact hk
  have hne : es ≠ [] := fun e => by rw [e] at hk'; simp at hk'
  obtain ⟨cs, hI, hc⟩ := h.rows.get (List.getElem?_eq_getElem hk')
  have h0 : tyEntry.n = 12 := rfl
  have hl := h.rows.1
  rw [h0] at hl
  obtain ⟨a, rfl, _⟩ := h.rd.some_of (by omega)
  refine ⟨_, a, cs, List.getElem?_eq_getElem hk', rfl, fun X hX => ⟨hI.lo hX, ?_⟩, hc⟩
  obtain ⟨a', e', hat⟩ := (h.rd.lo (fun a ha => h.lo hne a ha) hX).some_of (by omega)
  injection e' with e'
  subst e'
  exact hat
theorem ok_patch {a : MA} {x : StateD} (h : a.Fit) (hp : a.patchB x = true) : (a.patch x).Ok := by
  obtain ⟨n, ⟨b, z⟩, ps, rs, ep, ms⟩ := x
  unfold MA.patchB at hp
  simp only [Bool.and_eq_true, decide_eq_true_eq, Bool.not_eq_true', decide_eq_false_iff_not] at hp
  obtain ⟨hx, ⟨hb, hz⟩, hn⟩ := hp
  subst hb
  subst hz
  obtain ⟨x1, x2, x3, x4, x5, x6⟩ := stateB_out hx
  simp only at x1 x2 x3 x4 x5 x6
  have hg := good_of_mpA (by omega) x3
  have hv := versB_out x6
  refine ⟨x1, x4, fun v h' => ?_⟩
  have h' : v ∈ layV a.vs ps := h'
  show 0 ≤ v ∧ v ≤ n
  rcases layV_mem ps _ v h' with h1 | ⟨p, hp, rfl⟩
  · have := h.ok.vs v h1; omega
  · obtain ⟨j, hj, rfl⟩ := List.mem_iff_getElem.1 hp
    obtain ⟨P, _, _, _, e4⟩ := hg j _ (List.getElem?_eq_getElem hj)
    have := serB_out e4
    have := hv _ hp
    omega
theorem patch7_yes {w : World} {Y : Nat → Prop} {L N : Nat} {a : MA} {f : MFp} {Q : Nat → Prop} {x : StateD} {cs9 : List Value} (h : MX w L Y f a N) (hs : tyState.Is w Q x cs9) (hQ : ∀ b, Q b → ¬ f.W b) (hY : ∀ b, Y b → b < w.heap.size) (hp : a.patchB x = true) : Calls Tryz.prog 22 #[.pointer (some ⟨f.mb, 0, none⟩), .agg cs9.toArray] w fun e w' => e = .returned (.int .i64 0) ∧ (∃ f' : MFp, f'.mb = f.mb ∧ f'.v = f.v ∧ f'.r = f.r ∧ f'.s = f.s ∧ MX w' L Y f' (a.patch x) 64 ∧ (f'.bm = f.bm ∨ w.heap.size ≤ f'.bm)) ∧ Fr f.W w w' :=
  (patch7_any h hs hQ hY).mono fun e w' h => by unfold PatchM at h; rw [if_pos hp] at h; exact h
theorem patch7_no {w : World} {Y : Nat → Prop} {L N : Nat} {a : MA} {f : MFp} {Q : Nat → Prop} {x : StateD} {cs9 : List Value} (h : MX w L Y f a N) (hs : tyState.Is w Q x cs9) (hQ : ∀ b, Q b → ¬ f.W b) (hY : ∀ b, Y b → b < w.heap.size) (hp : ¬ a.patchB x = true) : Calls Tryz.prog 22 #[.pointer (some ⟨f.mb, 0, none⟩), .agg cs9.toArray] w fun e w' => e = .returned (.int .i64 72) ∧ Below w.heap.size w w' :=
  (patch7_any h hs hQ hY).mono fun e w' h => by unfold PatchM at h; rw [if_neg hp] at h; exact h
theorem rpatch7_yes {w : World} {Y : Nat → Prop} {lo : Nat} {a : MA} {f : RFp} {Q : Nat → Prop} {x : StateD} {cs9 : List Value} (h : RMX w lo Y f a) (hs : tyState.Is w Q x cs9) (hQ : ∀ b, Q b → ¬ Y b ∧ ¬ f.W b) (hY : ∀ b, Y b → b < w.heap.size) (hp : a.patchB x = true) : Calls Tryz.prog 23 #[.pointer (some ⟨f.rb, 0, none⟩), .agg cs9.toArray] w fun e w' => e = .returned (.int .i64 0) ∧ (∃ f' : RFp, f'.rb = f.rb ∧ f'.rv = f.rv ∧ f'.gb = f.gb ∧ f'.gv = f.gv ∧ RMX w' lo Y f' (a.patch x) ∧ w.heap.size ≤ f'.rt) ∧ Fr f.W w w' :=
  (rpatch7_any h hs hQ hY).mono fun e w' h => by unfold RPatchM at h; rw [if_pos hp] at h; exact h
theorem rpatch7_no {w : World} {Y : Nat → Prop} {lo : Nat} {a : MA} {f : RFp} {Q : Nat → Prop} {x : StateD} {cs9 : List Value} (h : RMX w lo Y f a) (hs : tyState.Is w Q x cs9) (hQ : ∀ b, Q b → ¬ Y b ∧ ¬ f.W b) (hY : ∀ b, Y b → b < w.heap.size) (hp : ¬ a.patchB x = true) : Calls Tryz.prog 23 #[.pointer (some ⟨f.rb, 0, none⟩), .agg cs9.toArray] w fun e w' => e = .returned (.int .i64 72) ∧ Below w.heap.size w w' :=
  (rpatch7_any h hs hQ hY).mono fun e w' h => by unfold RPatchM at h; rw [if_neg hp] at h; exact h
end Go.Proofs.YtkknkdjdneldlaaGreat
namespace Go.Proofs.YtkknkdjdneldlaaGreat
set_option maxRecDepth 20000
open Go.RowKit Go.Px Go.Maps
set_option linter.unusedVariables false
theorem mpatch_by {w : World} {L lo N : Nat} {f : MFp} {rf : RFp} {a : MA} {Q : Nat → Prop} {x : StateD} {cs9 : List Value} (hM : MX w L rf.W f a N) (hR : RMX w lo f.W rf a) (hs : tyState.Is w Q x cs9) (hQ : ∀ b, Q b → ¬ (f.W b ∨ rf.W b)) (hp : a.patchB x = true) :
    Calls Tryz.prog 22 #[.pointer (some ⟨f.mb, 0, none⟩), .agg cs9.toArray] w fun e w' => e = .returned (.int .i64 0) ∧ ∃ f2 : MFp, f2.mb = f.mb ∧ MX w' L rf.W f2 (a.patch x) 64 ∧ RMX w' lo f2.W rf a ∧ Fr (fun b => f.W b ∨ rf.W b) w w' := by
  refine (patch7_yes hM hs (fun b hb hW => hQ b hb (.inl hW)) (fun b hb => hR.lts b hb) hp).mono ?_
  rintro e w' ⟨h1, ⟨f2, e1, e2, e3, e4, hM', hbm⟩, F⟩
  refine ⟨h1, f2, e1, hM', ((hR.avoid (Z := fun b => w.heap.size ≤ b) (fun b hb => hb)).fr F (fun k hk _ => .inl hk)).free (fun b hb => ?_), F.mono fun b hb => .inl hb⟩
  rcases hb with hb | hb | hb | hb | hb
  · exact .inl (.inl (by rw [hb, e1]))
  · exact .inl (.inr (.inl (by rw [hb, e2])))
  · exact .inl (.inr (.inr (.inl (by rw [hb, e3]))))
  · exact .inl (.inr (.inr (.inr (.inl (by rw [hb, e4])))))
  · rcases hbm with h9 | h9
    · exact .inl (.inr (.inr (.inr (.inr (by rw [hb, h9])))))
    · exact .inr (by rw [hb]; exact h9)
theorem rpatch_by {w : World} {L lo N : Nat} {f : MFp} {rf : RFp} {a b : MA} {Q : Nat → Prop} {x : StateD} {cs9 : List Value} (hM : MX w L rf.W f b N) (hR : RMX w lo f.W rf a) (hs : tyState.Is w Q x cs9) (hQ : ∀ b, Q b → ¬ (f.W b ∨ rf.W b)) (hp : a.patchB x = true) :
    Calls Tryz.prog 23 #[.pointer (some ⟨rf.rb, 0, none⟩), .agg cs9.toArray] w fun e w' => e = .returned (.int .i64 0) ∧ ∃ rf2 : RFp, rf2.rb = rf.rb ∧ MX w' L rf2.W f b N ∧ RMX w' lo f.W rf2 (a.patch x) ∧ Fr rf.W w w' := by
  refine (rpatch7_yes hR hs (fun b hb => ⟨fun hW => hQ b hb (.inl hW), fun hW => hQ b hb (.inr hW)⟩) (fun b hb => hM.lts b hb) hp).mono ?_
  rintro e w' ⟨h1, ⟨f2, e1, e2, e3, e4, hR', hrt⟩, F⟩
  refine ⟨h1, f2, e1, ((hM.avoid (Z := fun b => w.heap.size ≤ b) (fun b hb => hb)).fr F (fun k hk _ => .inl hk)).free (fun b hb => ?_), hR', F⟩
  rcases hb with hb | hb | hb | hb | hb
  · exact .inl (.inl (by rw [hb, e1]))
  · exact .inl (.inr (.inl (by rw [hb, e2])))
  · exact .inl (.inr (.inr (.inl (by rw [hb, e3]))))
  · exact .inl (.inr (.inr (.inr (.inl (by rw [hb, e4])))))
  · exact .inr (by rw [hb]; exact hrt)
theorem mstate_by {w : World} {L N mb : Nat} {Y : Nat → Prop} {f : MFp} {a : MA} (hM : MX w L Y f a N) (hok : a.Ok) (hmb : f.mb = mb) (since : Int) :
    Calls Tryz.prog 17 #[.pointer (some ⟨mb, 0, none⟩), .int .i64 since] w fun e w' => ∃ cs, e = .returned (.agg cs.toArray) ∧ tyState.Is w' (fun _ => True) (a.st since) cs ∧ Below w.heap.size w w' := by
  obtain ⟨NN, B, D, G, gn, gc, h⟩ := hM
  subst hmb
  refine (state7_any h hok since).mono ?_
  rintro e w' ⟨cs, h1, h2, h3⟩
  exact ⟨cs, h1, h2.mono (fun _ _ => trivial), h3⟩
theorem rstate_by {w : World} {lo rb : Nat} {Y : Nat → Prop} {rf : RFp} {a : MA} (hR : RMX w lo Y rf a) (hok : a.Ok) (hrb : rf.rb = rb) (since : Int) :
    Calls Tryz.prog 18 #[.pointer (some ⟨rb, 0, none⟩), .int .i64 since] w fun e w' => ∃ cs, e = .returned (.agg cs.toArray) ∧ tyState.Is w' (fun _ => True) (a.st since) cs ∧ Below w.heap.size w w' := by
  obtain ⟨NN, cb, cv, n, c, rows, sv, cs, A, G, gn, gc, h⟩ := hR
  subst hrb
  exact rstate7_any h hok since
/-- What a machine's Ask tells, with the answer as a letter. -/
theorem mask_by {w : World} {L N : Nat} {Y : Nat → Prop} {f : MFp} {a : MA} (hM : MX w L Y f a N) (x s : Int) :
    Calls Tryz.prog 12 #[.pointer (some ⟨f.mb, 0, none⟩), .int .i64 x, .int .i64 s] w (AskM (askV (tmOf a.rows) a.rows.length x s).1 (askV (tmOf a.rows) a.rows.length x s).2.1 (askV (tmOf a.rows) a.rows.length x s).2.2.1 (askV (tmOf a.rows) a.rows.length x s).2.2.2 w) := by
  obtain ⟨NN, B, D, G, gn, gc, h⟩ := hM
  exact ask7_any h x s
/-- What the document's Ask tells. -/
def RAskM (Y : Nat → Prop) (V E : Int) (k : Nat) (bs : List UInt8) (w : World) (e : Ending) (w' : World) : Prop :=
  ∃ D d dc, e = .returned (.tuple #[.int .i64 V, resv k D d dc, .int .i64 E]) ∧ bs.length = d ∧ Rd w' D (bys bs) ∧ (bs ≠ [] → ∀ a, D = some a → ¬ Y a.block) ∧ Below w.heap.size w w'
theorem rask_by {w : World} {lo : Nat} {Y : Nat → Prop} {rf : RFp} {a : MA} (hR : RMX w lo Y rf a) (hok : a.Ok) (x s : Int) :
    Calls Tryz.prog 13 #[.pointer (some ⟨rf.rt, 0, none⟩), .int .i64 x, .int .i64 s] w (RAskM Y (askV (tmOf a.rows) a.rows.length x s).1 (askV (tmOf a.rows) a.rows.length x s).2.1 (askV (tmOf a.rows) a.rows.length x s).2.2.1 (askV (tmOf a.rows) a.rows.length x s).2.2.2 w) := by
  obtain ⟨NN, cb, cv, n, c, rows, sv, cs, A, G, gn, gc, h⟩ := hR
  have h1 := rask_anyQ h.tab h.rq hok.tb x s
  rw [← h.tab.len] at h1
  refine h1.mono ?_
  rintro e w' ⟨D, d, dc, k1, k2, k3, k4, k5, k6, k7, k8⟩
  exact ⟨D, d, dc, k1, k2, k6, fun hne a ha => (k8 hne a ha).1, k7⟩
theorem mnum_by {w : World} {L N : Nat} {Y : Nat → Prop} {f : MFp} {a : MA} (hM : MX w L Y f a N) :
    Calls Tryz.prog 15 #[.pointer (some ⟨f.mb, 0, none⟩)] w fun e w' => e = .returned (.int .i64 a.num) ∧ w = w' := by
  obtain ⟨NN, B, D, G, gn, gc, h⟩ := hM
  exact num7_any h
theorem mgroup_by {w : World} {L N : Nat} {Y : Nat → Prop} {f : MFp} {a : MA} (hM : MX w L Y f a N) :
    Calls Tryz.prog 20 #[.pointer (some ⟨f.mb, 0, none⟩)] w fun e w' => ∃ A c, e = .returned (grp a.ep A a.ms.length c) ∧ a.ms.length ≤ c ∧ c ≤ 9223372036854775807 ∧ Rd w' A (ints a.ms) ∧ Below w.heap.size w w' := by
  obtain ⟨NN, B, D, G, gn, gc, h⟩ := hM
  refine (group7_any h).mono ?_
  rintro e w' ⟨A, c, k1, k2, k3, k4, k5, k6⟩
  exact ⟨A, c, k1, k2, k3, k4, k6⟩
/-- The cells of the document's machine. -/
theorem RMX.cells {w : World} {lo : Nat} {Y : Nat → Prop} {rf : RFp} {a : MA} (hR : RMX w lo Y rf a) : ∃ (rv : Nat) (G : Option Addr) (gc : Nat), Blk w rf.rb [.int .i64 a.num, .pointer (some ⟨rv, 0, none⟩), .pointer (some ⟨rf.rt, 0, none⟩), .int .i64 a.ep, .slice G a.ms.length gc] 56 ∧ Rd w G (ints a.ms) ∧ a.ms.length ≤ gc ∧ gc ≤ 9223372036854775807 := by
  obtain ⟨NN, cb, cv, n, c, rows, sv, cs, A, G, gn, gc, h⟩ := hR
  have h1 := h.gl
  subst h1
  exact ⟨rf.rv, G, gc, h.blk, h.gr, h.gc_.1, h.gc_.2⟩
end Go.Proofs.YtkknkdjdneldlaaGreat
