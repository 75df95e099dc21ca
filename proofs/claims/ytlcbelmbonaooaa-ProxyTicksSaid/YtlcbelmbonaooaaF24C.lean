/- Stage 24: clients held against each other, as the document says (written by gen_24a.py). -/
import Derived.Test.YtlcbelmbonaooaaF24a
namespace Go.Proofs.Ytlcbelmbonaooaa
set_option maxRecDepth 20000
open Go.RowKit Go.Px Go.Maps
set_option linter.unusedVariables false
set_option linter.unusedSimpArgs false
/-- Are two clients alike? -/
def eqPr (x y : ProxyD) : Bool := (x.1 == y.1) && (eqG x.2.1.1 x.2.1.2 y.2.1.1 y.2.1.2 && ((x.2.2.1 == y.2.2.1) && ((x.2.2.2.1 == y.2.2.2.1) && ((x.2.2.2.2.1 == y.2.2.2.2.1) && (eqO x.2.2.2.2.2.1.1 x.2.2.2.2.2.1.2.1 x.2.2.2.2.2.1.2.2.1 x.2.2.2.2.2.1.2.2.2.1 x.2.2.2.2.2.1.2.2.2.2 y.2.2.2.2.2.1.1 y.2.2.2.2.2.1.2.1 y.2.2.2.2.2.1.2.2.1 y.2.2.2.2.2.1.2.2.2.1 y.2.2.2.2.2.1.2.2.2.2 && (eqG x.2.2.2.2.2.2.1.1 x.2.2.2.2.2.2.1.2 y.2.2.2.2.2.2.1.1 y.2.2.2.2.2.2.1.2 && (x.2.2.2.2.2.2.2 == y.2.2.2.2.2.2.2)))))))
theorem eqPr_self (x : ProxyD) : eqPr x x = true := by unfold eqPr eqG eqB eqO; simp
set_option maxRecDepth 20000 in
set_option maxHeartbeats 25600000 in
theorem rprS_any {w : World} {Q Q' : Nat → Prop} {x y : ProxyD} {cs ds : List Value} (h : tyProxy.Is w Q x cs) (h' : tyProxy.Is w Q' y ds) : Calls Try.prog 15 #[.agg cs.toArray, .agg ds.toArray] w fun e w' => e = .returned (.bool (eqPr x y)) ∧ Below w.heap.size w w' := by
  obtain ⟨aID, aGroupEpoch, aGroupMembers, aGroupMembersA, aGroupMembersn, aGroupMembersc, aGroupMembersv, aView, aSerial, aBusy, aOpKind, aOpAt, aOpN, aOpData, aOpDataA, aOpDatan, aOpDatac, aOpOld, aOpOldA, aOpOldn, aOpOldc, aNextEpoch, aNextMembers, aNextMembersA, aNextMembersn, aNextMembersc, aNextMembersv, aQuiet, rfl, rfl, h1_aID, h2_aID, h1_aGroupEpoch, h2_aGroupEpoch, hl_aGroupMembers, hc_aGroupMembers, hm_aGroupMembers, hr_aGroupMembers, hq_aGroupMembers, he_aGroupMembers, h1_aView, h2_aView, h1_aSerial, h2_aSerial, hu_aOpKind, h1_aOpAt, h2_aOpAt, h1_aOpN, h2_aOpN, hl_aOpData, hc_aOpData, hm_aOpData, hr_aOpData, hq_aOpData, hl_aOpOld, hc_aOpOld, hm_aOpOld, hr_aOpOld, hq_aOpOld, h1_aNextEpoch, h2_aNextEpoch, hl_aNextMembers, hc_aNextMembers, hm_aNextMembers, hr_aNextMembers, hq_aNextMembers, he_aNextMembers, h1_aQuiet, h2_aQuiet⟩ := Proxy_out h
  obtain ⟨bID, bGroupEpoch, bGroupMembers, bGroupMembersA, bGroupMembersn, bGroupMembersc, bGroupMembersv, bView, bSerial, bBusy, bOpKind, bOpAt, bOpN, bOpData, bOpDataA, bOpDatan, bOpDatac, bOpOld, bOpOldA, bOpOldn, bOpOldc, bNextEpoch, bNextMembers, bNextMembersA, bNextMembersn, bNextMembersc, bNextMembersv, bQuiet, rfl, rfl, h1_bID, h2_bID, h1_bGroupEpoch, h2_bGroupEpoch, hl_bGroupMembers, hc_bGroupMembers, hm_bGroupMembers, hr_bGroupMembers, hq_bGroupMembers, he_bGroupMembers, h1_bView, h2_bView, h1_bSerial, h2_bSerial, hu_bOpKind, h1_bOpAt, h2_bOpAt, h1_bOpN, h2_bOpN, hl_bOpData, hc_bOpData, hm_bOpData, hr_bOpData, hq_bOpData, hl_bOpOld, hc_bOpOld, hm_bOpOld, hr_bOpOld, hq_bOpOld, h1_bNextEpoch, h2_bNextEpoch, hl_bNextMembers, hc_bNextMembers, hm_bNextMembers, hr_bNextMembers, hq_bNextMembers, he_bNextMembers, h1_bQuiet, h2_bQuiet⟩ := Proxy_out h'
  obtain ⟨hm1, _⟩ := i64rows he_aGroupMembers
  subst hm1
  obtain ⟨hm2, _⟩ := i64rows he_bGroupMembers
  subst hm2
  obtain ⟨hm3, _⟩ := i64rows he_aNextMembers
  subst hm3
  obtain ⟨hm4, _⟩ := i64rows he_bNextMembers
  subst hm4
  obtain ⟨g, hg⟩ : ∃ g, w.heap.size = g := ⟨_, rfl⟩
  obtain ⟨w0, hw0⟩ : ∃ x, (w.alloc (.cells #[.int .i64 aID, .int .i64 aGroupEpoch, .slice aGroupMembersA aGroupMembersn aGroupMembersc, .int .i64 aView, .int .i64 aSerial, .bool aBusy, .int .u8 aOpKind, .int .i64 aOpAt, .int .i64 aOpN, .slice aOpDataA aOpDatan aOpDatac, .slice aOpOldA aOpOldn aOpOldc, .int .i64 aNextEpoch, .slice aNextMembersA aNextMembersn aNextMembersc, .int .i64 aQuiet] 30)).alloc (.cells #[.int .i64 bID, .int .i64 bGroupEpoch, .slice bGroupMembersA bGroupMembersn bGroupMembersc, .int .i64 bView, .int .i64 bSerial, .bool bBusy, .int .u8 bOpKind, .int .i64 bOpAt, .int .i64 bOpN, .slice bOpDataA bOpDatan bOpDatac, .slice bOpOldA bOpOldn bOpOldc, .int .i64 bNextEpoch, .slice bNextMembersA bNextMembersn bNextMembersc, .int .i64 bQuiet] 30) = x := ⟨_, rfl⟩
  have hS : Blk w0 g [.int .i64 aID, .int .i64 aGroupEpoch, .slice aGroupMembersA aGroupMembersn aGroupMembersc, .int .i64 aView, .int .i64 aSerial, .bool aBusy, .int .u8 aOpKind, .int .i64 aOpAt, .int .i64 aOpN, .slice aOpDataA aOpDatan aOpDatac, .slice aOpOldA aOpOldn aOpOldc, .int .i64 aNextEpoch, .slice aNextMembersA aNextMembersn aNextMembersc, .int .i64 aQuiet] 30 := by rw [← hw0, ← hg]; exact (Blk.new w [.int .i64 aID, .int .i64 aGroupEpoch, .slice aGroupMembersA aGroupMembersn aGroupMembersc, .int .i64 aView, .int .i64 aSerial, .bool aBusy, .int .u8 aOpKind, .int .i64 aOpAt, .int .i64 aOpN, .slice aOpDataA aOpDatan aOpDatac, .slice aOpOldA aOpOldn aOpOldc, .int .i64 aNextEpoch, .slice aNextMembersA aNextMembersn aNextMembersc, .int .i64 aQuiet] _).alloc _
  have hT : Blk w0 (g + 1) [.int .i64 bID, .int .i64 bGroupEpoch, .slice bGroupMembersA bGroupMembersn bGroupMembersc, .int .i64 bView, .int .i64 bSerial, .bool bBusy, .int .u8 bOpKind, .int .i64 bOpAt, .int .i64 bOpN, .slice bOpDataA bOpDatan bOpDatac, .slice bOpOldA bOpOldn bOpOldc, .int .i64 bNextEpoch, .slice bNextMembersA bNextMembersn bNextMembersc, .int .i64 bQuiet] 30 := by
    rw [← hw0, ← hg]
    have := Blk.new (w.alloc (.cells #[.int .i64 aID, .int .i64 aGroupEpoch, .slice aGroupMembersA aGroupMembersn aGroupMembersc, .int .i64 aView, .int .i64 aSerial, .bool aBusy, .int .u8 aOpKind, .int .i64 aOpAt, .int .i64 aOpN, .slice aOpDataA aOpDatan aOpDatac, .slice aOpOldA aOpOldn aOpOldc, .int .i64 aNextEpoch, .slice aNextMembersA aNextMembersn aNextMembersc, .int .i64 aQuiet] 30)) [.int .i64 bID, .int .i64 bGroupEpoch, .slice bGroupMembersA bGroupMembersn bGroupMembersc, .int .i64 bView, .int .i64 bSerial, .bool bBusy, .int .u8 bOpKind, .int .i64 bOpAt, .int .i64 bOpN, .slice bOpDataA bOpDatan bOpDatac, .slice bOpOldA bOpOldn bOpOldc, .int .i64 bNextEpoch, .slice bNextMembersA bNextMembersn bNextMembersc, .int .i64 bQuiet] 30
    rwa [World.size_alloc] at this
  have hb0 : Below w.heap.size w w0 := by rw [← hw0]; exact ((Below.refl _ _).alloc (Nat.le_refl _) _).alloc (by simp) _
  have HG := hide (fun W (hW : Below w.heap.size w W) => rsameg_any aGroupEpoch aGroupMembersA aGroupMembersn aGroupMembersc aGroupMembers bGroupEpoch bGroupMembersA bGroupMembersn bGroupMembersc bGroupMembers W hl_aGroupMembers hl_bGroupMembers (by omega) (by omega) (hr_aGroupMembers.below hW) (hr_bGroupMembers.below hW))
  have HN := hide (fun W (hW : Below w.heap.size w W) => rsameg_any aNextEpoch aNextMembersA aNextMembersn aNextMembersc aNextMembers bNextEpoch bNextMembersA bNextMembersn bNextMembersc bNextMembers W hl_aNextMembers hl_bNextMembers (by omega) (by omega) (hr_aNextMembers.below hW) (hr_bNextMembers.below hW))
  have HO := hide (fun W (hW : Below w.heap.size w W) => rosame_any aOpKind aOpAt aOpN aOpDataA aOpDatan aOpDatac aOpData aOpOldA aOpOldn aOpOldc aOpOld bOpKind bOpAt bOpN bOpDataA bOpDatan bOpDatac bOpData bOpOldA bOpOldn bOpOldc bOpOld W hl_aOpData hl_aOpOld hl_bOpData hl_bOpOld (hr_aOpData.below hW) (hr_aOpOld.below hW) (hr_bOpData.below hW) (hr_bOpOld.below hW))
  clear hl_aGroupMembers hr_aGroupMembers hq_aGroupMembers he_aGroupMembers hl_aOpData hr_aOpData hq_aOpData hl_aOpOld hr_aOpOld hq_aOpOld hl_aNextMembers hr_aNextMembers hq_aNextMembers he_aNextMembers
  clear hl_bGroupMembers hr_bGroupMembers hq_bGroupMembers he_bGroupMembers hl_bOpData hr_bOpData hq_bOpData hl_bOpOld hr_bOpOld hq_bOpOld hl_bNextMembers hr_bNextMembers hq_bNextMembers he_bNextMembers
  have Hw0 := hide hw0
  have Hg := hide hg
  clear hw0
  have HQ := hide (show eqPr (aID, (aGroupEpoch, aGroupMembers), aView, aSerial, aBusy, (aOpKind, aOpAt, aOpN, aOpData, aOpOld), (aNextEpoch, aNextMembers), aQuiet) (bID, (bGroupEpoch, bGroupMembers), bView, bSerial, bBusy, (bOpKind, bOpAt, bOpN, bOpData, bOpOld), (bNextEpoch, bNextMembers), bQuiet) = ((aID == bID) && ((eqG aGroupEpoch aGroupMembers bGroupEpoch bGroupMembers) && ((aView == bView) && ((aSerial == bSerial) && ((aBusy == bBusy) && ((eqO aOpKind aOpAt aOpN aOpData aOpOld bOpKind bOpAt bOpN bOpData bOpOld) && ((eqG aNextEpoch aNextMembers bNextEpoch bNextMembers) && ((aQuiet == bQuiet))))))))) from rfl)
  have y0 := Blk.cell hS (j := 0) rfl; have y1 := Blk.cell hS (j := 1) rfl; have y2 := Blk.cell hS (j := 2) rfl; have y3 := Blk.cell hS (j := 3) rfl; have y4 := Blk.cell hS (j := 4) rfl; have y5 := Blk.cell hS (j := 5) rfl; have y6 := Blk.cell hS (j := 6) rfl; have y7 := Blk.cell hS (j := 7) rfl; have y8 := Blk.cell hS (j := 8) rfl; have y9 := Blk.cell hS (j := 9) rfl; have y10 := Blk.cell hS (j := 10) rfl; have y11 := Blk.cell hS (j := 11) rfl; have y12 := Blk.cell hS (j := 12) rfl; have y13 := Blk.cell hS (j := 13) rfl
  have z0 := Blk.cell hT (j := 0) rfl; have z1 := Blk.cell hT (j := 1) rfl; have z2 := Blk.cell hT (j := 2) rfl; have z3 := Blk.cell hT (j := 3) rfl; have z4 := Blk.cell hT (j := 4) rfl; have z5 := Blk.cell hT (j := 5) rfl; have z6 := Blk.cell hT (j := 6) rfl; have z7 := Blk.cell hT (j := 7) rfl; have z8 := Blk.cell hT (j := 8) rfl; have z9 := Blk.cell hT (j := 9) rfl; have z10 := Blk.cell hT (j := 10) rfl; have z11 := Blk.cell hT (j := 11) rfl; have z12 := Blk.cell hT (j := 12) rfl; have z13 := Blk.cell hT (j := 13) rfl
  rcases bool_two (aID == bID) with c1 | c1
  rotate_left
  · have Hc1 := hide c1
    have HR := hide (show eqPr (aID, (aGroupEpoch, aGroupMembers), aView, aSerial, aBusy, (aOpKind, aOpAt, aOpN, aOpData, aOpOld), (aNextEpoch, aNextMembers), aQuiet) (bID, (bGroupEpoch, bGroupMembers), bView, bSerial, bBusy, (bOpKind, bOpAt, bOpN, bOpData, bOpOld), (bNextEpoch, bNextMembers), bQuiet) = false by rw [HQ.out]; simp only [Hc1.out, Bool.true_and, Bool.false_and, Bool.and_false])
    skip
    go_enter Try.func15, Try.ntmps15
    go_wp2
    go_ret
    exact ⟨by rw [HR.out]; rfl, by first | exact hb0 | (rw [Hw0.out]; exact hb0)⟩

  have Hc1 := hide c1
  skip
  rcases bool_two (eqG aGroupEpoch aGroupMembers bGroupEpoch bGroupMembers) with c2 | c2
  rotate_left
  · have Hc2 := hide c2
    have HR := hide (show eqPr (aID, (aGroupEpoch, aGroupMembers), aView, aSerial, aBusy, (aOpKind, aOpAt, aOpN, aOpData, aOpOld), (aNextEpoch, aNextMembers), aQuiet) (bID, (bGroupEpoch, bGroupMembers), bView, bSerial, bBusy, (bOpKind, bOpAt, bOpN, bOpData, bOpOld), (bNextEpoch, bNextMembers), bQuiet) = false by rw [HQ.out]; simp only [Hc1.out, Hc2.out, Bool.true_and, Bool.false_and, Bool.and_false])
    clear c2
    go_enter Try.func15, Try.ntmps15
    go_wp2_with fail
    try rw [Hw0.out]
    go_fit (HG.out w0 hb0)
    rw [Hc2.out]
    rintro xx v0 ⟨rfl, hd0⟩
    have he0 := hb0.trans (hd0.mono hb0.size)
    replace hS := hS.below hd0
    clear y0 y1 y2 y3 y4 y5 y6 y7 y8 y9 y10 y11 y12 y13
    have y0 := Blk.cell hS (j := 0) rfl; have y1 := Blk.cell hS (j := 1) rfl; have y2 := Blk.cell hS (j := 2) rfl; have y3 := Blk.cell hS (j := 3) rfl; have y4 := Blk.cell hS (j := 4) rfl; have y5 := Blk.cell hS (j := 5) rfl; have y6 := Blk.cell hS (j := 6) rfl; have y7 := Blk.cell hS (j := 7) rfl; have y8 := Blk.cell hS (j := 8) rfl; have y9 := Blk.cell hS (j := 9) rfl; have y10 := Blk.cell hS (j := 10) rfl; have y11 := Blk.cell hS (j := 11) rfl; have y12 := Blk.cell hS (j := 12) rfl; have y13 := Blk.cell hS (j := 13) rfl
    replace hT := hT.below hd0
    clear z0 z1 z2 z3 z4 z5 z6 z7 z8 z9 z10 z11 z12 z13
    have z0 := Blk.cell hT (j := 0) rfl; have z1 := Blk.cell hT (j := 1) rfl; have z2 := Blk.cell hT (j := 2) rfl; have z3 := Blk.cell hT (j := 3) rfl; have z4 := Blk.cell hT (j := 4) rfl; have z5 := Blk.cell hT (j := 5) rfl; have z6 := Blk.cell hT (j := 6) rfl; have z7 := Blk.cell hT (j := 7) rfl; have z8 := Blk.cell hT (j := 8) rfl; have z9 := Blk.cell hT (j := 9) rfl; have z10 := Blk.cell hT (j := 10) rfl; have z11 := Blk.cell hT (j := 11) rfl; have z12 := Blk.cell hT (j := 12) rfl; have z13 := Blk.cell hT (j := 13) rfl
    go_wp2
    go_ret
    exact ⟨by rw [HR.out]; rfl, by first | exact he0 | (rw [Hw0.out]; exact he0)⟩

  have Hc2 := hide c2
  clear c2
  rcases bool_two (aView == bView) with c3 | c3
  rotate_left
  · have Hc3 := hide c3
    have HR := hide (show eqPr (aID, (aGroupEpoch, aGroupMembers), aView, aSerial, aBusy, (aOpKind, aOpAt, aOpN, aOpData, aOpOld), (aNextEpoch, aNextMembers), aQuiet) (bID, (bGroupEpoch, bGroupMembers), bView, bSerial, bBusy, (bOpKind, bOpAt, bOpN, bOpData, bOpOld), (bNextEpoch, bNextMembers), bQuiet) = false by rw [HQ.out]; simp only [Hc1.out, Hc2.out, Hc3.out, Bool.true_and, Bool.false_and, Bool.and_false])
    skip
    go_enter Try.func15, Try.ntmps15
    go_wp2_with fail
    try rw [Hw0.out]
    go_fit (HG.out w0 hb0)
    rw [Hc2.out]
    rintro xx v0 ⟨rfl, hd0⟩
    have he0 := hb0.trans (hd0.mono hb0.size)
    replace hS := hS.below hd0
    clear y0 y1 y2 y3 y4 y5 y6 y7 y8 y9 y10 y11 y12 y13
    have y0 := Blk.cell hS (j := 0) rfl; have y1 := Blk.cell hS (j := 1) rfl; have y2 := Blk.cell hS (j := 2) rfl; have y3 := Blk.cell hS (j := 3) rfl; have y4 := Blk.cell hS (j := 4) rfl; have y5 := Blk.cell hS (j := 5) rfl; have y6 := Blk.cell hS (j := 6) rfl; have y7 := Blk.cell hS (j := 7) rfl; have y8 := Blk.cell hS (j := 8) rfl; have y9 := Blk.cell hS (j := 9) rfl; have y10 := Blk.cell hS (j := 10) rfl; have y11 := Blk.cell hS (j := 11) rfl; have y12 := Blk.cell hS (j := 12) rfl; have y13 := Blk.cell hS (j := 13) rfl
    replace hT := hT.below hd0
    clear z0 z1 z2 z3 z4 z5 z6 z7 z8 z9 z10 z11 z12 z13
    have z0 := Blk.cell hT (j := 0) rfl; have z1 := Blk.cell hT (j := 1) rfl; have z2 := Blk.cell hT (j := 2) rfl; have z3 := Blk.cell hT (j := 3) rfl; have z4 := Blk.cell hT (j := 4) rfl; have z5 := Blk.cell hT (j := 5) rfl; have z6 := Blk.cell hT (j := 6) rfl; have z7 := Blk.cell hT (j := 7) rfl; have z8 := Blk.cell hT (j := 8) rfl; have z9 := Blk.cell hT (j := 9) rfl; have z10 := Blk.cell hT (j := 10) rfl; have z11 := Blk.cell hT (j := 11) rfl; have z12 := Blk.cell hT (j := 12) rfl; have z13 := Blk.cell hT (j := 13) rfl
    go_wp2
    go_ret
    exact ⟨by rw [HR.out]; rfl, by first | exact he0 | (rw [Hw0.out]; exact he0)⟩

  have Hc3 := hide c3
  skip
  rcases bool_two (aSerial == bSerial) with c4 | c4
  rotate_left
  · have Hc4 := hide c4
    have HR := hide (show eqPr (aID, (aGroupEpoch, aGroupMembers), aView, aSerial, aBusy, (aOpKind, aOpAt, aOpN, aOpData, aOpOld), (aNextEpoch, aNextMembers), aQuiet) (bID, (bGroupEpoch, bGroupMembers), bView, bSerial, bBusy, (bOpKind, bOpAt, bOpN, bOpData, bOpOld), (bNextEpoch, bNextMembers), bQuiet) = false by rw [HQ.out]; simp only [Hc1.out, Hc2.out, Hc3.out, Hc4.out, Bool.true_and, Bool.false_and, Bool.and_false])
    skip
    go_enter Try.func15, Try.ntmps15
    go_wp2_with fail
    try rw [Hw0.out]
    go_fit (HG.out w0 hb0)
    rw [Hc2.out]
    rintro xx v0 ⟨rfl, hd0⟩
    have he0 := hb0.trans (hd0.mono hb0.size)
    replace hS := hS.below hd0
    clear y0 y1 y2 y3 y4 y5 y6 y7 y8 y9 y10 y11 y12 y13
    have y0 := Blk.cell hS (j := 0) rfl; have y1 := Blk.cell hS (j := 1) rfl; have y2 := Blk.cell hS (j := 2) rfl; have y3 := Blk.cell hS (j := 3) rfl; have y4 := Blk.cell hS (j := 4) rfl; have y5 := Blk.cell hS (j := 5) rfl; have y6 := Blk.cell hS (j := 6) rfl; have y7 := Blk.cell hS (j := 7) rfl; have y8 := Blk.cell hS (j := 8) rfl; have y9 := Blk.cell hS (j := 9) rfl; have y10 := Blk.cell hS (j := 10) rfl; have y11 := Blk.cell hS (j := 11) rfl; have y12 := Blk.cell hS (j := 12) rfl; have y13 := Blk.cell hS (j := 13) rfl
    replace hT := hT.below hd0
    clear z0 z1 z2 z3 z4 z5 z6 z7 z8 z9 z10 z11 z12 z13
    have z0 := Blk.cell hT (j := 0) rfl; have z1 := Blk.cell hT (j := 1) rfl; have z2 := Blk.cell hT (j := 2) rfl; have z3 := Blk.cell hT (j := 3) rfl; have z4 := Blk.cell hT (j := 4) rfl; have z5 := Blk.cell hT (j := 5) rfl; have z6 := Blk.cell hT (j := 6) rfl; have z7 := Blk.cell hT (j := 7) rfl; have z8 := Blk.cell hT (j := 8) rfl; have z9 := Blk.cell hT (j := 9) rfl; have z10 := Blk.cell hT (j := 10) rfl; have z11 := Blk.cell hT (j := 11) rfl; have z12 := Blk.cell hT (j := 12) rfl; have z13 := Blk.cell hT (j := 13) rfl
    go_wp2
    go_ret
    exact ⟨by rw [HR.out]; rfl, by first | exact he0 | (rw [Hw0.out]; exact he0)⟩

  have Hc4 := hide c4
  skip
  rcases bool_two (aBusy == bBusy) with c5 | c5
  rotate_left
  · have Hc5 := hide c5
    have HR := hide (show eqPr (aID, (aGroupEpoch, aGroupMembers), aView, aSerial, aBusy, (aOpKind, aOpAt, aOpN, aOpData, aOpOld), (aNextEpoch, aNextMembers), aQuiet) (bID, (bGroupEpoch, bGroupMembers), bView, bSerial, bBusy, (bOpKind, bOpAt, bOpN, bOpData, bOpOld), (bNextEpoch, bNextMembers), bQuiet) = false by rw [HQ.out]; simp only [Hc1.out, Hc2.out, Hc3.out, Hc4.out, Hc5.out, Bool.true_and, Bool.false_and, Bool.and_false])
    skip
    go_enter Try.func15, Try.ntmps15
    go_wp2_with fail
    try rw [Hw0.out]
    go_fit (HG.out w0 hb0)
    rw [Hc2.out]
    rintro xx v0 ⟨rfl, hd0⟩
    have he0 := hb0.trans (hd0.mono hb0.size)
    replace hS := hS.below hd0
    clear y0 y1 y2 y3 y4 y5 y6 y7 y8 y9 y10 y11 y12 y13
    have y0 := Blk.cell hS (j := 0) rfl; have y1 := Blk.cell hS (j := 1) rfl; have y2 := Blk.cell hS (j := 2) rfl; have y3 := Blk.cell hS (j := 3) rfl; have y4 := Blk.cell hS (j := 4) rfl; have y5 := Blk.cell hS (j := 5) rfl; have y6 := Blk.cell hS (j := 6) rfl; have y7 := Blk.cell hS (j := 7) rfl; have y8 := Blk.cell hS (j := 8) rfl; have y9 := Blk.cell hS (j := 9) rfl; have y10 := Blk.cell hS (j := 10) rfl; have y11 := Blk.cell hS (j := 11) rfl; have y12 := Blk.cell hS (j := 12) rfl; have y13 := Blk.cell hS (j := 13) rfl
    replace hT := hT.below hd0
    clear z0 z1 z2 z3 z4 z5 z6 z7 z8 z9 z10 z11 z12 z13
    have z0 := Blk.cell hT (j := 0) rfl; have z1 := Blk.cell hT (j := 1) rfl; have z2 := Blk.cell hT (j := 2) rfl; have z3 := Blk.cell hT (j := 3) rfl; have z4 := Blk.cell hT (j := 4) rfl; have z5 := Blk.cell hT (j := 5) rfl; have z6 := Blk.cell hT (j := 6) rfl; have z7 := Blk.cell hT (j := 7) rfl; have z8 := Blk.cell hT (j := 8) rfl; have z9 := Blk.cell hT (j := 9) rfl; have z10 := Blk.cell hT (j := 10) rfl; have z11 := Blk.cell hT (j := 11) rfl; have z12 := Blk.cell hT (j := 12) rfl; have z13 := Blk.cell hT (j := 13) rfl
    go_wp2
    go_ret
    exact ⟨by rw [HR.out]; rfl, by first | exact he0 | (rw [Hw0.out]; exact he0)⟩

  have Hc5 := hide c5
  skip
  rcases bool_two (eqO aOpKind aOpAt aOpN aOpData aOpOld bOpKind bOpAt bOpN bOpData bOpOld) with c6 | c6
  rotate_left
  · have Hc6 := hide c6
    have HR := hide (show eqPr (aID, (aGroupEpoch, aGroupMembers), aView, aSerial, aBusy, (aOpKind, aOpAt, aOpN, aOpData, aOpOld), (aNextEpoch, aNextMembers), aQuiet) (bID, (bGroupEpoch, bGroupMembers), bView, bSerial, bBusy, (bOpKind, bOpAt, bOpN, bOpData, bOpOld), (bNextEpoch, bNextMembers), bQuiet) = false by rw [HQ.out]; simp only [Hc1.out, Hc2.out, Hc3.out, Hc4.out, Hc5.out, Hc6.out, Bool.true_and, Bool.false_and, Bool.and_false])
    clear c6
    go_enter Try.func15, Try.ntmps15
    go_wp2_with fail
    try rw [Hw0.out]
    go_fit (HG.out w0 hb0)
    rw [Hc2.out]
    rintro xx v0 ⟨rfl, hd0⟩
    have he0 := hb0.trans (hd0.mono hb0.size)
    replace hS := hS.below hd0
    clear y0 y1 y2 y3 y4 y5 y6 y7 y8 y9 y10 y11 y12 y13
    have y0 := Blk.cell hS (j := 0) rfl; have y1 := Blk.cell hS (j := 1) rfl; have y2 := Blk.cell hS (j := 2) rfl; have y3 := Blk.cell hS (j := 3) rfl; have y4 := Blk.cell hS (j := 4) rfl; have y5 := Blk.cell hS (j := 5) rfl; have y6 := Blk.cell hS (j := 6) rfl; have y7 := Blk.cell hS (j := 7) rfl; have y8 := Blk.cell hS (j := 8) rfl; have y9 := Blk.cell hS (j := 9) rfl; have y10 := Blk.cell hS (j := 10) rfl; have y11 := Blk.cell hS (j := 11) rfl; have y12 := Blk.cell hS (j := 12) rfl; have y13 := Blk.cell hS (j := 13) rfl
    replace hT := hT.below hd0
    clear z0 z1 z2 z3 z4 z5 z6 z7 z8 z9 z10 z11 z12 z13
    have z0 := Blk.cell hT (j := 0) rfl; have z1 := Blk.cell hT (j := 1) rfl; have z2 := Blk.cell hT (j := 2) rfl; have z3 := Blk.cell hT (j := 3) rfl; have z4 := Blk.cell hT (j := 4) rfl; have z5 := Blk.cell hT (j := 5) rfl; have z6 := Blk.cell hT (j := 6) rfl; have z7 := Blk.cell hT (j := 7) rfl; have z8 := Blk.cell hT (j := 8) rfl; have z9 := Blk.cell hT (j := 9) rfl; have z10 := Blk.cell hT (j := 10) rfl; have z11 := Blk.cell hT (j := 11) rfl; have z12 := Blk.cell hT (j := 12) rfl; have z13 := Blk.cell hT (j := 13) rfl
    go_wp2_with fail
    go_fit (HO.out v0 he0)
    rw [Hc6.out]
    rintro xx v1 ⟨rfl, hd1⟩
    have he1 := he0.trans (hd1.mono he0.size)
    replace hS := hS.below hd1
    clear y0 y1 y2 y3 y4 y5 y6 y7 y8 y9 y10 y11 y12 y13
    have y0 := Blk.cell hS (j := 0) rfl; have y1 := Blk.cell hS (j := 1) rfl; have y2 := Blk.cell hS (j := 2) rfl; have y3 := Blk.cell hS (j := 3) rfl; have y4 := Blk.cell hS (j := 4) rfl; have y5 := Blk.cell hS (j := 5) rfl; have y6 := Blk.cell hS (j := 6) rfl; have y7 := Blk.cell hS (j := 7) rfl; have y8 := Blk.cell hS (j := 8) rfl; have y9 := Blk.cell hS (j := 9) rfl; have y10 := Blk.cell hS (j := 10) rfl; have y11 := Blk.cell hS (j := 11) rfl; have y12 := Blk.cell hS (j := 12) rfl; have y13 := Blk.cell hS (j := 13) rfl
    replace hT := hT.below hd1
    clear z0 z1 z2 z3 z4 z5 z6 z7 z8 z9 z10 z11 z12 z13
    have z0 := Blk.cell hT (j := 0) rfl; have z1 := Blk.cell hT (j := 1) rfl; have z2 := Blk.cell hT (j := 2) rfl; have z3 := Blk.cell hT (j := 3) rfl; have z4 := Blk.cell hT (j := 4) rfl; have z5 := Blk.cell hT (j := 5) rfl; have z6 := Blk.cell hT (j := 6) rfl; have z7 := Blk.cell hT (j := 7) rfl; have z8 := Blk.cell hT (j := 8) rfl; have z9 := Blk.cell hT (j := 9) rfl; have z10 := Blk.cell hT (j := 10) rfl; have z11 := Blk.cell hT (j := 11) rfl; have z12 := Blk.cell hT (j := 12) rfl; have z13 := Blk.cell hT (j := 13) rfl
    go_wp2
    go_ret
    exact ⟨by rw [HR.out]; rfl, by first | exact he1 | (rw [Hw0.out]; exact he1)⟩

  have Hc6 := hide c6
  clear c6
  rcases bool_two (eqG aNextEpoch aNextMembers bNextEpoch bNextMembers) with c7 | c7
  rotate_left
  · have Hc7 := hide c7
    have HR := hide (show eqPr (aID, (aGroupEpoch, aGroupMembers), aView, aSerial, aBusy, (aOpKind, aOpAt, aOpN, aOpData, aOpOld), (aNextEpoch, aNextMembers), aQuiet) (bID, (bGroupEpoch, bGroupMembers), bView, bSerial, bBusy, (bOpKind, bOpAt, bOpN, bOpData, bOpOld), (bNextEpoch, bNextMembers), bQuiet) = false by rw [HQ.out]; simp only [Hc1.out, Hc2.out, Hc3.out, Hc4.out, Hc5.out, Hc6.out, Hc7.out, Bool.true_and, Bool.false_and, Bool.and_false])
    clear c7
    go_enter Try.func15, Try.ntmps15
    go_wp2_with fail
    try rw [Hw0.out]
    go_fit (HG.out w0 hb0)
    rw [Hc2.out]
    rintro xx v0 ⟨rfl, hd0⟩
    have he0 := hb0.trans (hd0.mono hb0.size)
    replace hS := hS.below hd0
    clear y0 y1 y2 y3 y4 y5 y6 y7 y8 y9 y10 y11 y12 y13
    have y0 := Blk.cell hS (j := 0) rfl; have y1 := Blk.cell hS (j := 1) rfl; have y2 := Blk.cell hS (j := 2) rfl; have y3 := Blk.cell hS (j := 3) rfl; have y4 := Blk.cell hS (j := 4) rfl; have y5 := Blk.cell hS (j := 5) rfl; have y6 := Blk.cell hS (j := 6) rfl; have y7 := Blk.cell hS (j := 7) rfl; have y8 := Blk.cell hS (j := 8) rfl; have y9 := Blk.cell hS (j := 9) rfl; have y10 := Blk.cell hS (j := 10) rfl; have y11 := Blk.cell hS (j := 11) rfl; have y12 := Blk.cell hS (j := 12) rfl; have y13 := Blk.cell hS (j := 13) rfl
    replace hT := hT.below hd0
    clear z0 z1 z2 z3 z4 z5 z6 z7 z8 z9 z10 z11 z12 z13
    have z0 := Blk.cell hT (j := 0) rfl; have z1 := Blk.cell hT (j := 1) rfl; have z2 := Blk.cell hT (j := 2) rfl; have z3 := Blk.cell hT (j := 3) rfl; have z4 := Blk.cell hT (j := 4) rfl; have z5 := Blk.cell hT (j := 5) rfl; have z6 := Blk.cell hT (j := 6) rfl; have z7 := Blk.cell hT (j := 7) rfl; have z8 := Blk.cell hT (j := 8) rfl; have z9 := Blk.cell hT (j := 9) rfl; have z10 := Blk.cell hT (j := 10) rfl; have z11 := Blk.cell hT (j := 11) rfl; have z12 := Blk.cell hT (j := 12) rfl; have z13 := Blk.cell hT (j := 13) rfl
    go_wp2_with fail
    go_fit (HO.out v0 he0)
    rw [Hc6.out]
    rintro xx v1 ⟨rfl, hd1⟩
    have he1 := he0.trans (hd1.mono he0.size)
    replace hS := hS.below hd1
    clear y0 y1 y2 y3 y4 y5 y6 y7 y8 y9 y10 y11 y12 y13
    have y0 := Blk.cell hS (j := 0) rfl; have y1 := Blk.cell hS (j := 1) rfl; have y2 := Blk.cell hS (j := 2) rfl; have y3 := Blk.cell hS (j := 3) rfl; have y4 := Blk.cell hS (j := 4) rfl; have y5 := Blk.cell hS (j := 5) rfl; have y6 := Blk.cell hS (j := 6) rfl; have y7 := Blk.cell hS (j := 7) rfl; have y8 := Blk.cell hS (j := 8) rfl; have y9 := Blk.cell hS (j := 9) rfl; have y10 := Blk.cell hS (j := 10) rfl; have y11 := Blk.cell hS (j := 11) rfl; have y12 := Blk.cell hS (j := 12) rfl; have y13 := Blk.cell hS (j := 13) rfl
    replace hT := hT.below hd1
    clear z0 z1 z2 z3 z4 z5 z6 z7 z8 z9 z10 z11 z12 z13
    have z0 := Blk.cell hT (j := 0) rfl; have z1 := Blk.cell hT (j := 1) rfl; have z2 := Blk.cell hT (j := 2) rfl; have z3 := Blk.cell hT (j := 3) rfl; have z4 := Blk.cell hT (j := 4) rfl; have z5 := Blk.cell hT (j := 5) rfl; have z6 := Blk.cell hT (j := 6) rfl; have z7 := Blk.cell hT (j := 7) rfl; have z8 := Blk.cell hT (j := 8) rfl; have z9 := Blk.cell hT (j := 9) rfl; have z10 := Blk.cell hT (j := 10) rfl; have z11 := Blk.cell hT (j := 11) rfl; have z12 := Blk.cell hT (j := 12) rfl; have z13 := Blk.cell hT (j := 13) rfl
    go_wp2_with fail
    go_fit (HN.out v1 he1)
    rw [Hc7.out]
    rintro xx v2 ⟨rfl, hd2⟩
    have he2 := he1.trans (hd2.mono he1.size)
    replace hS := hS.below hd2
    clear y0 y1 y2 y3 y4 y5 y6 y7 y8 y9 y10 y11 y12 y13
    have y0 := Blk.cell hS (j := 0) rfl; have y1 := Blk.cell hS (j := 1) rfl; have y2 := Blk.cell hS (j := 2) rfl; have y3 := Blk.cell hS (j := 3) rfl; have y4 := Blk.cell hS (j := 4) rfl; have y5 := Blk.cell hS (j := 5) rfl; have y6 := Blk.cell hS (j := 6) rfl; have y7 := Blk.cell hS (j := 7) rfl; have y8 := Blk.cell hS (j := 8) rfl; have y9 := Blk.cell hS (j := 9) rfl; have y10 := Blk.cell hS (j := 10) rfl; have y11 := Blk.cell hS (j := 11) rfl; have y12 := Blk.cell hS (j := 12) rfl; have y13 := Blk.cell hS (j := 13) rfl
    replace hT := hT.below hd2
    clear z0 z1 z2 z3 z4 z5 z6 z7 z8 z9 z10 z11 z12 z13
    have z0 := Blk.cell hT (j := 0) rfl; have z1 := Blk.cell hT (j := 1) rfl; have z2 := Blk.cell hT (j := 2) rfl; have z3 := Blk.cell hT (j := 3) rfl; have z4 := Blk.cell hT (j := 4) rfl; have z5 := Blk.cell hT (j := 5) rfl; have z6 := Blk.cell hT (j := 6) rfl; have z7 := Blk.cell hT (j := 7) rfl; have z8 := Blk.cell hT (j := 8) rfl; have z9 := Blk.cell hT (j := 9) rfl; have z10 := Blk.cell hT (j := 10) rfl; have z11 := Blk.cell hT (j := 11) rfl; have z12 := Blk.cell hT (j := 12) rfl; have z13 := Blk.cell hT (j := 13) rfl
    go_wp2
    go_ret
    exact ⟨by rw [HR.out]; rfl, by first | exact he2 | (rw [Hw0.out]; exact he2)⟩

  have Hc7 := hide c7
  clear c7
  rcases bool_two (aQuiet == bQuiet) with c8 | c8
  rotate_left
  · have Hc8 := hide c8
    have HR := hide (show eqPr (aID, (aGroupEpoch, aGroupMembers), aView, aSerial, aBusy, (aOpKind, aOpAt, aOpN, aOpData, aOpOld), (aNextEpoch, aNextMembers), aQuiet) (bID, (bGroupEpoch, bGroupMembers), bView, bSerial, bBusy, (bOpKind, bOpAt, bOpN, bOpData, bOpOld), (bNextEpoch, bNextMembers), bQuiet) = false by rw [HQ.out]; simp only [Hc1.out, Hc2.out, Hc3.out, Hc4.out, Hc5.out, Hc6.out, Hc7.out, Hc8.out, Bool.true_and, Bool.false_and, Bool.and_false])
    skip
    go_enter Try.func15, Try.ntmps15
    go_wp2_with fail
    try rw [Hw0.out]
    go_fit (HG.out w0 hb0)
    rw [Hc2.out]
    rintro xx v0 ⟨rfl, hd0⟩
    have he0 := hb0.trans (hd0.mono hb0.size)
    replace hS := hS.below hd0
    clear y0 y1 y2 y3 y4 y5 y6 y7 y8 y9 y10 y11 y12 y13
    have y0 := Blk.cell hS (j := 0) rfl; have y1 := Blk.cell hS (j := 1) rfl; have y2 := Blk.cell hS (j := 2) rfl; have y3 := Blk.cell hS (j := 3) rfl; have y4 := Blk.cell hS (j := 4) rfl; have y5 := Blk.cell hS (j := 5) rfl; have y6 := Blk.cell hS (j := 6) rfl; have y7 := Blk.cell hS (j := 7) rfl; have y8 := Blk.cell hS (j := 8) rfl; have y9 := Blk.cell hS (j := 9) rfl; have y10 := Blk.cell hS (j := 10) rfl; have y11 := Blk.cell hS (j := 11) rfl; have y12 := Blk.cell hS (j := 12) rfl; have y13 := Blk.cell hS (j := 13) rfl
    replace hT := hT.below hd0
    clear z0 z1 z2 z3 z4 z5 z6 z7 z8 z9 z10 z11 z12 z13
    have z0 := Blk.cell hT (j := 0) rfl; have z1 := Blk.cell hT (j := 1) rfl; have z2 := Blk.cell hT (j := 2) rfl; have z3 := Blk.cell hT (j := 3) rfl; have z4 := Blk.cell hT (j := 4) rfl; have z5 := Blk.cell hT (j := 5) rfl; have z6 := Blk.cell hT (j := 6) rfl; have z7 := Blk.cell hT (j := 7) rfl; have z8 := Blk.cell hT (j := 8) rfl; have z9 := Blk.cell hT (j := 9) rfl; have z10 := Blk.cell hT (j := 10) rfl; have z11 := Blk.cell hT (j := 11) rfl; have z12 := Blk.cell hT (j := 12) rfl; have z13 := Blk.cell hT (j := 13) rfl
    go_wp2_with fail
    go_fit (HO.out v0 he0)
    rw [Hc6.out]
    rintro xx v1 ⟨rfl, hd1⟩
    have he1 := he0.trans (hd1.mono he0.size)
    replace hS := hS.below hd1
    clear y0 y1 y2 y3 y4 y5 y6 y7 y8 y9 y10 y11 y12 y13
    have y0 := Blk.cell hS (j := 0) rfl; have y1 := Blk.cell hS (j := 1) rfl; have y2 := Blk.cell hS (j := 2) rfl; have y3 := Blk.cell hS (j := 3) rfl; have y4 := Blk.cell hS (j := 4) rfl; have y5 := Blk.cell hS (j := 5) rfl; have y6 := Blk.cell hS (j := 6) rfl; have y7 := Blk.cell hS (j := 7) rfl; have y8 := Blk.cell hS (j := 8) rfl; have y9 := Blk.cell hS (j := 9) rfl; have y10 := Blk.cell hS (j := 10) rfl; have y11 := Blk.cell hS (j := 11) rfl; have y12 := Blk.cell hS (j := 12) rfl; have y13 := Blk.cell hS (j := 13) rfl
    replace hT := hT.below hd1
    clear z0 z1 z2 z3 z4 z5 z6 z7 z8 z9 z10 z11 z12 z13
    have z0 := Blk.cell hT (j := 0) rfl; have z1 := Blk.cell hT (j := 1) rfl; have z2 := Blk.cell hT (j := 2) rfl; have z3 := Blk.cell hT (j := 3) rfl; have z4 := Blk.cell hT (j := 4) rfl; have z5 := Blk.cell hT (j := 5) rfl; have z6 := Blk.cell hT (j := 6) rfl; have z7 := Blk.cell hT (j := 7) rfl; have z8 := Blk.cell hT (j := 8) rfl; have z9 := Blk.cell hT (j := 9) rfl; have z10 := Blk.cell hT (j := 10) rfl; have z11 := Blk.cell hT (j := 11) rfl; have z12 := Blk.cell hT (j := 12) rfl; have z13 := Blk.cell hT (j := 13) rfl
    go_wp2_with fail
    go_fit (HN.out v1 he1)
    rw [Hc7.out]
    rintro xx v2 ⟨rfl, hd2⟩
    have he2 := he1.trans (hd2.mono he1.size)
    replace hS := hS.below hd2
    clear y0 y1 y2 y3 y4 y5 y6 y7 y8 y9 y10 y11 y12 y13
    have y0 := Blk.cell hS (j := 0) rfl; have y1 := Blk.cell hS (j := 1) rfl; have y2 := Blk.cell hS (j := 2) rfl; have y3 := Blk.cell hS (j := 3) rfl; have y4 := Blk.cell hS (j := 4) rfl; have y5 := Blk.cell hS (j := 5) rfl; have y6 := Blk.cell hS (j := 6) rfl; have y7 := Blk.cell hS (j := 7) rfl; have y8 := Blk.cell hS (j := 8) rfl; have y9 := Blk.cell hS (j := 9) rfl; have y10 := Blk.cell hS (j := 10) rfl; have y11 := Blk.cell hS (j := 11) rfl; have y12 := Blk.cell hS (j := 12) rfl; have y13 := Blk.cell hS (j := 13) rfl
    replace hT := hT.below hd2
    clear z0 z1 z2 z3 z4 z5 z6 z7 z8 z9 z10 z11 z12 z13
    have z0 := Blk.cell hT (j := 0) rfl; have z1 := Blk.cell hT (j := 1) rfl; have z2 := Blk.cell hT (j := 2) rfl; have z3 := Blk.cell hT (j := 3) rfl; have z4 := Blk.cell hT (j := 4) rfl; have z5 := Blk.cell hT (j := 5) rfl; have z6 := Blk.cell hT (j := 6) rfl; have z7 := Blk.cell hT (j := 7) rfl; have z8 := Blk.cell hT (j := 8) rfl; have z9 := Blk.cell hT (j := 9) rfl; have z10 := Blk.cell hT (j := 10) rfl; have z11 := Blk.cell hT (j := 11) rfl; have z12 := Blk.cell hT (j := 12) rfl; have z13 := Blk.cell hT (j := 13) rfl
    go_wp2
    go_ret
    exact ⟨by rw [HR.out]; rfl, by first | exact he2 | (rw [Hw0.out]; exact he2)⟩

  have Hc8 := hide c8
  skip
  have HR := hide (show eqPr (aID, (aGroupEpoch, aGroupMembers), aView, aSerial, aBusy, (aOpKind, aOpAt, aOpN, aOpData, aOpOld), (aNextEpoch, aNextMembers), aQuiet) (bID, (bGroupEpoch, bGroupMembers), bView, bSerial, bBusy, (bOpKind, bOpAt, bOpN, bOpData, bOpOld), (bNextEpoch, bNextMembers), bQuiet) = true by rw [HQ.out]; simp only [Hc1.out, Hc2.out, Hc3.out, Hc4.out, Hc5.out, Hc6.out, Hc7.out, Hc8.out, Bool.true_and, Bool.and_true])
  go_enter Try.func15, Try.ntmps15
  go_wp2_with fail
  try rw [Hw0.out]
  go_fit (HG.out w0 hb0)
  rw [Hc2.out]
  rintro xx v0 ⟨rfl, hd0⟩
  have he0 := hb0.trans (hd0.mono hb0.size)
  replace hS := hS.below hd0
  clear y0 y1 y2 y3 y4 y5 y6 y7 y8 y9 y10 y11 y12 y13
  have y0 := Blk.cell hS (j := 0) rfl; have y1 := Blk.cell hS (j := 1) rfl; have y2 := Blk.cell hS (j := 2) rfl; have y3 := Blk.cell hS (j := 3) rfl; have y4 := Blk.cell hS (j := 4) rfl; have y5 := Blk.cell hS (j := 5) rfl; have y6 := Blk.cell hS (j := 6) rfl; have y7 := Blk.cell hS (j := 7) rfl; have y8 := Blk.cell hS (j := 8) rfl; have y9 := Blk.cell hS (j := 9) rfl; have y10 := Blk.cell hS (j := 10) rfl; have y11 := Blk.cell hS (j := 11) rfl; have y12 := Blk.cell hS (j := 12) rfl; have y13 := Blk.cell hS (j := 13) rfl
  replace hT := hT.below hd0
  clear z0 z1 z2 z3 z4 z5 z6 z7 z8 z9 z10 z11 z12 z13
  have z0 := Blk.cell hT (j := 0) rfl; have z1 := Blk.cell hT (j := 1) rfl; have z2 := Blk.cell hT (j := 2) rfl; have z3 := Blk.cell hT (j := 3) rfl; have z4 := Blk.cell hT (j := 4) rfl; have z5 := Blk.cell hT (j := 5) rfl; have z6 := Blk.cell hT (j := 6) rfl; have z7 := Blk.cell hT (j := 7) rfl; have z8 := Blk.cell hT (j := 8) rfl; have z9 := Blk.cell hT (j := 9) rfl; have z10 := Blk.cell hT (j := 10) rfl; have z11 := Blk.cell hT (j := 11) rfl; have z12 := Blk.cell hT (j := 12) rfl; have z13 := Blk.cell hT (j := 13) rfl
  go_wp2_with fail
  go_fit (HO.out v0 he0)
  rw [Hc6.out]
  rintro xx v1 ⟨rfl, hd1⟩
  have he1 := he0.trans (hd1.mono he0.size)
  replace hS := hS.below hd1
  clear y0 y1 y2 y3 y4 y5 y6 y7 y8 y9 y10 y11 y12 y13
  have y0 := Blk.cell hS (j := 0) rfl; have y1 := Blk.cell hS (j := 1) rfl; have y2 := Blk.cell hS (j := 2) rfl; have y3 := Blk.cell hS (j := 3) rfl; have y4 := Blk.cell hS (j := 4) rfl; have y5 := Blk.cell hS (j := 5) rfl; have y6 := Blk.cell hS (j := 6) rfl; have y7 := Blk.cell hS (j := 7) rfl; have y8 := Blk.cell hS (j := 8) rfl; have y9 := Blk.cell hS (j := 9) rfl; have y10 := Blk.cell hS (j := 10) rfl; have y11 := Blk.cell hS (j := 11) rfl; have y12 := Blk.cell hS (j := 12) rfl; have y13 := Blk.cell hS (j := 13) rfl
  replace hT := hT.below hd1
  clear z0 z1 z2 z3 z4 z5 z6 z7 z8 z9 z10 z11 z12 z13
  have z0 := Blk.cell hT (j := 0) rfl; have z1 := Blk.cell hT (j := 1) rfl; have z2 := Blk.cell hT (j := 2) rfl; have z3 := Blk.cell hT (j := 3) rfl; have z4 := Blk.cell hT (j := 4) rfl; have z5 := Blk.cell hT (j := 5) rfl; have z6 := Blk.cell hT (j := 6) rfl; have z7 := Blk.cell hT (j := 7) rfl; have z8 := Blk.cell hT (j := 8) rfl; have z9 := Blk.cell hT (j := 9) rfl; have z10 := Blk.cell hT (j := 10) rfl; have z11 := Blk.cell hT (j := 11) rfl; have z12 := Blk.cell hT (j := 12) rfl; have z13 := Blk.cell hT (j := 13) rfl
  go_wp2_with fail
  go_fit (HN.out v1 he1)
  rw [Hc7.out]
  rintro xx v2 ⟨rfl, hd2⟩
  have he2 := he1.trans (hd2.mono he1.size)
  replace hS := hS.below hd2
  clear y0 y1 y2 y3 y4 y5 y6 y7 y8 y9 y10 y11 y12 y13
  have y0 := Blk.cell hS (j := 0) rfl; have y1 := Blk.cell hS (j := 1) rfl; have y2 := Blk.cell hS (j := 2) rfl; have y3 := Blk.cell hS (j := 3) rfl; have y4 := Blk.cell hS (j := 4) rfl; have y5 := Blk.cell hS (j := 5) rfl; have y6 := Blk.cell hS (j := 6) rfl; have y7 := Blk.cell hS (j := 7) rfl; have y8 := Blk.cell hS (j := 8) rfl; have y9 := Blk.cell hS (j := 9) rfl; have y10 := Blk.cell hS (j := 10) rfl; have y11 := Blk.cell hS (j := 11) rfl; have y12 := Blk.cell hS (j := 12) rfl; have y13 := Blk.cell hS (j := 13) rfl
  replace hT := hT.below hd2
  clear z0 z1 z2 z3 z4 z5 z6 z7 z8 z9 z10 z11 z12 z13
  have z0 := Blk.cell hT (j := 0) rfl; have z1 := Blk.cell hT (j := 1) rfl; have z2 := Blk.cell hT (j := 2) rfl; have z3 := Blk.cell hT (j := 3) rfl; have z4 := Blk.cell hT (j := 4) rfl; have z5 := Blk.cell hT (j := 5) rfl; have z6 := Blk.cell hT (j := 6) rfl; have z7 := Blk.cell hT (j := 7) rfl; have z8 := Blk.cell hT (j := 8) rfl; have z9 := Blk.cell hT (j := 9) rfl; have z10 := Blk.cell hT (j := 10) rfl; have z11 := Blk.cell hT (j := 11) rfl; have z12 := Blk.cell hT (j := 12) rfl; have z13 := Blk.cell hT (j := 13) rfl
  go_wp2
  go_ret
  exact ⟨by rw [HR.out]; rfl, he2⟩

end Go.Proofs.Ytlcbelmbonaooaa
