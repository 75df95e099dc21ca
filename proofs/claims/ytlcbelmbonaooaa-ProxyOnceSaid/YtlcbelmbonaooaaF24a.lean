/- Stage 24: what may be asked for (written by gen_24a.py). -/
import Derived.Test.YtlcbelmbonaooaaTyP
namespace Go.Proofs.Ytlcbelmbonaooaa
set_option maxRecDepth 20000
open Go.RowKit Go.Px Go.Maps
set_option linter.unusedVariables false
set_option linter.unusedSimpArgs false
/-- May an operation, or a group, be asked for? -/
def asksB (o : OpD) (g : GroupD) : Bool := ((fmE o.1 o.2.1 o.2.2.1 o.2.2.2.1.length o.2.2.2.2.length == 0) && ngB g.1 g.2.length) || (noB o.1 o.2.1 o.2.2.1 o.2.2.2.1 o.2.2.2.2 && grpOk g.1 g.2)
def restB (p : ProxyD) : Bool := if p.2.2.2.2.1 = true then decide (1 ≤ p.2.2.2.1) && asksB p.2.2.2.2.2.1 p.2.2.2.2.2.2.1 else noB p.2.2.2.2.2.1.1 p.2.2.2.2.2.1.2.1 p.2.2.2.2.2.1.2.2.1 p.2.2.2.2.2.1.2.2.2.1 p.2.2.2.2.2.1.2.2.2.2 && ngB p.2.2.2.2.2.2.1.1 p.2.2.2.2.2.2.1.2.length
/-- May a client be? -/
def prB (p : ProxyD) : Bool := serB p.1 && (grpOk p.2.1.1 p.2.1.2 && (numB p.2.2.1 && (numB p.2.2.2.1 && (numB p.2.2.2.2.2.2.2 && restB p))))
def prE (p : ProxyD) : Int := if prB p = true then 0 else 240
theorem prE_ok {p : ProxyD} (h : prB p = true) : prE p = 0 := if_pos h
theorem prE_no {p : ProxyD} (h : prB p = false) : prE p = 240 := if_neg (by rw [h]; decide)
set_option maxRecDepth 20000 in
set_option maxHeartbeats 6400000 in
theorem asks_any {w : World} {Q Q' : Nat → Prop} {x : OpD} {y : GroupD} {cs ds : List Value} (h : tyOp.Is w Q x cs) (h' : tyGroup.Is w Q' y ds) : Calls Try.prog 32 #[.agg cs.toArray, .agg ds.toArray] w fun e w' => e = .returned (.bool (asksB x y)) ∧ Below w.heap.size w w' := by
  obtain ⟨sKind, sAt, sN, sData, sDataA, sDatan, sDatac, sOld, sOldA, sOldn, sOldc, rfl, rfl, hu_sKind, h1_sAt, h2_sAt, h1_sN, h2_sN, hl_sData, hc_sData, hm_sData, hr_sData, hq_sData, hl_sOld, hc_sOld, hm_sOld, hr_sOld, hq_sOld⟩ := Op_out h
  obtain ⟨tEpoch, tMembers, tMembersA, tMembersn, tMembersc, tMembersv, rfl, rfl, h1_tEpoch, h2_tEpoch, hl_tMembers, hc_tMembers, hm_tMembers, hr_tMembers, hq_tMembers, he_tMembers⟩ := Group_out h'
  obtain ⟨hmi, _⟩ := i64rows he_tMembers
  subst hmi
  obtain ⟨g, hg⟩ : ∃ g, w.heap.size = g := ⟨_, rfl⟩
  obtain ⟨w0, hw0⟩ : ∃ x, (w.alloc (.cells #[.int .u8 sKind, .int .i64 sAt, .int .i64 sN, .slice sDataA sDatan sDatac, .slice sOldA sOldn sOldc] 28)).alloc (.cells #[.int .i64 tEpoch, .slice tMembersA tMembersn tMembersc] 24) = x := ⟨_, rfl⟩
  have hS : Blk w0 g [.int .u8 sKind, .int .i64 sAt, .int .i64 sN, .slice sDataA sDatan sDatac, .slice sOldA sOldn sOldc] 28 := by rw [← hw0, ← hg]; exact (Blk.new w [.int .u8 sKind, .int .i64 sAt, .int .i64 sN, .slice sDataA sDatan sDatac, .slice sOldA sOldn sOldc] _).alloc _
  have hT : Blk w0 (g + 1) [.int .i64 tEpoch, .slice tMembersA tMembersn tMembersc] 24 := by
    rw [← hw0, ← hg]
    have := Blk.new (w.alloc (.cells #[.int .u8 sKind, .int .i64 sAt, .int .i64 sN, .slice sDataA sDatan sDatac, .slice sOldA sOldn sOldc] 28)) [.int .i64 tEpoch, .slice tMembersA tMembersn tMembersc] 24
    rwa [World.size_alloc] at this
  have hb0 : Below w.heap.size w w0 := by rw [← hw0]; exact ((Below.refl _ _).alloc (Nat.le_refl _) _).alloc (by simp) _
  have HFo := hide (fun W => form_any sKind sAt sN sDataA sDatan sDatac sOldA sOldn sOldc W hu_sKind)
  have HNo := hide (fun W (hW : Below w.heap.size w W) => noOp_any sKind sAt sN sDataA sDatan sDatac sData sOldA sOldn sOldc sOld W hl_sData hl_sOld (hr_sData.below hW) (hr_sOld.below hW))
  have HGr := hide (fun W (hW : Below w.heap.size w W) => mgroup_any tEpoch tMembersA tMembersn tMembersc tMembers W hl_tMembers (hr_tMembers.below hW))
  obtain ⟨ff, hff⟩ : ∃ f, fmE sKind sAt sN sDatan sOldn = f := ⟨_, rfl⟩
  obtain ⟨g1, hg1⟩ : ∃ f, ngB tEpoch tMembersn = f := ⟨_, rfl⟩
  obtain ⟨n1, hn1⟩ : ∃ f, noB sKind sAt sN sData sOld = f := ⟨_, rfl⟩
  obtain ⟨k1, hk1⟩ : ∃ f, grpOk tEpoch tMembers = f := ⟨_, rfl⟩
  have HV := hide (show asksB (sKind, sAt, sN, sData, sOld) (tEpoch, tMembers) = (((ff == 0) && g1) || (n1 && k1)) by
    rw [← hff, ← hg1, ← hn1, ← hk1, ← hl_sData, ← hl_sOld, ← hl_tMembers]; rfl)
  have Hf := hide hff
  have Hng := hide hg1
  have Hno := hide hn1
  have Hgr := hide hk1
  clear hl_sData hr_sData hq_sData hl_sOld hr_sOld hq_sOld
  clear hl_tMembers hr_tMembers hq_tMembers he_tMembers
  clear hff hg1 hn1 hk1
  have Hw0 := hide hw0
  have Hg := hide hg
  clear hw0
  have y0 := Blk.cell hS (j := 0) rfl; have y1 := Blk.cell hS (j := 1) rfl; have y2 := Blk.cell hS (j := 2) rfl; have y3 := Blk.cell hS (j := 3) rfl; have y4 := Blk.cell hS (j := 4) rfl
  have z0 := Blk.cell hT (j := 0) rfl; have z1 := Blk.cell hT (j := 1) rfl
  rcases bool_two (ff == 0) with q | q
  · cases g1 with
    | true =>
      have HR := hide (show asksB (sKind, sAt, sN, sData, sOld) (tEpoch, tMembers) = true by rw [HV.out]; simp only [q, Bool.true_and, Bool.false_and, Bool.true_or, Bool.false_or, Bool.or_false, Bool.and_false, Bool.and_true])
      go_enter Try.func32, Try.ntmps32
      go_wp2_with fail
      try rw [Hw0.out]
      go_fit (HFo.out w0)
      rw [Hf.out]
      rintro xx v0 ⟨rfl, hd0⟩
      have he0 := hb0.trans (hd0.mono hb0.size)
      replace hS := hS.below hd0
      clear y0 y1 y2 y3 y4
      have y0 := Blk.cell hS (j := 0) rfl; have y1 := Blk.cell hS (j := 1) rfl; have y2 := Blk.cell hS (j := 2) rfl; have y3 := Blk.cell hS (j := 3) rfl; have y4 := Blk.cell hS (j := 4) rfl
      replace hT := hT.below hd0
      clear z0 z1
      have z0 := Blk.cell hT (j := 0) rfl; have z1 := Blk.cell hT (j := 1) rfl
      go_wp2_with fail
      go_fit (noGroup_any tEpoch tMembersA tMembersn tMembersc v0)
      rw [Hng.out]
      rintro xx v1 ⟨rfl, hd1⟩
      have he1 := he0.trans (hd1.mono he0.size)
      replace hS := hS.below hd1
      clear y0 y1 y2 y3 y4
      have y0 := Blk.cell hS (j := 0) rfl; have y1 := Blk.cell hS (j := 1) rfl; have y2 := Blk.cell hS (j := 2) rfl; have y3 := Blk.cell hS (j := 3) rfl; have y4 := Blk.cell hS (j := 4) rfl
      replace hT := hT.below hd1
      clear z0 z1
      have z0 := Blk.cell hT (j := 0) rfl; have z1 := Blk.cell hT (j := 1) rfl
      go_wp2
      go_ret
      exact ⟨by rw [HR.out]; rfl, he1⟩

    | false =>
      cases n1 with
      | true =>
        have HR := hide (show asksB (sKind, sAt, sN, sData, sOld) (tEpoch, tMembers) = k1 by rw [HV.out]; simp only [q, Bool.true_and, Bool.false_and, Bool.true_or, Bool.false_or, Bool.or_false, Bool.and_false, Bool.and_true])
        go_enter Try.func32, Try.ntmps32
        go_wp2_with fail
        try rw [Hw0.out]
        go_fit (HFo.out w0)
        rw [Hf.out]
        rintro xx v0 ⟨rfl, hd0⟩
        have he0 := hb0.trans (hd0.mono hb0.size)
        replace hS := hS.below hd0
        clear y0 y1 y2 y3 y4
        have y0 := Blk.cell hS (j := 0) rfl; have y1 := Blk.cell hS (j := 1) rfl; have y2 := Blk.cell hS (j := 2) rfl; have y3 := Blk.cell hS (j := 3) rfl; have y4 := Blk.cell hS (j := 4) rfl
        replace hT := hT.below hd0
        clear z0 z1
        have z0 := Blk.cell hT (j := 0) rfl; have z1 := Blk.cell hT (j := 1) rfl
        go_wp2_with fail
        go_fit (noGroup_any tEpoch tMembersA tMembersn tMembersc v0)
        rw [Hng.out]
        rintro xx v1 ⟨rfl, hd1⟩
        have he1 := he0.trans (hd1.mono he0.size)
        replace hS := hS.below hd1
        clear y0 y1 y2 y3 y4
        have y0 := Blk.cell hS (j := 0) rfl; have y1 := Blk.cell hS (j := 1) rfl; have y2 := Blk.cell hS (j := 2) rfl; have y3 := Blk.cell hS (j := 3) rfl; have y4 := Blk.cell hS (j := 4) rfl
        replace hT := hT.below hd1
        clear z0 z1
        have z0 := Blk.cell hT (j := 0) rfl; have z1 := Blk.cell hT (j := 1) rfl
        go_wp2_with fail
        go_fit (HNo.out v1 he1)
        rw [Hno.out]
        rintro xx v2 ⟨rfl, hd2⟩
        have he2 := he1.trans (hd2.mono he1.size)
        replace hS := hS.below hd2
        clear y0 y1 y2 y3 y4
        have y0 := Blk.cell hS (j := 0) rfl; have y1 := Blk.cell hS (j := 1) rfl; have y2 := Blk.cell hS (j := 2) rfl; have y3 := Blk.cell hS (j := 3) rfl; have y4 := Blk.cell hS (j := 4) rfl
        replace hT := hT.below hd2
        clear z0 z1
        have z0 := Blk.cell hT (j := 0) rfl; have z1 := Blk.cell hT (j := 1) rfl
        go_wp2_with fail
        go_fit (HGr.out v2 he2)
        rw [Hgr.out]
        rintro xx v3 ⟨rfl, hd3⟩
        have he3 := he2.trans (hd3.mono he2.size)
        replace hS := hS.below hd3
        clear y0 y1 y2 y3 y4
        have y0 := Blk.cell hS (j := 0) rfl; have y1 := Blk.cell hS (j := 1) rfl; have y2 := Blk.cell hS (j := 2) rfl; have y3 := Blk.cell hS (j := 3) rfl; have y4 := Blk.cell hS (j := 4) rfl
        replace hT := hT.below hd3
        clear z0 z1
        have z0 := Blk.cell hT (j := 0) rfl; have z1 := Blk.cell hT (j := 1) rfl
        go_wp2
        go_ret
        exact ⟨by rw [HR.out]; rfl, he3⟩

      | false =>
        have HR := hide (show asksB (sKind, sAt, sN, sData, sOld) (tEpoch, tMembers) = false by rw [HV.out]; simp only [q, Bool.true_and, Bool.false_and, Bool.true_or, Bool.false_or, Bool.or_false, Bool.and_false, Bool.and_true])
        go_enter Try.func32, Try.ntmps32
        go_wp2_with fail
        try rw [Hw0.out]
        go_fit (HFo.out w0)
        rw [Hf.out]
        rintro xx v0 ⟨rfl, hd0⟩
        have he0 := hb0.trans (hd0.mono hb0.size)
        replace hS := hS.below hd0
        clear y0 y1 y2 y3 y4
        have y0 := Blk.cell hS (j := 0) rfl; have y1 := Blk.cell hS (j := 1) rfl; have y2 := Blk.cell hS (j := 2) rfl; have y3 := Blk.cell hS (j := 3) rfl; have y4 := Blk.cell hS (j := 4) rfl
        replace hT := hT.below hd0
        clear z0 z1
        have z0 := Blk.cell hT (j := 0) rfl; have z1 := Blk.cell hT (j := 1) rfl
        go_wp2_with fail
        go_fit (noGroup_any tEpoch tMembersA tMembersn tMembersc v0)
        rw [Hng.out]
        rintro xx v1 ⟨rfl, hd1⟩
        have he1 := he0.trans (hd1.mono he0.size)
        replace hS := hS.below hd1
        clear y0 y1 y2 y3 y4
        have y0 := Blk.cell hS (j := 0) rfl; have y1 := Blk.cell hS (j := 1) rfl; have y2 := Blk.cell hS (j := 2) rfl; have y3 := Blk.cell hS (j := 3) rfl; have y4 := Blk.cell hS (j := 4) rfl
        replace hT := hT.below hd1
        clear z0 z1
        have z0 := Blk.cell hT (j := 0) rfl; have z1 := Blk.cell hT (j := 1) rfl
        go_wp2_with fail
        go_fit (HNo.out v1 he1)
        rw [Hno.out]
        rintro xx v2 ⟨rfl, hd2⟩
        have he2 := he1.trans (hd2.mono he1.size)
        replace hS := hS.below hd2
        clear y0 y1 y2 y3 y4
        have y0 := Blk.cell hS (j := 0) rfl; have y1 := Blk.cell hS (j := 1) rfl; have y2 := Blk.cell hS (j := 2) rfl; have y3 := Blk.cell hS (j := 3) rfl; have y4 := Blk.cell hS (j := 4) rfl
        replace hT := hT.below hd2
        clear z0 z1
        have z0 := Blk.cell hT (j := 0) rfl; have z1 := Blk.cell hT (j := 1) rfl
        go_wp2
        go_ret
        exact ⟨by rw [HR.out]; rfl, he2⟩

  · cases n1 with
    | true =>
      have HR := hide (show asksB (sKind, sAt, sN, sData, sOld) (tEpoch, tMembers) = k1 by rw [HV.out]; simp only [q, Bool.true_and, Bool.false_and, Bool.true_or, Bool.false_or, Bool.or_false, Bool.and_false, Bool.and_true])
      go_enter Try.func32, Try.ntmps32
      go_wp2_with fail
      try rw [Hw0.out]
      go_fit (HFo.out w0)
      rw [Hf.out]
      rintro xx v0 ⟨rfl, hd0⟩
      have he0 := hb0.trans (hd0.mono hb0.size)
      replace hS := hS.below hd0
      clear y0 y1 y2 y3 y4
      have y0 := Blk.cell hS (j := 0) rfl; have y1 := Blk.cell hS (j := 1) rfl; have y2 := Blk.cell hS (j := 2) rfl; have y3 := Blk.cell hS (j := 3) rfl; have y4 := Blk.cell hS (j := 4) rfl
      replace hT := hT.below hd0
      clear z0 z1
      have z0 := Blk.cell hT (j := 0) rfl; have z1 := Blk.cell hT (j := 1) rfl
      go_wp2_with fail
      go_fit (HNo.out v0 he0)
      rw [Hno.out]
      rintro xx v1 ⟨rfl, hd1⟩
      have he1 := he0.trans (hd1.mono he0.size)
      replace hS := hS.below hd1
      clear y0 y1 y2 y3 y4
      have y0 := Blk.cell hS (j := 0) rfl; have y1 := Blk.cell hS (j := 1) rfl; have y2 := Blk.cell hS (j := 2) rfl; have y3 := Blk.cell hS (j := 3) rfl; have y4 := Blk.cell hS (j := 4) rfl
      replace hT := hT.below hd1
      clear z0 z1
      have z0 := Blk.cell hT (j := 0) rfl; have z1 := Blk.cell hT (j := 1) rfl
      go_wp2_with fail
      go_fit (HGr.out v1 he1)
      rw [Hgr.out]
      rintro xx v2 ⟨rfl, hd2⟩
      have he2 := he1.trans (hd2.mono he1.size)
      replace hS := hS.below hd2
      clear y0 y1 y2 y3 y4
      have y0 := Blk.cell hS (j := 0) rfl; have y1 := Blk.cell hS (j := 1) rfl; have y2 := Blk.cell hS (j := 2) rfl; have y3 := Blk.cell hS (j := 3) rfl; have y4 := Blk.cell hS (j := 4) rfl
      replace hT := hT.below hd2
      clear z0 z1
      have z0 := Blk.cell hT (j := 0) rfl; have z1 := Blk.cell hT (j := 1) rfl
      go_wp2
      go_ret
      exact ⟨by rw [HR.out]; rfl, he2⟩

    | false =>
      have HR := hide (show asksB (sKind, sAt, sN, sData, sOld) (tEpoch, tMembers) = false by rw [HV.out]; simp only [q, Bool.true_and, Bool.false_and, Bool.true_or, Bool.false_or, Bool.or_false, Bool.and_false, Bool.and_true])
      go_enter Try.func32, Try.ntmps32
      go_wp2_with fail
      try rw [Hw0.out]
      go_fit (HFo.out w0)
      rw [Hf.out]
      rintro xx v0 ⟨rfl, hd0⟩
      have he0 := hb0.trans (hd0.mono hb0.size)
      replace hS := hS.below hd0
      clear y0 y1 y2 y3 y4
      have y0 := Blk.cell hS (j := 0) rfl; have y1 := Blk.cell hS (j := 1) rfl; have y2 := Blk.cell hS (j := 2) rfl; have y3 := Blk.cell hS (j := 3) rfl; have y4 := Blk.cell hS (j := 4) rfl
      replace hT := hT.below hd0
      clear z0 z1
      have z0 := Blk.cell hT (j := 0) rfl; have z1 := Blk.cell hT (j := 1) rfl
      go_wp2_with fail
      go_fit (HNo.out v0 he0)
      rw [Hno.out]
      rintro xx v1 ⟨rfl, hd1⟩
      have he1 := he0.trans (hd1.mono he0.size)
      replace hS := hS.below hd1
      clear y0 y1 y2 y3 y4
      have y0 := Blk.cell hS (j := 0) rfl; have y1 := Blk.cell hS (j := 1) rfl; have y2 := Blk.cell hS (j := 2) rfl; have y3 := Blk.cell hS (j := 3) rfl; have y4 := Blk.cell hS (j := 4) rfl
      replace hT := hT.below hd1
      clear z0 z1
      have z0 := Blk.cell hT (j := 0) rfl; have z1 := Blk.cell hT (j := 1) rfl
      go_wp2
      go_ret
      exact ⟨by rw [HR.out]; rfl, he1⟩

end Go.Proofs.Ytlcbelmbonaooaa
