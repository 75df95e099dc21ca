/- Texts joined (shake.py). -/
import Derived.IntWalk
import Derived.Test.YtoaodmidegkolaaGreatDoorK91
import Derived.Test.YtoaodmidegkolaaGreatDoorK92
namespace Go.Proofs.YtoaodmidegkolaaGreatDoor
set_option maxRecDepth 20000
open Go.RowKit Go.Px
set_option linter.unusedVariables false

set_option maxHeartbeats 1000000 in
theorem rread_any (A : Option Addr) (m c : Nat) (bs : List UInt8) (i : Int) (w : World) (hm : bs.length = m) (hm8 : m ≤ 140737488355328) (hmc : m ≤ c) (hc : c ≤ 9223372036854775807) (hr : Rd w A (bys bs)) (hi : -9223372036854775808 ≤ i) (hi2 : i ≤ 9223372036854775807) :
    Calls Tryz.prog 78 #[.slice A m c, .int .i64 i] w fun e w' => ∃ v, e = .returned (.tuple #[.agg #[.int .u8 (rdK bs i), .int .u64 (rdS bs i), v], .int .i64 (rdN bs i), .int .i64 (rdE bs i)]) ∧
      w'.ownsRow w.heap.size 5 1 v (rdB bs i).length (bys (rdB bs i)) ∧ Below w.heap.size w w' := by
  have Hm := hide hm
  by_cases h0 : 0 ≤ i ∧ i ≤ m
  · obtain ⟨h1, h2⟩ := h0
    obtain ⟨k, rfl⟩ := Int.eq_ofNat_of_zero_le h1
    have hk : k ≤ m := by omega
    have hx : rdE bs (k : Int) = frE (bs.drop k) := by unfold rdE; rw [if_pos (by omega)]; rfl
    have hxl : (bs.drop k).length = m - k := by rw [List.length_drop, hm]
    have hxr : Rd w (cutA A c k 1) (bys (bs.drop k)) := by rw [bys_drop]; exact hr.cutA (n := m) (k := k) (by rw [bys_length, hm]; exact Nat.le_refl _) hk hmc
    obtain ⟨x, hxx⟩ : ∃ x, bs.drop k = x := ⟨_, rfl⟩
    rw [hxx] at hx hxl hxr
    have Hx := hide hx
    have Hxl := hide hxl
    have Hxx := hide hxx
    have hfr : ∀ z, lenE x = z → z ≠ 0 → rdE bs (k : Int) = z := fun z h hz => by rw [hx]; unfold frE; rw [if_pos (by rw [h]; exact hz)]; exact h
    clear hm hx hxl hxx
    by_cases h16 : m - k < 16
    · have hE : rdE bs (k : Int) = 10 := hfr 10 (by unfold lenE; rw [if_pos (by rw [Hxl.out]; omega)]) (by decide)
      have HE := hide hE
      have HB := hide (rd_bad hE (by decide))
      clear hE hfr
      go_enter Tryz.func78, Tryz.ntmps78
      go_wp2
      refine bodyPost_ret (results_cell3 rfl rfl (Blk.new w [.int .u8 0, .int .u64 0, .slice none 0 0] _) Tryz.underlying80 rfl (by kernel_rfl)) rfl ?_
      rw [HB.out.1, HB.out.2.1, HB.out.2.2.1, HB.out.2.2.2, HE.out]
      exact ⟨_, rfl, World.ownsRow_nil _ _ _ _, (Below.refl _ _).alloc (Nat.le_refl _) _⟩
    · have hg := get_body (x := x) (by rw [Hxl.out]; omega)
      have hxw := hxr.alloc (.cells #[.int .u8 0, .int .u64 0, .slice none 0 0] 80)
      obtain ⟨b, hb, hc0⟩ := hxw 0 _ (bys_get (show 0 < x.length by rw [Hxl.out]; omega))
      rw [show b.add 0 = b from rfl] at hc0
      rw [hb] at hxr hxw
      have hc1 := hxw.atS (k := 0) (bys_get (show 1 < x.length by rw [Hxl.out]; omega))
      have hc2 := hxw.atS (k := 1) (bys_get (show 2 < x.length by rw [Hxl.out]; omega))
      have hc3 := hxw.atS (k := 2) (bys_get (show 3 < x.length by rw [Hxl.out]; omega))
      rw [at_nat] at hc0 hc1 hc2 hc3
      have hE := lenE.eq_1 x
      rw [if_neg (by rw [Hxl.out]; omega)] at hE
      have hL := bodyN_lt x
      obtain ⟨x0, h0⟩ : ∃ y, (x.getD 0 0).toNat = y := ⟨_, rfl⟩
      obtain ⟨x1, h1⟩ : ∃ y, (x.getD 1 0).toNat = y := ⟨_, rfl⟩
      obtain ⟨x2, h2⟩ : ∃ y, (x.getD 2 0).toNat = y := ⟨_, rfl⟩
      obtain ⟨x3, h3⟩ : ∃ y, (x.getD 3 0).toNat = y := ⟨_, rfl⟩
      obtain ⟨L, hLL⟩ : ∃ y, bodyN x = y := ⟨_, rfl⟩
      rw [h0, h1, h3, hLL, Hxl.out] at hE
      rw [h0] at hc0
      rw [h1] at hc1
      rw [h2] at hc2
      rw [h3] at hc3
      rw [hLL] at hL hg
      have HE := hide hE
      have HL := hide hLL
      have Hg1 := hide hg.1
      have Hg2 := hide hg.2
      have H2 := hide h2
      have HI := hide (show getI x 12 4 = 16 by unfold getI; rw [if_pos hg.1]; rfl)
      clear hE hg h0 h1 h2 h3 hLL
      have bad : (x0 ≠ 80 ∨ x1 ≠ 76 ∨ x3 ≠ 0 ∨ 16777216 < L) → Hid (rdE bs (k : Int) = 30) := fun h => hide (hfr 30 (by rw [HE.out, if_pos h]) (by decide))
      have good : (x0 = 80 ∧ x1 = 76 ∧ x3 = 0 ∧ L ≤ 16777216) → m - k < L + 20 → Hid (rdE bs (k : Int) = 10) := fun h h2 => hide (hfr 10 (by rw [HE.out, if_neg (by omega), if_pos h2]) (by decide))
      have fine : (x0 = 80 ∧ x1 = 76 ∧ x3 = 0 ∧ L ≤ 16777216) → ¬ m - k < L + 20 → Hid (lenE x = 0) := fun h h2 => hide (by rw [HE.out, if_neg (by omega), if_neg h2])
      have Bad := hide bad
      have Good := hide good
      have Fine := hide fine
      clear bad good fine hfr
      have hcell : ∀ W, Below w.heap.size w W → W.cell? ⟨b.block, b.off + 2, none⟩ = some (.int .u8 (x2 : Int)) := fun W hW => by
        have := (hxr.below hW).atS (k := 1) (bys_get (show 2 < x.length by rw [Hxl.out]; omega))
        rw [at_nat] at this
        rwa [H2.out] at this
      have Hcell := hide hcell
      clear hcell
      have dW : Blk (w.alloc (.cells #[.int .u8 0, .int .u64 0, .slice none 0 0] 80)) w.heap.size [.int .u8 0, .int .u64 0, .slice none 0 0] 80 := Blk.new w [.int .u8 0, .int .u64 0, .slice none 0 0] _
      have bW : Below w.heap.size w (w.alloc (.cells #[.int .u8 0, .int .u64 0, .slice none 0 0] 80)) := (Below.refl _ _).alloc (Nat.le_refl _) _
      go_enter Tryz.func78, Tryz.ntmps78
      go_wp2_with fail
      refine (rget_any _ _ _ x 12 4 _ Hxl.out (by omega) (by omega) (hxr.alloc _) (by decide) (by decide)).mono ?_
      rw [Hg1.out, Hg2.out, HI.out]
      rintro e w1 ⟨rfl, rfl⟩
      rcases bool_two ((x0 : Int) != 80) with q0 | q0
      · have HB := Bad.out (.inl (by simp at q0; omega))
        have HR := hide (rd_bad HB.out (by decide))
        go_wp2
        refine bodyPost_ret (results_cell3 rfl rfl dW Tryz.underlying80 rfl (by kernel_rfl)) rfl ?_
        rw [HR.out.1, HR.out.2.1, HR.out.2.2.1, HR.out.2.2.2, HB.out]
        exact ⟨_, rfl, World.ownsRow_nil _ _ _ _, bW⟩
      rcases bool_two ((x1 : Int) != 76) with q1 | q1
      · have HB := Bad.out (.inr (.inl (by simp at q1; omega)))
        have HR := hide (rd_bad HB.out (by decide))
        go_wp2
        refine bodyPost_ret (results_cell3 rfl rfl dW Tryz.underlying80 rfl (by kernel_rfl)) rfl ?_
        rw [HR.out.1, HR.out.2.1, HR.out.2.2.1, HR.out.2.2.2, HB.out]
        exact ⟨_, rfl, World.ownsRow_nil _ _ _ _, bW⟩
      rcases bool_two ((x3 : Int) != 0) with q3 | q3
      · have HB := Bad.out (.inr (.inr (.inl (by simp at q3; omega))))
        have HR := hide (rd_bad HB.out (by decide))
        go_wp2
        refine bodyPost_ret (results_cell3 rfl rfl dW Tryz.underlying80 rfl (by kernel_rfl)) rfl ?_
        rw [HR.out.1, HR.out.2.1, HR.out.2.2.1, HR.out.2.2.2, HB.out]
        exact ⟨_, rfl, World.ownsRow_nil _ _ _ _, bW⟩
      by_cases hl : 16777216 < L
      · have HB := Bad.out (.inr (.inr (.inr hl)))
        have HR := hide (rd_bad HB.out (by decide))
        go_wp2
        refine bodyPost_ret (results_cell3 rfl rfl dW Tryz.underlying80 rfl (by kernel_rfl)) rfl ?_
        rw [HR.out.1, HR.out.2.1, HR.out.2.2.1, HR.out.2.2.2, HB.out]
        exact ⟨_, rfl, World.ownsRow_nil _ _ _ _, bW⟩
      have hall : x0 = 80 ∧ x1 = 76 ∧ x3 = 0 ∧ L ≤ 16777216 := by simp at q0 q1 q3; omega
      have hkI : (k : Int) ≤ m := by omega
      by_cases h2 : m - k < L + 20
      · have HB := Good.out hall h2
        have HR := hide (rd_bad HB.out (by decide))
        have h2' : (m : Int) - k < (L : Int) + 20 := by omega
        go_wp2
        refine bodyPost_ret (results_cell3 rfl rfl dW Tryz.underlying80 rfl (by kernel_rfl)) rfl ?_
        rw [HR.out.1, HR.out.2.1, HR.out.2.2.1, HR.out.2.2.2, HB.out]
        exact ⟨_, rfl, World.ownsRow_nil _ _ _ _, bW⟩
      · have HL0 := Fine.out hall h2
        have hnm : L + 20 ≤ m - k := by omega
        obtain ⟨y, hy⟩ : ∃ y, x.take (L + 20) = y := ⟨_, rfl⟩
        have hyl : y.length = L + 20 := by rw [← hy, List.length_take, Hxl.out]; omega
        have hyr : Rd w (some b) (bys y) := by rw [← hy, bys_take]; exact hxr.take _
        have e1 : y.drop (L + 20 - 4) = (x.drop (L + 16)).take 4 := by rw [← hy, List.drop_take, show L + 20 - 4 = L + 16 by omega, show L + 20 - (L + 16) = 4 by omega]
        have e2 : y.take (L + 20 - 4) = x.take (L + 16) := by rw [← hy, List.take_take, show min (L + 20 - 4) (L + 20) = L + 16 by omega]
        obtain ⟨oe, hoe⟩ : ∃ z, openE y = z := ⟨_, rfl⟩
        have hrd : rdE bs (k : Int) = if oe = 0 then 0 else 31 := by
          have u1 : frE x = if numN ((x.drop (L + 16)).take 4) ≠ moreN 0 (x.take (L + 16)) then 31 else 0 := by
            unfold frE; rw [if_neg (by rw [HL0.out]; simp), HL.out]
          have u2 : openE y = if numN ((x.drop (L + 16)).take 4) = moreN 0 (x.take (L + 16)) then 0 else 31 := by
            unfold openE; rw [if_neg (by rw [hyl]; omega), hyl, e1, e2]
          rw [Hx.out, ← hoe, u1, u2]
          by_cases h : numN ((x.drop (L + 16)).take 4) = moreN 0 (x.take (L + 16))
          · simp [h]
          · simp [h]
        have Hrd := hide hrd
        have Hoe := hide hoe
        have Hyl := hide hyl
        clear hrd hoe hyl hy e1 e2
        go_wp2_with fail
        refine (ropen_any _ (20 + L) _ y _ (Hyl.out.trans (Nat.add_comm _ _)) (by omega) (by omega) (by omega) (hyr.alloc _)).mono ?_
        rw [Hoe.out]
        rintro e w1 ⟨vo, rfl, ho1, hb1⟩
        have hb01 : Below w.heap.size w w1 := bW.trans (hb1.mono bW.size)
        have d1 := dW.below hb1
        have g0 := d1.cell (j := 0) rfl
        have g1 := d1.cell (j := 1) rfl
        have g2 := d1.cell (j := 2) rfl
        have z0 := d1.frozen 0
        have z1 := d1.frozen 1
        have z2 := d1.frozen 2
        by_cases ho : oe = 0
        · have hE0 : rdE bs (k : Int) = 0 := by rw [Hrd.out, if_pos ho]
          obtain ⟨q, hq⟩ : ∃ q, numN ((x.drop 4).take 8) = q := ⟨_, rfl⟩
          have hg1 : getE x 4 8 = 0 := by unfold getE; rw [if_pos (by decide), if_pos (by rw [Hxl.out]; omega), if_neg (by rw [Hxl.out]; omega)]
          have hv : getV x 4 8 = q := by unfold getV; rw [if_pos hg1, ← hq]; rfl
          have hi8 : getI x 4 8 = 12 := by unfold getI; rw [if_pos hg1]; rfl
          have hK : rdK bs (k : Int) = x2 := by unfold rdK; rw [if_pos hE0]; show ((bs.drop k).getD 2 0).toNat = _; rw [Hxx.out]; exact H2.out
          have hS : rdS bs (k : Int) = q := by unfold rdS; rw [if_pos hE0]; show numN (((bs.drop k).drop 4).take 8) = _; rw [Hxx.out]; exact hq
          have hBd : rdB bs (k : Int) = (x.drop 16).take L := by
            unfold rdB; rw [if_pos hE0]
            show ((bs.drop k).drop 16).take (bodyN (bs.drop k)) = _
            rw [Hxx.out, HL.out]
          have hN : rdN bs (k : Int) = (k : Int) + 20 + L := by unfold rdN; rw [if_pos hE0]; show (k : Int) + ((bodyN (bs.drop k) + 20 : Nat) : Int) = _; rw [Hxx.out, HL.out]; omega
          have Hbl := hide (show ((x.drop 16).take L).length = L by rw [List.length_take, List.length_drop, Hxl.out]; omega)
          have hbr : Rd w (cutA (some b) (c - k) 16 1) (bys ((x.drop 16).take L)) := by
            rw [bys_take, bys_drop]; exact (hxr.cutA (n := m - k) (k := 16) (by rw [bys_length, Hxl.out]; exact Nat.le_refl _) (by omega) (by omega)).take _
          have HK := hide hK
          have HS := hide hS
          have HBd := hide hBd
          have HN := hide hN
          have HE0 := hide hE0
          have Hv := hide hv
          have Hg := hide hg1
          have Hi8 := hide hi8
          subst ho
          clear hK hS hBd hN hE0 hv hg1 hi8 hq
          go_wp2_with fail
          refine (rget_any _ _ _ x 4 8 _ Hxl.out (by omega) (by omega) (hxr.below hb01) (by decide) (by decide)).mono ?_
          rw [Hg.out, Hv.out, Hi8.out]
          rintro e w2 ⟨rfl, rfl⟩
          go_wp2_with fail
          have e0 : w1.drew.cell? ⟨b.block, b.off + 2, none⟩ = some (.int .u8 (x2 : Int)) := Hcell.out _ hb01.drew
          have bA : Below w.heap.size w (w1.alloc (.cells #[] 5)).drew := (hb01.alloc hb01.size _).drew
          have ow : (w1.alloc (.cells #[] 5)).drew.ownsRow w1.heap.size 5 1 (.slice (some ⟨w1.heap.size, 0, none⟩) 0 0) 0 [] := (Grow.empty w1 5 1).drew.owns
          have ea : (w1.alloc (.cells #[] 5)).drew.cell? ⟨b.block, b.off + 2, none⟩ = some (.int .u8 (x2 : Int)) := Hcell.out _ bA
          have hbA := hbr.below bA
          have dA := (d1.alloc (.cells #[] 5)).drew
          have hgc : w.heap.size < w1.heap.size := d1.lt
          have h2m : (2 : Int) < ((m - k : Nat) : Int) := by omega
          have h3c : (16 : Int) + (L : Int) ≤ ((c - k : Nat) : Int) := by omega
          have h30 : (0 : Int) ≤ 16 + (L : Int) := by omega
          have h316 : (16 : Int) ≤ 16 + (L : Int) := by omega
          have h3n : ((16 : Int) + (L : Int)).toNat = 16 + L := by omega
          have h3m : max ((16 : Int) + (L : Int)) 0 = 16 + (L : Int) := by omega
          have hL0 : ((0 + L) * 1 ≤ 140737488355328) := by omega
          have hL1 : 0 + L ≤ 140737488355328 := by omega
          have u1 : IntKind.i64.wrap (L : Int) = (L : Int) := IntWalk.i64_in _ (by omega)
          have u2 : IntKind.i64.wrap ((16 : Int) + (L : Int)) = 16 + (L : Int) := IntWalk.i64_in _ (by omega)
          have u3 : IntKind.i64.wrap ((k : Int) + 20) = (k : Int) + 20 := IntWalk.i64_in _ (by omega)
          have u4 : IntKind.i64.wrap ((k : Int) + 20 + (L : Int)) = (k : Int) + 20 + (L : Int) := IntWalk.i64_in _ (by omega)
          go_region_law (refine step_own rfl rfl tBytes (by simp [Act.eval]) ow (by simp [Act.eval]; rfl) (by rw [bys_length, Hbl.out, Nat.mul_one]) hbA (bys_one _) hL0 hL1 (by simp) ?_; intro v' w' ho' hg' _; rw [Nat.zero_add, List.nil_append] at ho'; obtain ⟨A5, c5, rfl, hl5, hc5, hcm5, hr5, ha5⟩ := own_out ho'; have hb5 : Below w.heap.size w w' := bA.grown hg' (by simp; omega) (fun g hg => by simp [Value.ownBlock] at hg; omega); have e5 := Hcell.out _ hb5; have hgb := hg'.block w.heap.size (by simp; omega) (by simp [Value.ownBlock]; omega); have d5 : Blk w' w.heap.size _ _ := hgb.trans dA; have g0' := d5.cell (j := 0) rfl; have g1' := d5.cell (j := 1) rfl; have g2' := d5.cell (j := 2) rfl; have z0' := d5.frozen 0; have z1' := d5.frozen 1; have z2' := d5.frozen 2)
          all_goals
            clear u1 u2 u3 u4
            go_wp2_with fail
            refine bodyPost_ret (results_cell3 rfl rfl (((d5.set 0 _).set 1 _).set 2 _) Tryz.underlying80 rfl (by kernel_rfl)) rfl ?_
            rw [HK.out, HS.out, HBd.out, HN.out, HE0.out, Hbl.out]
            exact ⟨.slice A5 L c5, rfl, own_weak (ownsRow_setCell_below (ownsRow_setCell_below (ownsRow_setCell_below ho' hgc _) hgc _) hgc _) hb01.size,
              ((hb5.setCell (Nat.le_refl _) _).setCell (Nat.le_refl _) _).setCell (Nat.le_refl _) _⟩
        · have hE31 : rdE bs (k : Int) = 31 := by rw [Hrd.out, if_neg ho]
          have HE := hide hE31
          have HR := hide (rd_bad hE31 (by decide))
          have hoz : (oe != 0) = true := by simpa using ho
          clear hE31
          go_wp2
          refine bodyPost_ret (results_cell3 rfl rfl (((d1.set 0 _).set 1 _).set 2 _) Tryz.underlying80 rfl (by kernel_rfl)) rfl ?_
          rw [HR.out.1, HR.out.2.1, HR.out.2.2.1, HR.out.2.2.2, HE.out]
          exact ⟨_, rfl, World.ownsRow_nil _ _ _ _, ((hb01.setCell (Nat.le_refl _) _).setCell (Nat.le_refl _) _).setCell (Nat.le_refl _) _⟩
  · have hE : rdE bs i = 5 := by unfold rdE; rw [if_neg (by rw [hm]; exact h0)]
    have HE := hide hE
    have HB := hide (rd_bad hE (by decide))
    have hd : (decide (i < 0) || decide (i > (m : Int))) = true := by
      by_cases h : i < 0
      · simp [h]
      · have : (m : Int) < i := by omega
        simp [this]
    clear hE hm
    by_cases hneg : i < 0
    · go_enter Tryz.func78, Tryz.ntmps78
      go_wp2
      refine bodyPost_ret (results_cell3 rfl rfl (Blk.new w [.int .u8 0, .int .u64 0, .slice none 0 0] _) Tryz.underlying80 rfl (by kernel_rfl)) rfl ?_
      rw [HB.out.1, HB.out.2.1, HB.out.2.2.1, HB.out.2.2.2, HE.out]
      exact ⟨_, rfl, World.ownsRow_nil _ _ _ _, (Below.refl _ _).alloc (Nat.le_refl _) _⟩
    · have hgt : (m : Int) < i := by omega
      go_enter Tryz.func78, Tryz.ntmps78
      go_wp2
      refine bodyPost_ret (results_cell3 rfl rfl (Blk.new w [.int .u8 0, .int .u64 0, .slice none 0 0] _) Tryz.underlying80 rfl (by kernel_rfl)) rfl ?_
      rw [HB.out.1, HB.out.2.1, HB.out.2.2.1, HB.out.2.2.2, HE.out]
      exact ⟨_, rfl, World.ownsRow_nil _ _ _ _, (Below.refl _ _).alloc (Nat.le_refl _) _⟩
end Go.Proofs.YtoaodmidegkolaaGreatDoor
