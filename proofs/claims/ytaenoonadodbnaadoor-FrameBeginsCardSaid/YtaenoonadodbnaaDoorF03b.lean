/- frame.length, frame.Read, plinthref03.Read. -/
import Derived.Test.YtaenoonadodbnaaDoorF03a
import Derived.Test.YtaenoonadodbnaaDoorM03
import Derived.Test.YtaenoonadodbnaaDoorArr
namespace Go.Proofs.YtaenoonadodbnaaDoor
open Go.RowKit Go.Px
set_option linter.unusedVariables false

theorem bool_two (b : Bool) : b = true ∨ b = false := by cases b <;> simp

set_option maxHeartbeats 800000 in
theorem flen_any (A : Option Addr) (m c : Nat) (bs : List UInt8) (w : World) (hm : bs.length = m) (hm8 : m ≤ 549755813888) (hmc : m ≤ c) (hc : c ≤ 9223372036854775807) (hr : Rd w A (bys bs)) :
    Calls Tryd.prog 30 #[.slice A m c] w fun e w' => e = .returned (.tuple #[.int .i64 (lenR bs), .int .i64 (lenE bs)]) ∧ w = w' := by
  by_cases h16 : m < 16
  · have hE : lenE bs = 10 := by unfold lenE; rw [if_pos (by omega)]
    have HE := hide hE
    have HR := hide (lenR_bad (x := bs) (by rw [hE]; decide))
    clear hm hE
    go_enter Tryd.func30, Tryd.ntmps30
    go_wp2
    go_ret2
    exact ⟨by rw [HE.out, HR.out]; rfl, rfl⟩
  · have hg := get_body (x := bs) (by omega)
    obtain ⟨a, rfl, hc0⟩ := hr 0 _ (bys_get (show 0 < bs.length by omega))
    rw [show a.add 0 = a from rfl] at hc0
    have hc1 := hr.atS (k := 0) (bys_get (show 1 < bs.length by omega))
    have hc3 := hr.atS (k := 2) (bys_get (show 3 < bs.length by omega))
    rw [at_nat] at hc0 hc1 hc3
    have hE := lenE.eq_1 bs
    rw [if_neg (by omega)] at hE
    have hL := bodyN_lt bs
    obtain ⟨x0, h0⟩ : ∃ x, (bs.getD 0 0).toNat = x := ⟨_, rfl⟩
    obtain ⟨x1, h1⟩ : ∃ x, (bs.getD 1 0).toNat = x := ⟨_, rfl⟩
    obtain ⟨x3, h3⟩ : ∃ x, (bs.getD 3 0).toNat = x := ⟨_, rfl⟩
    obtain ⟨L, hLL⟩ : ∃ x, bodyN bs = x := ⟨_, rfl⟩
    rw [h0, h1, h3, hLL, hm] at hE
    rw [h0] at hc0
    rw [h1] at hc1
    rw [h3] at hc3
    rw [hLL] at hL hg
    have HE := hide hE
    have HL := hide hLL
    have Hm := hide hm
    have Hg1 := hide hg.1
    have Hg2 := hide hg.2
    have HI := hide (show getI bs 12 4 = 16 by unfold getI; rw [if_pos hg.1]; rfl)
    clear hE hm hg h0 h1 h3 hLL
    have bad : (x0 ≠ 80 ∨ x1 ≠ 76 ∨ x3 ≠ 0 ∨ 16777216 < L) → Hid (lenE bs = 30 ∧ lenR bs = 0) := fun h => by
      have e : lenE bs = 30 := by rw [HE.out, if_pos h]
      exact hide ⟨e, lenR_bad (by rw [e]; decide)⟩
    have good : (x0 = 80 ∧ x1 = 76 ∧ x3 = 0 ∧ L ≤ 16777216) → m < L + 20 → Hid (lenE bs = 10 ∧ lenR bs = 0) := fun h h2 => by
      have e : lenE bs = 10 := by rw [HE.out, if_neg (by omega), if_pos h2]
      exact hide ⟨e, lenR_bad (by rw [e]; decide)⟩
    have fine : (x0 = 80 ∧ x1 = 76 ∧ x3 = 0 ∧ L ≤ 16777216) → ¬ m < L + 20 → Hid (lenE bs = 0 ∧ lenR bs = ((L + 20 : Nat) : Int)) := fun h h2 => by
      have e : lenE bs = 0 := by rw [HE.out, if_neg (by omega), if_neg h2]
      exact hide ⟨e, by rw [lenR_ok e, HL.out]⟩
    have Bad := hide bad
    have Good := hide good
    have Fine := hide fine
    clear bad good fine
    go_enter Tryd.func30, Tryd.ntmps30
    go_wp2_with fail
    refine (get_any _ _ _ _ 12 4 _ Hm.out hmc hc hr (by decide) (by decide)).mono ?_
    rw [Hg1.out, Hg2.out, HI.out]
    rintro e w1 ⟨rfl, rfl⟩
    rcases bool_two ((x0 : Int) != 80) with q0 | q0
    · have HB := Bad.out (.inl (by simp at q0; omega))
      go_wp2
      go_ret2
      exact ⟨by rw [HB.out.1, HB.out.2]; rfl, rfl⟩
    rcases bool_two ((x1 : Int) != 76) with q1 | q1
    · have HB := Bad.out (.inr (.inl (by simp at q1; omega)))
      go_wp2
      go_ret2
      exact ⟨by rw [HB.out.1, HB.out.2]; rfl, rfl⟩
    rcases bool_two ((x3 : Int) != 0) with q3 | q3
    · have HB := Bad.out (.inr (.inr (.inl (by simp at q3; omega))))
      go_wp2
      go_ret2
      exact ⟨by rw [HB.out.1, HB.out.2]; rfl, rfl⟩
    by_cases hl : 16777216 < L
    · have HB := Bad.out (.inr (.inr (.inr hl)))
      go_wp2
      go_ret2
      exact ⟨by rw [HB.out.1, HB.out.2]; rfl, rfl⟩
    have hall : x0 = 80 ∧ x1 = 76 ∧ x3 = 0 ∧ L ≤ 16777216 := by simp at q0 q1 q3; omega
    by_cases h2 : m < L + 20
    · have HB := Good.out hall h2
      go_wp2
      go_ret2
      exact ⟨by rw [HB.out.1, HB.out.2]; rfl, rfl⟩
    · have HB := Fine.out hall h2
      go_wp2
      go_ret2
      exact ⟨by rw [HB.out.1, HB.out.2]; simp; omega, rfl⟩

set_option maxHeartbeats 1600000 in
theorem fread_any (A : Option Addr) (m c : Nat) (bs : List UInt8) (i : Int) (w : World) (hm : bs.length = m) (hm8 : m ≤ 549755813888) (hmc : m ≤ c) (hc : c ≤ 9223372036854775807) (hr : Rd w A (bys bs)) (hi : -9223372036854775808 ≤ i) (hi2 : i ≤ 9223372036854775807) (ht : Tab w) :
    Calls Tryd.prog 16 #[.slice A m c, .int .i64 i] w fun e w' => ∃ v, e = .returned (.tuple #[.agg #[.int .u8 (rdK bs i), .int .u64 (rdS bs i), v], .int .i64 (rdN bs i), .int .i64 (rdE bs i)]) ∧
      w'.ownsRow w.heap.size 5 1 v (rdB bs i).length (bys (rdB bs i)) ∧ Below w.heap.size w w' := by
  have Hm := hide hm
  by_cases h0 : 0 ≤ i ∧ i ≤ m
  · obtain ⟨h1, h2⟩ := h0
    obtain ⟨k, rfl⟩ := Int.eq_ofNat_of_zero_le h1
    have hk : k ≤ m := by omega
    have hx : rdE bs (k : Int) = frE (bs.drop k) := by unfold rdE; rw [if_pos (by omega)]; rfl
    have hxl : (bs.drop k).length = m - k := by rw [List.length_drop, hm]
    have hxr : Rd w (cutA A c k 1) (bys (bs.drop k)) := by rw [bys_drop]; exact hr.cutA (n := m) (k := k) (by rw [bys_length, hm]; exact Nat.le_refl _) hk hmc
    obtain ⟨x, hxx⟩ : ∃ x, bs.drop k = x := ⟨_, rfl⟩
    rw [hxx] at hx hxl hxr
    have Hx := hide hx
    have Hxl := hide hxl
    have Hxx := hide hxx
    clear hm hx hxl hxx
    by_cases hE : lenE x = 0
    · obtain ⟨hL1, hL2⟩ := lenE_le hE
      have hR := lenR_ok hE
      have hF : frE x = if numN ((x.drop (bodyN x + 16)).take 4) ≠ moreN 0 (x.take (bodyN x + 16)) then 31 else 0 := by unfold frE; rw [if_neg (by simpa using hE)]
      obtain ⟨L, hL⟩ : ∃ L, bodyN x = L := ⟨_, rfl⟩
      rw [hL] at hL1 hL2 hR hF
      rw [Hxl.out] at hL1
      obtain ⟨n, hn⟩ : ∃ n, L + 20 = n := ⟨_, rfl⟩
      rw [hn] at hR
      have hnm : n ≤ m - k := by omega
      have hn20 : 20 ≤ n := by omega
      have hn25 : n ≤ 16777236 := by omega
      obtain ⟨y, hy⟩ : ∃ y, x.take n = y := ⟨_, rfl⟩
      have hyl : y.length = n := by rw [← hy, List.length_take, Hxl.out]; omega
      have hyr : Rd w (cutA A c k 1) (bys y) := by rw [← hy, bys_take]; exact hxr.take _
      have hg1 : getE y ((n : Int) - 4) 4 = 0 := by unfold getE; rw [if_pos (by decide), if_pos (by omega), if_neg (by omega)]
      have hg2 : getE y 4 8 = 0 := by unfold getE; rw [if_pos (by decide), if_pos (by omega), if_neg (by omega)]
      have hv1 : getV y ((n : Int) - 4) 4 = numN ((x.drop (L + 16)).take 4) := by
        unfold getV; rw [if_pos hg1, show ((n : Int) - 4).toNat = L + 16 by omega, ← hy, List.drop_take, List.take_take, show min ((4 : Int).toNat) (n - (L + 16)) = 4 by show min 4 _ = 4; omega]
      have hv2 : getV y 4 8 = numN ((x.drop 4).take 8) := by
        unfold getV; rw [if_pos hg2, ← hy]; show numN (((x.take n).drop 4).take 8) = _; rw [List.drop_take, List.take_take, show min 8 (n - 4) = 8 by omega]
      have hi1 : getI y ((n : Int) - 4) 4 = n := by unfold getI; rw [if_pos hg1]; omega
      have hi2' : getI y 4 8 = 12 := by unfold getI; rw [if_pos hg2]; rfl
      have hyt : y.take (n - 4) = x.take (L + 16) := by rw [← hy, List.take_take, show min (n - 4) n = L + 16 by omega]
      have hytl : (y.take (n - 4)).length = n - 4 := by rw [List.length_take, hyl]; omega
      have hytr : Rd w (cutA A c k 1) (bys (y.take (n - 4))) := by rw [bys_take]; exact hyr.take _
      obtain ⟨b, hb, hb2⟩ := hyr 2 _ (bys_get (show 2 < y.length by rw [hyl]; omega))
      clear hb2
      rw [hb] at hyr hxr hytr
      obtain ⟨t, htt⟩ : ∃ t, numN ((x.drop (L + 16)).take 4) = t := ⟨_, rfl⟩
      obtain ⟨u, hu⟩ : ∃ u, moreN 0 (x.take (L + 16)) = u := ⟨_, rfl⟩
      have hul : u < 4294967296 := by rw [← hu]; exact moreN_lt _ _
      rw [htt] at hv1 hF
      rw [hu] at hF
      obtain ⟨q, hq⟩ : ∃ q, numN ((x.drop 4).take 8) = q := ⟨_, rfl⟩
      rw [hq] at hv2
      have HSum := hide (show sumN [y.take (n - 4)] = u by rw [hyt]; exact hu)
      have HF := hide hF
      have HR := hide hR
      have HE := hide hE
      have HG1 := hide hg1
      have HG2 := hide hg2
      have HV1 := hide hv1
      have HV2 := hide hv2
      have HI1 := hide hi1
      have HI2 := hide hi2'
      have Hyl := hide hyl
      have Hytl := hide hytl
      have HL := hide hL
      have Hy := hide hy
      have Hq := hide hq
      clear hF hR hE hg1 hg2 hv1 hv2 hi1 hi2' hyl hytl hL hy htt hu hyt hq
      have hnI : (20 : Int) ≤ n := by omega
      have hnk : (k : Int) + (n : Int) ≤ m := by omega
      go_enter Tryd.func16, Tryd.ntmps16
      go_wp2_with fail
      refine (flen_any _ _ _ x _ Hxl.out (by omega) (by omega) (by omega) (hxr.alloc _)).mono ?_
      rw [HR.out, HE.out]
      rintro e w1 ⟨rfl, rfl⟩
      go_wp2_with fail
      refine (get_any _ n _ y ((n : Int) - 4) 4 _ Hyl.out (by omega) (by omega) (hyr.alloc _) (by omega) (by omega)).mono ?_
      rw [HG1.out, HV1.out, HI1.out]
      rintro e w1 ⟨rfl, rfl⟩
      go_wp2_with fail
      refine (sum_any _ 1 1 [.slice (some b) (n - 4) (c - k)] [y.take (n - 4)] _ rfl (by decide) (Rd.newG (by simp)) (BRows.nil.snoc (c := c - k) Hytl.out (by omega) (by omega) (by omega) ((hytr.alloc _).alloc _)) ((ht.alloc _).alloc _)).mono ?_
      rw [HSum.out]
      rintro e w1 ⟨rfl, rfl⟩
      rcases bool_two ((t : Int) != (u : Int)) with qt | qt
      · have hE31 : rdE bs (k : Int) = 31 := by rw [Hx.out, HF.out, if_pos (by simp at qt; omega)]
        have HB := hide (rd_bad hE31 (by decide))
        have HE31 := hide hE31
        clear hE31
        go_wp2
        refine bodyPost_ret (results_cell3 rfl rfl ((Blk.new w [.int .u8 0, .int .u64 0, .slice none 0 0] _).alloc _) Tryd.underlying25 rfl (by kernel_rfl)) rfl ?_
        rw [HB.out.1, HB.out.2.1, HB.out.2.2.1, HB.out.2.2.2, HE31.out]
        exact ⟨_, rfl, World.ownsRow_nil _ _ _ _, ((Below.refl _ _).alloc (Nat.le_refl _) _).alloc (by simp) _⟩
      · have hE0 : rdE bs (k : Int) = 0 := by rw [Hx.out, HF.out, if_neg (by simp at qt; omega)]
        have hK : rdK bs (k : Int) = ((x.getD 2 0).toNat) := by unfold rdK; rw [if_pos hE0]; show ((bs.drop k).getD 2 0).toNat = _; rw [Hxx.out]
        have hS : rdS bs (k : Int) = q := by unfold rdS; rw [if_pos hE0]; show numN (((bs.drop k).drop 4).take 8) = _; rw [Hxx.out]; exact Hq.out
        have hBd : rdB bs (k : Int) = (y.drop 16).take (n - 20) := by
          unfold rdB; rw [if_pos hE0]
          show ((bs.drop k).drop 16).take (bodyN (bs.drop k)) = _
          rw [Hxx.out, HL.out, ← Hy.out, List.drop_take, List.take_take, show min (n - 20) (n - 16) = L by omega]
        have hN : rdN bs (k : Int) = (k : Int) + n := by unfold rdN; rw [if_pos hE0]; show (k : Int) + ((bodyN (bs.drop k) + 20 : Nat) : Int) = _; rw [Hxx.out, HL.out]; omega
        have HK := hide hK
        have HS := hide hS
        have HBd := hide hBd
        have HN := hide hN
        have HE0 := hide hE0
        clear hK hS hBd hN hE0
        have Hbl := hide (show ((y.drop 16).take (n - 20)).length = n - 4 - 16 by rw [List.length_take, List.length_drop, Hyl.out]; omega)
        have hbr : Rd w (cutA (some b) (c - k) 16 1) (bys ((y.drop 16).take (n - 20))) := by
          rw [bys_take, bys_drop]; exact (hyr.cutA (n := n) (k := 16) (by rw [bys_length, Hyl.out]; exact Nat.le_refl _) (by omega) (by omega)).take _
        have hx2 : (y[2]'(by rw [Hyl.out]; omega)).toNat = (x.getD 2 0).toNat := by
          rw [at_nat, ← Hy.out, List.getD_eq_getElem?_getD, List.getElem?_take, if_pos (by omega), List.getD_eq_getElem?_getD]
        obtain ⟨z2, hz2⟩ : ∃ z, (x.getD 2 0).toNat = z := ⟨_, rfl⟩
        rw [hz2] at hx2
        have hcell : ∀ W, Below w.heap.size w W → W.cell? ⟨b.block, b.off + 2, none⟩ = some (.int .u8 (z2 : Int)) := fun W hW => by
          have := (hyr.below hW).atS (k := 1) (bys_get (show 2 < y.length by rw [Hyl.out]; omega))
          rwa [hx2] at this
        have Hz2 := hide hz2
        have Hcell := hide hcell
        clear hcell hx2 hz2
        go_wp2_with fail
        refine (get_any _ n _ y 4 8 _ Hyl.out (by omega) (by omega) ((hyr.alloc _).alloc _) (by omega) (by omega)).mono ?_
        rw [HG2.out, HV2.out, HI2.out]
        rintro e w1 ⟨rfl, rfl⟩
        have dW : Blk ((w.alloc (.cells #[.int .u8 0, .int .u64 0, .slice none 0 0] 25)).alloc (.cells #[.slice (some b) (n - 4) (c - k)] 23)) w.heap.size [.int .u8 0, .int .u64 0, .slice none 0 0] 25 := (Blk.new w [.int .u8 0, .int .u64 0, .slice none 0 0] _).alloc _
        have bW : Below w.heap.size w ((w.alloc (.cells #[.int .u8 0, .int .u64 0, .slice none 0 0] 25)).alloc (.cells #[.slice (some b) (n - 4) (c - k)] 23)) := ((Below.refl _ _).alloc (Nat.le_refl _) _).alloc (by simp) _
        obtain ⟨W, hWe⟩ : ∃ W, ((w.alloc (.cells #[.int .u8 0, .int .u64 0, .slice none 0 0] 25)).alloc (.cells #[.slice (some b) (n - 4) (c - k)] 23)) = W := ⟨_, rfl⟩
        rw [hWe] at dW bW
        have e0 : W.drew.cell? ⟨b.block, b.off + 2, none⟩ = some (.int .u8 (z2 : Int)) := Hcell.out _ bW.drew
        go_wp2
        have hgc : w.heap.size < W.heap.size := dW.lt
        go_region_with (first
          | (go_at_call 32; refine (clone_any _ (n - 4 - 16) _ ((y.drop 16).take (n - 20)) _ Hbl.out (by omega) (Rd.drew (hbr.below bW))).mono ?_; rintro e w5 ⟨v5, rfl, ho5, hb5⟩; obtain ⟨A5, c5, rfl, hl5, hc5, hcm5, hr5, ha5⟩ := own_out ho5; have e1 := Hcell.out _ (bW.drew.trans (hb5.mono (by simpa using bW.size))); have d5 := Blk.below (w := W.drew) dW hb5; have g0 := d5.cell (j := 0) rfl; have g1 := d5.cell (j := 1) rfl; have g2 := d5.cell (j := 2) rfl; have z0 := d5.frozen 0; have z1 := d5.frozen 1; have z2' := d5.frozen 2))
        all_goals
          go_wp2_with fail
          refine bodyPost_ret (results_cell3 rfl rfl (((d5.set 0 _).set 1 _).set 2 _) Tryd.underlying25 rfl (by kernel_rfl)) rfl ?_
          rw [HK.out, HS.out, HBd.out, HN.out, HE0.out, Hz2.out, Hbl.out]
          exact ⟨.slice A5 (n - 4 - 16) c5, rfl, own_weak (ownsRow_setCell_below (ownsRow_setCell_below (ownsRow_setCell_below ho5 hgc _) hgc _) hgc _) bW.size,
            (((bW.drew.trans (hb5.mono (by simpa using bW.size))).setCell (Nat.le_refl _) _).setCell (Nat.le_refl _) _).setCell (Nat.le_refl _) _⟩
    · have hR := lenR_bad hE
      have HF := hide (show frE x = lenE x by unfold frE; rw [if_pos hE])
      obtain ⟨z, hz⟩ : ∃ z, lenE x = z := ⟨_, rfl⟩
      rw [hz] at hE HF
      have Hz := hide hz
      have HR := hide hR
      have HB := hide (rd_bad (Hx.out.trans HF.out) hE)
      have hzb : (z != 0) = true := by simpa using hE
      clear hz hR
      go_enter Tryd.func16, Tryd.ntmps16
      go_wp2_with fail
      refine (flen_any _ _ _ x _ Hxl.out (by omega) (by omega) (by omega) (hxr.alloc _)).mono ?_
      rw [HR.out, Hz.out]
      rintro e w1 ⟨rfl, rfl⟩
      go_wp2
      refine bodyPost_ret (results_cell3 rfl rfl (Blk.new w [.int .u8 0, .int .u64 0, .slice none 0 0] _) Tryd.underlying25 rfl (by kernel_rfl)) rfl ?_
      rw [HB.out.1, HB.out.2.1, HB.out.2.2.1, HB.out.2.2.2, Hx.out, HF.out]
      exact ⟨_, rfl, World.ownsRow_nil _ _ _ _, (Below.refl _ _).alloc (Nat.le_refl _) _⟩
  · have hE : rdE bs i = 5 := by unfold rdE; rw [if_neg (by rw [hm]; exact h0)]
    have HE := hide hE
    have HB := hide (rd_bad hE (by decide))
    have hd : (decide (i < 0) || decide (i > (m : Int))) = true := by
      by_cases h : i < 0
      · simp [h]
      · have : (m : Int) < i := by omega
        simp [this]
    clear hE hm
    by_cases hneg : i < 0
    · go_enter Tryd.func16, Tryd.ntmps16
      go_wp2
      refine bodyPost_ret (results_cell3 rfl rfl (Blk.new w [.int .u8 0, .int .u64 0, .slice none 0 0] _) Tryd.underlying25 rfl (by kernel_rfl)) rfl ?_
      rw [HB.out.1, HB.out.2.1, HB.out.2.2.1, HB.out.2.2.2, HE.out]
      exact ⟨_, rfl, World.ownsRow_nil _ _ _ _, (Below.refl _ _).alloc (Nat.le_refl _) _⟩
    · have hgt : (m : Int) < i := by omega
      go_enter Tryd.func16, Tryd.ntmps16
      go_wp2
      refine bodyPost_ret (results_cell3 rfl rfl (Blk.new w [.int .u8 0, .int .u64 0, .slice none 0 0] _) Tryd.underlying25 rfl (by kernel_rfl)) rfl ?_
      rw [HB.out.1, HB.out.2.1, HB.out.2.2.1, HB.out.2.2.2, HE.out]
      exact ⟨_, rfl, World.ownsRow_nil _ _ _ _, (Below.refl _ _).alloc (Nat.le_refl _) _⟩
end Go.Proofs.YtaenoonadodbnaaDoor
