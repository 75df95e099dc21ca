/- The law FrameSpoilt, walked. -/
import Derived.Test.YtaenoonadodbnaaDoorM03t
import Derived.Test.YtaenoonadodbnaaDoorReg
import Derived.Deep.DeepFit
import Derived.Laws.BitsAllLaws
import Derived.Laws.OwnMore
namespace Go.Proofs.YtaenoonadodbnaaDoor
open Go.RowKit Go.Px
set_option linter.unusedVariables false

set_option maxHeartbeats 1600000 in
theorem frameSpoilt_walk (k s : Nat) (A : Option Addr) (m c : Nat) (bs : List UInt8) (at_ x z : Nat) (w : World) (hk : k < 256) (hs : s < 18446744073709551616)
    (hm : bs.length = m) (hmc : m ≤ c) (hc : c ≤ 9223372036854775807) (hr : Rd w A (bys bs)) (hat : at_ < 65536) (hx : x < 256) (hz : z < 256) (ht : Tab w) :
    Calls Tryd.prog 9 #[.agg #[.int .u8 k, .int .u64 s, .slice A m c], .int .u16 at_, .int .u8 x, .int .u8 z] w fun e w' => e = .returned (.bool true) ∧ Below w.heap.size w w' := by
  obtain ⟨hl1, hl2⟩ := lcut_le m
  have Hl := hide (show (bs.take 16384).length = lcut m by rw [lcut_len, hm])
  have hr' := lcut_rd hr
  obtain ⟨q, hq⟩ : ∃ q, lcut m = q := ⟨_, rfl⟩
  rw [hq] at hl1 hl2 Hl
  have Hq := hide hq
  clear hq hm hr
  generalize bs.take 16384 = b at *
  obtain ⟨g, hg⟩ : ∃ g, w.heap.size = g := ⟨_, rfl⟩
  obtain ⟨w0, hw0⟩ : ∃ w0, w.alloc (.cells #[.int .u8 k, .int .u64 s, .slice A m c] 25) = w0 := ⟨_, rfl⟩
  have hF : Blk w0 g [.int .u8 k, .int .u64 s, .slice A m c] 25 := by rw [← hw0, ← hg]; exact Blk.new _ _ _
  have hb0 : Below g w w0 := by rw [← hw0, ← hg]; exact (Below.refl _ _).alloc (Nat.le_refl _) _
  have ht0 : Tab w0 := Rd.below ht (by rw [hg]; exact hb0)
  obtain ⟨f, hf⟩ : ∃ f, frmB k s b = f := ⟨_, rfl⟩
  obtain ⟨N, hN⟩ : ∃ N, q + 20 = N := ⟨_, rfl⟩
  have hfl : f.length = N := by rw [← hf, frmB_length, Hl.out, hN]
  obtain ⟨j, hj⟩ : ∃ j : Nat, (at_ : Int) % (N : Int) = j := ⟨((at_ : Int) % (N : Int)).toNat, (Int.toNat_of_nonneg (Int.emod_nonneg _ (by omega))).symm⟩
  have hjN : j < N := by
    have := Int.emod_lt_of_pos (at_ : Int) (show (0 : Int) < (N : Int) by omega)
    omega
  have hN20 : 20 ≤ N := by omega
  have hNm : N ≤ 16404 := by omega
  have hsp := frm_spoilt k s b (by rw [Hl.out]; omega) j (by rw [Hl.out]; omega)
  rw [hf, Hl.out] at hsp
  have hjl : j < f.length := by omega
  obtain ⟨y, hy⟩ : ∃ y, f[j] = y := ⟨_, rfl⟩
  have hfd : f.getD j 0 = y := by rw [List.getD_eq_getElem?_getD, List.getElem?_eq_getElem hjl, hy]; rfl
  rw [hfd] at hsp
  have hsp' : x ≠ 0 → rdE (f.set j (y ^^^ UInt8.ofNat x)) 0 ≠ 0 ∨ 12 ≤ j ∧ j < 16 ∧ (rdB (f.set j (y ^^^ UInt8.ofNat x)) 0).length < q := fun h0 => hsp _ (fun h => by
    have := u8_xor_self0 _ _ h
    have h2 : (UInt8.ofNat x).toNat = x := UInt8.toNat_ofNat_of_lt' hx
    rw [this] at h2
    exact h0 h2.symm)
  have hz0 := zeros_none z
  have Hf := hide hf
  have Hfl := hide hfl
  have HN := hide hN
  have Hj := hide hj
  have Hy := hide hy
  have Hsp := hide hsp'
  have Hg := hide hg
  have hgw : g ≤ w.heap.size := by omega
  obtain ⟨ze, hze⟩ : ∃ ze, rdE (List.replicate z 0) 0 = ze := ⟨_, rfl⟩
  rw [hze] at hz0
  have Hze := hide hze
  have hzb : ((ze : Int) == 0) = false := by simpa using hz0
  clear hf hfl hN hj hy hsp hsp' hfd hze
  have hx0 : ((x : Int) == 0) = true ∨ ((x : Int) == 0) = false := by cases ((x : Int) == 0) <;> simp
  go_enter Tryd.func9, Tryd.ntmps9
  go_wp2_with fail
  go_fit (awake03_any _ ht0)
  rintro e w1 ⟨rfl, hb1⟩
  have hF1 := hF.below hb1
  have x0 := hF1.cell (j := 0) rfl
  have x1 := hF1.cell (j := 1) rfl
  have x2 := hF1.cell (j := 2) rfl
  have fz := hF1.frozen 2
  go_wp2_with fail
  refine (cut_any _ _ _ _ hmc hc).mono ?_
  rw [Hq.out]
  rintro e w0 ⟨rfl, rfl⟩
  have hF2 := hF1.set 2 (.slice A q c)
  have hbw1 : Below g w w1 := hb0.trans (hb1.mono (Nat.le_of_lt hF.lt))
  have hb2 : Below g w (w1.setCell ⟨g, 2, none⟩ (.slice A q c)) := hbw1.setCell (Nat.le_refl _) _
  obtain ⟨W, hW⟩ : ∃ W, w1.setCell ⟨g, 2, none⟩ (.slice A q c) = W := ⟨_, rfl⟩
  rw [hW] at hF2 hb2
  have y0 := hF2.cell (j := 0) rfl
  have y1 := hF2.cell (j := 1) rfl
  have y2 := hF2.cell (j := 2) rfl
  have hgW := Nat.le_of_lt hF2.lt
  have hbW : ∀ W', Below W.heap.size W W' → Below g w W' := fun W' h => hb2.trans (h.mono hgW)
  rw [← Hg.out] at hb2 hbW
  go_wp2_with fail
  go_fit (fwrite_any k s A q c b _ Hl.out hl2 (by omega) (by omega) (hr'.below hb2) hk hs (Rd.below ht hb2))
  rw [Hf.out, HN.out]
  rintro e w3 ⟨v3, rfl, ho3, hb3⟩
  obtain ⟨gb, c3, hv3, hgb1, hgb2⟩ : ∃ gb c3, v3 = .slice (some ⟨gb, 0, none⟩) N c3 ∧ W.heap.size ≤ gb ∧ gb < w3.heap.size := by
    obtain ⟨A3, c3, rfl, _, _, _, _, _⟩ := own_out ho3
    obtain ⟨gb, rfl, h1, h2⟩ := own_form ho3 (by omega)
    exact ⟨gb, c3, rfl, h1, h2⟩
  subst hv3
  have hg3 : W.heap.size ≤ w3.heap.size := hb3.size
  go_wp2_with (first | (with_reducible refine stop_append rfl ?_) | (with_reducible refine stop_copy rfl ?_) | (with_reducible refine stop_make rfl ?_))
  refine go_make rfl rfl tBytes rfl rfl (n := z) (m := z) rfl rfl (by omega) (by omega) (by omega) (Nat.le_refl _) ?_
  intro zz w4 hzz _ hw4 ho4 hg4
  obtain rfl : zz = .int .u8 0 := by
    obtain ⟨i, hi1, hi2⟩ := hzz
    have h0 : (Tryd.prog.info? 5).map (·.zero) = some (some (.int .u8 0)) := by kernel_rfl
    rw [hi1, Option.map_some, hi2] at h0
    exact Option.some.inj (Option.some.inj h0)
  clear hw4
  rw [show (Value.int .u8 0).cells = #[.int .u8 0] from rfl, Nat.mul_one, toList_madeCells_one, List.take_of_length_le (by simp)] at ho4
  have hb4 : Below w3.heap.size w3 w4 := grown_below (Below.refl _ _) hg4 (Nat.le_refl _) (fun g hg => by cases hg)
  obtain ⟨A4, c4, hv4, _, _, _, hr4, _⟩ := own_out ho4
  injection hv4 with hv4 hv5 hv6
  subst hv4 hv6
  have hzr : Rd w4 (some ⟨w3.heap.size, 0, none⟩) (bys (List.replicate z 0)) := by
    have : bys (List.replicate z 0) = List.replicate z (Value.int .u8 0) := by simp [bys]
    rw [this]; exact hr4
  have hb34 := hb3.trans (hb4.mono hg3)
  go_wp2_with fail
  go_fit (fread_any _ z z (List.replicate z 0) 0 _ (List.length_replicate) (by omega) (by omega) (by omega) hzr (by omega) (by omega) (Rd.below ht (hbW _ hb34)))
  rw [Hze.out]
  rintro e w5 ⟨v5, rfl, ho5, hb5⟩
  have hb35 := hb34.trans (hb5.mono (hb34.size))
  obtain ⟨A5, c5, rfl, _, _, _, hr5, _⟩ := own_out ho5
  obtain ⟨p1, hp1⟩ : ∃ p, rdK (List.replicate z 0) 0 = p := ⟨_, rfl⟩
  obtain ⟨p2, hp2⟩ : ∃ p, rdS (List.replicate z 0) 0 = p := ⟨_, rfl⟩
  obtain ⟨p3, hp3⟩ : ∃ p, rdN (List.replicate z 0) 0 = p := ⟨_, rfl⟩
  obtain ⟨p4, hp4⟩ : ∃ p, (rdB (List.replicate z 0) 0).length = p := ⟨_, rfl⟩
  rw [hp1, hp2, hp3, hp4]
  clear hp1 hp2 hp3 hp4 hr5 ho5
  have ho6 : (w5.alloc (.cells #[.int .u8 p1, .int .u64 p2, .slice A5 p4 c5] 25)).ownsRow g 5 1 (.slice (some ⟨gb, 0, none⟩) N c3) N (bys f) :=
    own_below (own_weak ho3 hgW) ((hb4.trans (hb5.mono hb4.size)).alloc (by have := (hb4.trans (hb5.mono hb4.size)).size; exact this) _)
  have hb6 : Below g w (w5.alloc (.cells #[.int .u8 p1, .int .u64 p2, .slice A5 p4 c5] 25)) := by
    have := hbW _ (hb35.alloc hb35.size (.cells #[.int .u8 p1, .int .u64 p2, .slice A5 p4 c5] 25))
    rwa [Hg.out] at this
  have hF6 := (hF2.below hb35).alloc (.cells #[.int .u8 p1, .int .u64 p2, .slice A5 p4 c5] 25)
  obtain ⟨X, hX⟩ : ∃ X, w5.alloc (.cells #[.int .u8 p1, .int .u64 p2, .slice A5 p4 c5] 25) = X := ⟨_, rfl⟩
  rw [hX] at ho6 hb6 hF6
  rcases hx0 with hx0 | hx0
  · have hx1 : x = 0 := by simpa using hx0
    subst hx1
    go_wp2
    go_ret
    exact ⟨rfl, by rw [← Hg.out] at hb6; exact hb6⟩
  · have hx1 : x ≠ 0 := by simpa using hx0
    have hsx := Hsp.out hx1
    have HsX := hide hsx
    clear hsx
    have hcell : X.cell? ⟨gb, j, none⟩ = some (.int .u8 (y.toNat : Int)) := by
      have := ho6.cells (g := gb) rfl j _ (bys_get hjl)
      rwa [Hy.out, addr_add0] at this
    have hy256 := y.toNat_lt
    obtain ⟨yn, hyn⟩ : ∃ yn, y.toNat = yn := ⟨_, rfl⟩
    rw [hyn] at hcell hy256
    have hfz := ho6.frozenAt j
    have hst := ho6.stored j (.int .u8 (bits .xor .u8 (yn : Int) (x : Int)))
    have hset : (bys f).set j (.int .u8 (bits .xor .u8 (yn : Int) (x : Int))) = bys (f.set j (y ^^^ UInt8.ofNat x)) := by
      have : bits .xor .u8 (yn : Int) (x : Int) = (((y ^^^ UInt8.ofNat x).toNat : Nat) : Int) := by
        rw [u8_xor_nat _ _ (by rw [← hyn]; exact y.toNat_lt) hx, UInt8.toNat_xor, hyn, UInt8.toNat_ofNat_of_lt' hx]
      rw [this]
      simp only [bys, List.map_set]
    rw [hset] at hst
    obtain ⟨F, hFF⟩ : ∃ F, f.set j (y ^^^ UInt8.ofNat x) = F := ⟨_, rfl⟩
    have hFl : F.length = N := by rw [← hFF, List.length_set, Hfl.out]
    rw [hFF] at hst
    have HFl := hide hFl
    obtain ⟨Y, hY⟩ : ∃ Y, X.setCell ⟨gb, j, none⟩ (.int .u8 (bits .xor .u8 (yn : Int) (x : Int))) = Y := ⟨_, rfl⟩
    rw [hY] at hst
    obtain ⟨hoY, hgY⟩ := hst
    have hbY : Below g w Y := hb6.grown hgY (by have := hb6.size; omega) (fun k hk => by injection hk with hk; omega)
    have hgbg : g ≠ gb := by have := hF2.lt; omega
    have hFY := hF6.apart hgbg j (.int .u8 (bits .xor .u8 (yn : Int) (x : Int)))
    rw [hY] at hFY
    obtain ⟨Av, cv, hvv, _, hcv, hcmv, hrY, _⟩ := own_out hoY
    injection hvv with hv1 hv2 hv3
    subst hv1 hv3
    rw [← Hg.out] at hbY
    rw [show f.set j (y ^^^ UInt8.ofNat x) = F from hFF] at HsX
    have hj := Hj.out
    clear hyn hset hFF hFl hv2 hgY
    have t2 := hFY.cell (j := 2) rfl
    go_wp2_with fail
    clear hj
    go_fit (fread_any _ N c3 F 0 _ HFl.out (by omega) hcv (by unfold maxLen at hcmv; omega) hrY (by omega) (by omega) (Rd.below ht hbY))
    obtain ⟨EE, hEE⟩ : ∃ p, rdE F 0 = p := ⟨_, rfl⟩
    obtain ⟨p1', hp1⟩ : ∃ p, rdK F 0 = p := ⟨_, rfl⟩
    obtain ⟨p2', hp2⟩ : ∃ p, rdS F 0 = p := ⟨_, rfl⟩
    obtain ⟨p3', hp3⟩ : ∃ p, rdN F 0 = p := ⟨_, rfl⟩
    obtain ⟨p4', hp4⟩ : ∃ p, (rdB F 0).length = p := ⟨_, rfl⟩
    have hlast : EE ≠ 0 ∨ 12 ≤ j ∧ j < 16 ∧ p4' < q := by rw [← hEE, ← hp4]; exact HsX.out
    have Hlast := hide hlast
    rw [hEE, hp1, hp2, hp3, hp4]
    clear hEE hp1 hp2 hp3 hp4 hlast
    rintro e w7 ⟨v7, rfl, ho7, hb7⟩
    obtain ⟨A7, c7, rfl, _, _, _, _, _⟩ := own_out ho7
    have hF7 := (hFY.below hb7).alloc (.cells #[.int .u8 p1', .int .u64 p2', .slice A7 p4' c7] 25)
    have hG7 := Blk.new w7 [.int .u8 p1', .int .u64 p2', .slice A7 p4' c7] 25
    have r2 := hF7.cell (j := 2) rfl
    have s2 := hG7.cell (j := 2) rfl
    have hb8 := (hbY.trans (hb7.mono hbY.size)).alloc (hbY.trans (hb7.mono hbY.size)).size (.cells #[.int .u8 p1', .int .u64 p2', .slice A7 p4' c7] 25)
    rcases bool_two (EE != 0) with q0 | q0
    · go_wp2
      go_ret
      exact ⟨by simp, hb8⟩
    · have hE0 : EE = 0 := by simpa using q0
      obtain ⟨j1, j2, j3⟩ : 12 ≤ j ∧ j < 16 ∧ p4' < q := by
        rcases Hlast.out with h | h
        · exact absurd hE0 h
        · exact h
      have j1' : (12 : Int) ≤ (at_ : Int) % (N : Int) := by rw [Hj.out]; omega
      have j2' : (at_ : Int) % (N : Int) < 16 := by rw [Hj.out]; omega
      go_wp2
      go_ret
      exact ⟨by simp, hb8⟩
end Go.Proofs.YtaenoonadodbnaaDoor
