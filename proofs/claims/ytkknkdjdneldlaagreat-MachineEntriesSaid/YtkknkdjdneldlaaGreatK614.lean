/- Texts joined (shake.py). -/
import Derived.Deep.CutBlock
import Derived.Deep.CutRange
import Derived.Test.YtkknkdjdneldlaaGreatK613
namespace Go.Proofs.YtkknkdjdneldlaaGreat
set_option maxRecDepth 20000
open Go.RowKit Go.Px Go.Maps
set_option linter.unusedVariables false
set_option linter.unusedSimpArgs false
theorem memB_bd {bs : List UInt8} {a n : Nat} {x : Int} (hx : x ∈ memB bs a n) : -9223372036854775808 ≤ x ∧ x ≤ 9223372036854775807 := by
  unfold memB at hx
  obtain ⟨k, _, rfl⟩ := List.mem_map.1 hx
  have := getV_1 bs ((a + k : Nat) : Int)
  omega

set_option maxRecDepth 20000 in
set_option maxHeartbeats 6400000 in
theorem entry_any (b : Nat) (A : Option Addr) (m c : Nat) (bs : List UInt8) (w : World) (hB : Blk w b [.slice A m c, .int .i64 0] 125) (hm : bs.length = m) (hmc : m ≤ c) (hm8 : m ≤ 140737488355328) (hc : c ≤ 9223372036854775807) (hr : Rd w A (bys bs)) (hlo : Lo b A) :
    Calls Tryz.prog 73 #[.pointer (some ⟨b, 0, none⟩)] w (EntRd b A m c bs w) := by
  by_cases h33 : m < 33
  · exact entry_short b A m c bs w hB hm hmc hm8 hc hr hlo h33
  have hbl := hB.lt
  obtain ⟨g2, hg2⟩ : ∃ g, w.heap.size = g := ⟨_, rfl⟩
  obtain ⟨w0, hw0⟩ : ∃ y, w.alloc (.cells #[.int .u8 0, .int .i64 0, .int .i64 0, .int .i64 0, .int .i64 0, .int .u8 0, .int .i64 0, .int .i64 0, .slice none 0 0, .slice none 0 0, .int .i64 0, .slice none 0 0] 49) = y := ⟨_, rfl⟩
  have hR0 : Blk w0 g2 [.int .u8 0, .int .i64 0, .int .i64 0, .int .i64 0, .int .i64 0, .int .u8 0, .int .i64 0, .int .i64 0, .slice none 0 0, .slice none 0 0, .int .i64 0, .slice none 0 0] 49 := by rw [← hw0, ← hg2]; exact Blk.new w _ _
  have hb0 : Below w.heap.size w w0 := by rw [← hw0]; exact (Below.refl _ _).alloc (Nat.le_refl _) _
  have hz0 : w0.heap.size = g2 + 1 := by rw [← hw0, ← hg2]; simp
  have hbg : b < g2 := by omega
  have hAb : bys bs ≠ [] → ∀ p, A = some p → ¬ (fun k => k = b) p.block := fun _ p hp h => by have h : p.block = b := h; have := hlo p hp; omega
  have HW := hide (And.intro (hB.below hb0) (hr.below hb0))
  have HF0 := hide (Fr.of_below (X := fun k => k = b) hb0)
  have HR0 := hide hR0
  have HAb := hide hAb
  have HLo := hide hlo
  have Hw0 := hide hw0
  have Hg2 := hide hg2
  have Hm := hide hm
  obtain ⟨K, hK⟩ : ∃ y, getV bs 0 1 = y := ⟨_, rfl⟩
  obtain ⟨n1, hn1⟩ : ∃ y, iw7 (getV bs 1 8) = y := ⟨_, rfl⟩
  obtain ⟨n2, hn2⟩ : ∃ y, iw7 (getV bs 9 8) = y := ⟨_, rfl⟩
  obtain ⟨n3, hn3⟩ : ∃ y, iw7 (getV bs 17 8) = y := ⟨_, rfl⟩
  obtain ⟨n4, hn4⟩ : ∃ y, iw7 (getV bs 25 8) = y := ⟨_, rfl⟩
  have hK256 : K < 256 := by rw [← hK]; exact getV_1 bs 0
  have hkw : IntKind.u8.wrap (K : Int) = (K : Int) := by rw [IntKind.wrap_u8]; omega
  have hN1 := hide (show -9223372036854775808 ≤ n1 ∧ n1 ≤ 9223372036854775807 from hn1 ▸ iw7_bd _)
  have hN2 := hide (show -9223372036854775808 ≤ n2 ∧ n2 ≤ 9223372036854775807 from hn2 ▸ iw7_bd _)
  have hN3 := hide (show -9223372036854775808 ≤ n3 ∧ n3 ≤ 9223372036854775807 from hn3 ▸ iw7_bd _)
  have hN4 := hide (show -9223372036854775808 ≤ n4 ∧ n4 ≤ 9223372036854775807 from hn4 ▸ iw7_bd _)
  have HVV : Hid (rdV7 iw7 bs = (K, n1, n2, n3, n4, (if K = 1 then (opK (bs.drop 33), (opP (bs.drop 33) : Int), (opN (bs.drop 33) : Int), opD (bs.drop 33), opO (bs.drop 33)) else (0, 0, 0, [], [])), (if K = 2 then (iw7 (getV bs 33 8), memB bs 42 (getV bs 41 1)) else (0, [])))) := hide (by rw [← hK, ← hn1, ← hn2, ← hn3, ← hn4]; rfl)
  have HTT : Hid (rdT7 bs = if K = 1 then 33 + opT (bs.drop 33) else if K = 2 then 42 + (getV bs 41 1 : Int) else 33) := hide (by rw [← hK]; rfl)
  have HEE : Hid (rdE7 bs = if m < 33 then 10 else if K = 1 then opE (bs.drop 33) else if K = 2 then (if 42 + getV bs 41 1 ≤ m then 0 else 10) else 0) := hide (by rw [← hK, ← hm]; rfl)
  have HK : Hid (getV bs ((0 : Nat) : Int) ((1 : Nat) : Int) = K) := hide hK
  have Hn1 : Hid (iw7 (getV bs ((1 : Nat) : Int) ((8 : Nat) : Int)) = n1) := hide hn1
  have Hn2 : Hid (iw7 (getV bs ((9 : Nat) : Int) ((8 : Nat) : Int)) = n2) := hide hn2
  have Hn3 : Hid (iw7 (getV bs ((17 : Nat) : Int) ((8 : Nat) : Int)) = n3) := hide hn3
  have Hn4 : Hid (iw7 (getV bs ((25 : Nat) : Int) ((8 : Nat) : Int)) = n4) := hide hn4
  clear hB hr hb0 hR0 hAb hlo hw0 hg2 hm hK hn1 hn2 hn3 hn4
  go_enter Tryz.func73, Tryz.ntmps73
  go_upto_region 1 with fail
  rw [Hw0.out]
  try rw [Hg2.out]
  go_cut [3] from 7 to 28 (fun s3 wx => ∃ g3 : Nat, s3 = .pointer (some ⟨g3, 0, none⟩) ∧ w0.heap.size ≤ g3 ∧ Blk wx g3 [.int .u8 (K : Int), .int .i64 n1, .int .i64 n2, .int .i64 n3, .int .i64 n4, .int .u8 0, .int .i64 0, .int .i64 0, .slice none 0 0, .slice none 0 0, .int .i64 0, .slice none 0 0] 49 ∧ Blk wx b [.slice A m c, .int .i64 ((33 : Nat) : Int)] 125 ∧ Blk wx g2 [.int .u8 0, .int .i64 0, .int .i64 0, .int .i64 0, .int .i64 0, .int .u8 0, .int .i64 0, .int .i64 0, .slice none 0 0, .slice none 0 0, .int .i64 0, .slice none 0 0] 49 ∧ Rd wx A (bys bs) ∧ Fr (fun k => k = b) w wx ∧ g3 < wx.heap.size)
  case first =>
    refine wp_region_any (by kernel_rfl) ?_
    show wpAny _ _ _ _ _ _ _ w0.drew
    refine wpAny_take (fuel := 23) (i := 0) (v := .pointer (some ⟨b, 0, none⟩)) rfl (by kernel_rfl) (by kernel_rfl) (by kernel_rfl) (fun _ _ _ h => h) (Or.inl ⟨by rfl, fun Z => ?_⟩) ?_
    · go_simp
    refine wpAny_take (fuel := 22) (i := 1) (v := .pointer (some ⟨b, 0, none⟩)) rfl (by kernel_rfl) (by kernel_rfl) (by kernel_rfl) (fun _ _ _ h => h) (Or.inl ⟨by rfl, fun Z => ?_⟩) ?_
    · go_simp
    refine wpAny_take (fuel := 21) (i := 2) (v := .pointer (some ⟨b, 0, none⟩)) rfl (by kernel_rfl) (by kernel_rfl) (by kernel_rfl) (fun _ _ _ h => h) (Or.inl ⟨by rfl, fun Z => ?_⟩) ?_
    · go_simp
    refine wpAny_take (fuel := 20) (i := 5) (v := .pointer (some ⟨b, 0, none⟩)) rfl (by kernel_rfl) (by kernel_rfl) (by kernel_rfl) (fun _ _ _ h => h) (Or.inl ⟨by rfl, fun Z => ?_⟩) ?_
    · go_simp
    refine wpAny_take (fuel := 19) (i := 6) (v := .pointer (some ⟨b, 0, none⟩)) rfl (by kernel_rfl) (by kernel_rfl) (by kernel_rfl) (fun _ _ _ h => h) (Or.inl ⟨by rfl, fun Z => ?_⟩) ?_
    · go_simp
    refine wpAny_take (fuel := 18) (i := 7) (v := .pointer (some ⟨b, 0, none⟩)) rfl (by kernel_rfl) (by kernel_rfl) (by kernel_rfl) (fun _ _ _ h => h) (Or.inl ⟨by rfl, fun Z => ?_⟩) ?_
    · go_simp
    refine wpAny_take (fuel := 17) (i := 9) (v := .pointer (some ⟨b, 0, none⟩)) rfl (by kernel_rfl) (by kernel_rfl) (by kernel_rfl) (fun _ _ _ h => h) (Or.inl ⟨by rfl, fun Z => ?_⟩) ?_
    · go_simp
    refine wpAny_take (fuel := 16) (i := 10) (v := .pointer (some ⟨b, 0, none⟩)) rfl (by kernel_rfl) (by kernel_rfl) (by kernel_rfl) (fun _ _ _ h => h) (Or.inl ⟨by rfl, fun Z => ?_⟩) ?_
    · go_simp
    refine wpAny_take (fuel := 15) (i := 11) (v := .pointer (some ⟨b, 0, none⟩)) rfl (by kernel_rfl) (by kernel_rfl) (by kernel_rfl) (fun _ _ _ h => h) (Or.inl ⟨by rfl, fun Z => ?_⟩) ?_
    · go_simp
    refine wpAny_take (fuel := 14) (i := 13) (v := .pointer (some ⟨b, 0, none⟩)) rfl (by kernel_rfl) (by kernel_rfl) (by kernel_rfl) (fun _ _ _ h => h) (Or.inl ⟨by rfl, fun Z => ?_⟩) ?_
    · go_simp
    refine wpAny_take (fuel := 13) (i := 14) (v := .pointer (some ⟨b, 0, none⟩)) rfl (by kernel_rfl) (by kernel_rfl) (by kernel_rfl) (fun _ _ _ h => h) (Or.inl ⟨by rfl, fun Z => ?_⟩) ?_
    · go_simp
    refine wpAny_take (fuel := 12) (i := 15) (v := .pointer (some ⟨b, 0, none⟩)) rfl (by kernel_rfl) (by kernel_rfl) (by kernel_rfl) (fun _ _ _ h => h) (Or.inl ⟨by rfl, fun Z => ?_⟩) ?_
    · go_simp
    refine wpAny_take (fuel := 11) (i := 17) (v := .pointer (some ⟨b, 0, none⟩)) rfl (by kernel_rfl) (by kernel_rfl) (by kernel_rfl) (fun _ _ _ h => h) (Or.inl ⟨by rfl, fun Z => ?_⟩) ?_
    · go_simp
    refine wpAny_take (fuel := 10) (i := 18) (v := .pointer (some ⟨b, 0, none⟩)) rfl (by kernel_rfl) (by kernel_rfl) (by kernel_rfl) (fun _ _ _ h => h) (Or.inl ⟨by rfl, fun Z => ?_⟩) ?_
    · go_simp
    refine wpAny_take (fuel := 9) (i := 19) (v := .pointer (some ⟨b, 0, none⟩)) rfl (by kernel_rfl) (by kernel_rfl) (by kernel_rfl) (fun _ _ _ h => h) (Or.inl ⟨by rfl, fun Z => ?_⟩) ?_
    · go_simp
    obtain ⟨X0, hX0⟩ : ∃ y, w0.drew = y := ⟨_, rfl⟩
    have hFx : Fr (fun k => k = b) w0 X0 := by rw [← hX0]; exact (Fr.refl _ _).drew
    have hBx := HW.out.1
    have hBx : Blk X0 b [.slice A m c, .int .i64 ((0 : Nat) : Int)] 125 := by rw [← hX0]; exact hBx
    have hrx := HW.out.2.fr hFx HAb.out
    rw [hX0]
    have HX0 := hide hX0
    clear hX0
    refine any_two (fuel := 8) (i := 3) (j := 22) (by kernel_rfl) rfl rfl rfl rfl (fun Kk hK => ?_) (fun Kk hK => ?_)
    · have HC := lnumw_any b 125 A m c bs 0 1 X0 hBx Hm.out hmc hm8 hc hrx (by omega) (by omega) (by omega)
      rw [HK.out] at HC
      go_simp
      refine HC.mono ?_
      rintro e' X1 ⟨rfl, hBy, hFy⟩
      replace hrx := hrx.fr hFy HAb.out
      replace hFx := hFx.trans hFy
      have hz1 := hFy.size
      have hBx : Blk X1 b [.slice A m c, .int .i64 ((1 : Nat) : Int)] 125 := hBy
      clear HC hFy hBy
      refine hK _ _ ?_
      clear hK Kk
      refine wpAny_take (fuel := 7) (i := 4) (v := .int .u8 (K : Int)) rfl (by kernel_rfl) (by kernel_rfl) (by kernel_rfl) (fun _ _ _ h => h) (Or.inl ⟨by rfl, fun Z => ?_⟩) ?_
      · go_simp
      refine any_two (fuel := 6) (i := 8) (j := 22) (by kernel_rfl) rfl rfl rfl rfl (fun Kk hK => ?_) (fun Kk hK => ?_)
      · have HC := lintw_any b 125 A m c bs 1 8 X1 hBx Hm.out hmc hm8 hc hrx (by omega) (by omega) (by omega)
        rw [Hn1.out] at HC
        go_simp
        refine HC.mono ?_
        rintro e' X2 ⟨rfl, hBy, hFy⟩
        replace hrx := hrx.fr hFy HAb.out
        replace hFx := hFx.trans hFy
        have hz2 := hFy.size
        have hBx : Blk X2 b [.slice A m c, .int .i64 ((9 : Nat) : Int)] 125 := hBy
        clear HC hFy hBy
        refine hK _ _ ?_
        clear hK Kk
        refine any_two (fuel := 5) (i := 12) (j := 22) (by kernel_rfl) rfl rfl rfl rfl (fun Kk hK => ?_) (fun Kk hK => ?_)
        · have HC := lintw_any b 125 A m c bs 9 8 X2 hBx Hm.out hmc hm8 hc hrx (by omega) (by omega) (by omega)
          rw [Hn2.out] at HC
          go_simp
          refine HC.mono ?_
          rintro e' X3 ⟨rfl, hBy, hFy⟩
          replace hrx := hrx.fr hFy HAb.out
          replace hFx := hFx.trans hFy
          have hz3 := hFy.size
          have hBx : Blk X3 b [.slice A m c, .int .i64 ((17 : Nat) : Int)] 125 := hBy
          clear HC hFy hBy
          refine hK _ _ ?_
          clear hK Kk
          refine any_two (fuel := 4) (i := 16) (j := 22) (by kernel_rfl) rfl rfl rfl rfl (fun Kk hK => ?_) (fun Kk hK => ?_)
          · have HC := lintw_any b 125 A m c bs 17 8 X3 hBx Hm.out hmc hm8 hc hrx (by omega) (by omega) (by omega)
            rw [Hn3.out] at HC
            go_simp
            refine HC.mono ?_
            rintro e' X4 ⟨rfl, hBy, hFy⟩
            replace hrx := hrx.fr hFy HAb.out
            replace hFx := hFx.trans hFy
            have hz4 := hFy.size
            have hBx : Blk X4 b [.slice A m c, .int .i64 ((25 : Nat) : Int)] 125 := hBy
            clear HC hFy hBy
            refine hK _ _ ?_
            clear hK Kk
            refine any_two (fuel := 3) (i := 20) (j := 22) (by kernel_rfl) rfl rfl rfl rfl (fun Kk hK => ?_) (fun Kk hK => ?_)
            · have HC := lintw_any b 125 A m c bs 25 8 X4 hBx Hm.out hmc hm8 hc hrx (by omega) (by omega) (by omega)
              rw [Hn4.out] at HC
              go_simp
              refine HC.mono ?_
              rintro e' X5 ⟨rfl, hBy, hFy⟩
              replace hrx := hrx.fr hFy HAb.out
              replace hFx := hFx.trans hFy
              have hz5 := hFy.size
              have hBx : Blk X5 b [.slice A m c, .int .i64 ((33 : Nat) : Int)] 125 := hBy
              clear HC hFy hBy
              refine hK _ _ ?_
              clear hK Kk
              refine wpAny_take (fuel := 2) (i := 21) (v := .agg #[.int .u8 (K : Int), .int .i64 n1, .int .i64 n2, .int .i64 n3, .int .i64 n4, .int .u8 0, .int .i64 0, .int .i64 0, .slice none 0 0, .slice none 0 0, .int .i64 0, .slice none 0 0]) rfl (by kernel_rfl) (by kernel_rfl) (by kernel_rfl) (fun _ _ _ h => h) (Or.inl ⟨by rfl, fun Z => ?_⟩) ?_
              · go_simp
              refine any_one (fuel := 1) (i := 22) (by kernel_rfl) rfl rfl (fun Kk hK => ?_)
              obtain ⟨X6, hY⟩ : ∃ y, X5.alloc (.cells #[.int .u8 0, .int .i64 0, .int .i64 0, .int .i64 0, .int .i64 0, .int .u8 0, .int .i64 0, .int .i64 0, .slice none 0 0, .slice none 0 0, .int .i64 0, .slice none 0 0] 49) = y := ⟨_, rfl⟩
              obtain ⟨g3, hg3⟩ : ∃ y, X5.heap.size = y := ⟨_, rfl⟩
              have hZ : Blk X6 g3 [.int .u8 0, .int .i64 0, .int .i64 0, .int .i64 0, .int .i64 0, .int .u8 0, .int .i64 0, .int .i64 0, .slice none 0 0, .slice none 0 0, .int .i64 0, .slice none 0 0] 49 := by rw [← hY, ← hg3]; exact Blk.new X5 _ _
              have hst : Below X5.heap.size X5 X6 := by rw [← hY]; exact (Below.refl _ _).alloc (Nat.le_refl _) _
              have hgb3 : w0.heap.size ≤ g3 := by rw [← hg3]; exact hFx.size
              replace hrx := hrx.below hst
              replace hBx := hBx.below hst
              replace hFx := hFx.trans (Fr.of_below hst)
              have hz6 := hst.size
              have HY := hide hY
              have Hg3 := hide hg3
              clear hY hg3 hst
              go_simp
              rw [HY.out, Hg3.out]
              refine hK _ _ ?_
              clear hK Kk
              refine any_one (fuel := 0) (i := 23) (by kernel_rfl) rfl rfl (fun Kk hK => ?_)
              obtain ⟨X7, hY⟩ : ∃ y, ((((((((((((X6.setCell ⟨g3, 0, none⟩ (.int .u8 (K : Int))).setCell ⟨g3, 1, none⟩ (.int .i64 n1)).setCell ⟨g3, 2, none⟩ (.int .i64 n2)).setCell ⟨g3, 3, none⟩ (.int .i64 n3)).setCell ⟨g3, 4, none⟩ (.int .i64 n4)).setCell ⟨g3, 5, none⟩ (.int .u8 0)).setCell ⟨g3, 6, none⟩ (.int .i64 0)).setCell ⟨g3, 7, none⟩ (.int .i64 0)).setCell ⟨g3, 8, none⟩ (.slice none 0 0)).setCell ⟨g3, 9, none⟩ (.slice none 0 0)).setCell ⟨g3, 10, none⟩ (.int .i64 0)).setCell ⟨g3, 11, none⟩ (.slice none 0 0)) = y := ⟨_, rfl⟩
              have hG : Blk X7 g3 [.int .u8 (K : Int), .int .i64 n1, .int .i64 n2, .int .i64 n3, .int .i64 n4, .int .u8 0, .int .i64 0, .int .i64 0, .slice none 0 0, .slice none 0 0, .int .i64 0, .slice none 0 0] 49 := by rw [← hY]; exact ((((((((((((hZ.set 0 (.int .u8 (K : Int))).set 1 (.int .i64 n1)).set 2 (.int .i64 n2)).set 3 (.int .i64 n3)).set 4 (.int .i64 n4)).set 5 (.int .u8 0)).set 6 (.int .i64 0)).set 7 (.int .i64 0)).set 8 (.slice none 0 0)).set 9 (.slice none 0 0)).set 10 (.int .i64 0)).set 11 (.slice none 0 0))
              have hfS : Fr (fun x => x = g3) X6 X7 := by rw [← hY]; exact ((((((((((((Fr.set (X := fun x => x = g3) X6 ⟨g3, 0, none⟩ _ rfl).trans (Fr.set (X := fun x => x = g3) _ ⟨g3, 1, none⟩ _ rfl)).trans (Fr.set (X := fun x => x = g3) _ ⟨g3, 2, none⟩ _ rfl)).trans (Fr.set (X := fun x => x = g3) _ ⟨g3, 3, none⟩ _ rfl)).trans (Fr.set (X := fun x => x = g3) _ ⟨g3, 4, none⟩ _ rfl)).trans (Fr.set (X := fun x => x = g3) _ ⟨g3, 5, none⟩ _ rfl)).trans (Fr.set (X := fun x => x = g3) _ ⟨g3, 6, none⟩ _ rfl)).trans (Fr.set (X := fun x => x = g3) _ ⟨g3, 7, none⟩ _ rfl)).trans (Fr.set (X := fun x => x = g3) _ ⟨g3, 8, none⟩ _ rfl)).trans (Fr.set (X := fun x => x = g3) _ ⟨g3, 9, none⟩ _ rfl)).trans (Fr.set (X := fun x => x = g3) _ ⟨g3, 10, none⟩ _ rfl)).trans (Fr.set (X := fun x => x = g3) _ ⟨g3, 11, none⟩ _ rfl))
              have y0 := hZ.cell (j := 0) rfl; have y1 := hZ.cell (j := 1) rfl; have y2 := hZ.cell (j := 2) rfl; have y3 := hZ.cell (j := 3) rfl; have y4 := hZ.cell (j := 4) rfl; have y5 := hZ.cell (j := 5) rfl; have y6 := hZ.cell (j := 6) rfl; have y7 := hZ.cell (j := 7) rfl; have y8 := hZ.cell (j := 8) rfl; have y9 := hZ.cell (j := 9) rfl; have y10 := hZ.cell (j := 10) rfl; have y11 := hZ.cell (j := 11) rfl
              have f0 := hZ.frozen 0; have f1 := hZ.frozen 1; have f2 := hZ.frozen 2; have f3 := hZ.frozen 3; have f4 := hZ.frozen 4; have f5 := hZ.frozen 5; have f6 := hZ.frozen 6; have f7 := hZ.frozen 7; have f8 := hZ.frozen 8; have f9 := hZ.frozen 9; have f10 := hZ.frozen 10; have f11 := hZ.frozen 11
              have hBy := hBx.fr hfS (fun h => by have h : b = g3 := h; omega)
              have hry := hrx.fr hfS (fun hne p hp h => by have h : p.block = g3 := h; have := HLo.out p hp; omega)
              have hFy := (HF0.out.trans hFx).trans' hfS (fun x hx => .inr (by have hx : x = g3 := hx; have := Hg2.out; omega))
              have hRy := (HR0.out.fr hFx (fun h => by have h : g2 = b := h; omega)).fr hfS (fun h => by have h : g2 = g3 := h; omega)
              have hzS := hfS.size
              have HY := hide hY
              clear hY hfS
              go_simp
              rw [HY.out]
              clear y0 f0 y1 f1 y2 f2 y3 f3 y4 f4 y5 f5 y6 f6 y7 f7 y8 f8 y9 f9 y10 f10 y11 f11
              refine hK _ _ ?_
              clear hK Kk
              refine wpAny_done (by kernel_rfl) ?_ _
              try simp only [Act.put, List.setIfInBounds_toArray, List.set_cons_zero, List.set_cons_succ, List.getElem_toArray, List.getElem_cons_zero, List.getElem_cons_succ]
              have hgX := hG.lt
              go_wp2_with fail
              go_meet
              exact ⟨g3, rfl, hgb3, hG, hBy, hRy, hry, hFy, hgX⟩
            · obtain ⟨X5, hY⟩ : ∃ y, X4.alloc (.cells #[.int .u8 0, .int .i64 0, .int .i64 0, .int .i64 0, .int .i64 0, .int .u8 0, .int .i64 0, .int .i64 0, .slice none 0 0, .slice none 0 0, .int .i64 0, .slice none 0 0] 49) = y := ⟨_, rfl⟩
              obtain ⟨g3, hg3⟩ : ∃ y, X4.heap.size = y := ⟨_, rfl⟩
              have hZ : Blk X5 g3 [.int .u8 0, .int .i64 0, .int .i64 0, .int .i64 0, .int .i64 0, .int .u8 0, .int .i64 0, .int .i64 0, .slice none 0 0, .slice none 0 0, .int .i64 0, .slice none 0 0] 49 := by rw [← hY, ← hg3]; exact Blk.new X4 _ _
              have hst : Below X4.heap.size X4 X5 := by rw [← hY]; exact (Below.refl _ _).alloc (Nat.le_refl _) _
              have hgb3 : w0.heap.size ≤ g3 := by rw [← hg3]; exact hFx.size
              replace hrx := hrx.below hst
              replace hBx := hBx.below hst
              replace hFx := hFx.trans (Fr.of_below hst)
              have hz5 := hst.size
              have HY := hide hY
              have Hg3 := hide hg3
              clear hY hg3 hst
              go_simp
              rw [HY.out, Hg3.out]
              refine hK _ _ ?_
              clear hK Kk
              refine any_one (fuel := 2) (i := 20) (by kernel_rfl) rfl rfl (fun Kk hK => ?_)
              have HC := lintw_any b 125 A m c bs 25 8 X5 hBx Hm.out hmc hm8 hc hrx (by omega) (by omega) (by omega)
              rw [Hn4.out] at HC
              go_simp
              refine HC.mono ?_
              rintro e' X6 ⟨rfl, hBy, hFy⟩
              replace hrx := hrx.fr hFy HAb.out
              replace hFx := hFx.trans hFy
              have hz6 := hFy.size
              have hBx : Blk X6 b [.slice A m c, .int .i64 ((33 : Nat) : Int)] 125 := hBy
              replace hZ := hZ.fr hFy (fun h => by have h : g3 = b := h; omega)
              clear HC hFy hBy
              refine hK _ _ ?_
              clear hK Kk
              refine wpAny_take (fuel := 1) (i := 21) (v := .agg #[.int .u8 (K : Int), .int .i64 n1, .int .i64 n2, .int .i64 n3, .int .i64 n4, .int .u8 0, .int .i64 0, .int .i64 0, .slice none 0 0, .slice none 0 0, .int .i64 0, .slice none 0 0]) rfl (by kernel_rfl) (by kernel_rfl) (by kernel_rfl) (fun _ _ _ h => h) (Or.inl ⟨by rfl, fun Z => ?_⟩) ?_
              · go_simp
              refine any_one (fuel := 0) (i := 23) (by kernel_rfl) rfl rfl (fun Kk hK => ?_)
              obtain ⟨X7, hY⟩ : ∃ y, ((((((((((((X6.setCell ⟨g3, 0, none⟩ (.int .u8 (K : Int))).setCell ⟨g3, 1, none⟩ (.int .i64 n1)).setCell ⟨g3, 2, none⟩ (.int .i64 n2)).setCell ⟨g3, 3, none⟩ (.int .i64 n3)).setCell ⟨g3, 4, none⟩ (.int .i64 n4)).setCell ⟨g3, 5, none⟩ (.int .u8 0)).setCell ⟨g3, 6, none⟩ (.int .i64 0)).setCell ⟨g3, 7, none⟩ (.int .i64 0)).setCell ⟨g3, 8, none⟩ (.slice none 0 0)).setCell ⟨g3, 9, none⟩ (.slice none 0 0)).setCell ⟨g3, 10, none⟩ (.int .i64 0)).setCell ⟨g3, 11, none⟩ (.slice none 0 0)) = y := ⟨_, rfl⟩
              have hG : Blk X7 g3 [.int .u8 (K : Int), .int .i64 n1, .int .i64 n2, .int .i64 n3, .int .i64 n4, .int .u8 0, .int .i64 0, .int .i64 0, .slice none 0 0, .slice none 0 0, .int .i64 0, .slice none 0 0] 49 := by rw [← hY]; exact ((((((((((((hZ.set 0 (.int .u8 (K : Int))).set 1 (.int .i64 n1)).set 2 (.int .i64 n2)).set 3 (.int .i64 n3)).set 4 (.int .i64 n4)).set 5 (.int .u8 0)).set 6 (.int .i64 0)).set 7 (.int .i64 0)).set 8 (.slice none 0 0)).set 9 (.slice none 0 0)).set 10 (.int .i64 0)).set 11 (.slice none 0 0))
              have hfS : Fr (fun x => x = g3) X6 X7 := by rw [← hY]; exact ((((((((((((Fr.set (X := fun x => x = g3) X6 ⟨g3, 0, none⟩ _ rfl).trans (Fr.set (X := fun x => x = g3) _ ⟨g3, 1, none⟩ _ rfl)).trans (Fr.set (X := fun x => x = g3) _ ⟨g3, 2, none⟩ _ rfl)).trans (Fr.set (X := fun x => x = g3) _ ⟨g3, 3, none⟩ _ rfl)).trans (Fr.set (X := fun x => x = g3) _ ⟨g3, 4, none⟩ _ rfl)).trans (Fr.set (X := fun x => x = g3) _ ⟨g3, 5, none⟩ _ rfl)).trans (Fr.set (X := fun x => x = g3) _ ⟨g3, 6, none⟩ _ rfl)).trans (Fr.set (X := fun x => x = g3) _ ⟨g3, 7, none⟩ _ rfl)).trans (Fr.set (X := fun x => x = g3) _ ⟨g3, 8, none⟩ _ rfl)).trans (Fr.set (X := fun x => x = g3) _ ⟨g3, 9, none⟩ _ rfl)).trans (Fr.set (X := fun x => x = g3) _ ⟨g3, 10, none⟩ _ rfl)).trans (Fr.set (X := fun x => x = g3) _ ⟨g3, 11, none⟩ _ rfl))
              have y0 := hZ.cell (j := 0) rfl; have y1 := hZ.cell (j := 1) rfl; have y2 := hZ.cell (j := 2) rfl; have y3 := hZ.cell (j := 3) rfl; have y4 := hZ.cell (j := 4) rfl; have y5 := hZ.cell (j := 5) rfl; have y6 := hZ.cell (j := 6) rfl; have y7 := hZ.cell (j := 7) rfl; have y8 := hZ.cell (j := 8) rfl; have y9 := hZ.cell (j := 9) rfl; have y10 := hZ.cell (j := 10) rfl; have y11 := hZ.cell (j := 11) rfl
              have f0 := hZ.frozen 0; have f1 := hZ.frozen 1; have f2 := hZ.frozen 2; have f3 := hZ.frozen 3; have f4 := hZ.frozen 4; have f5 := hZ.frozen 5; have f6 := hZ.frozen 6; have f7 := hZ.frozen 7; have f8 := hZ.frozen 8; have f9 := hZ.frozen 9; have f10 := hZ.frozen 10; have f11 := hZ.frozen 11
              have hBy := hBx.fr hfS (fun h => by have h : b = g3 := h; omega)
              have hry := hrx.fr hfS (fun hne p hp h => by have h : p.block = g3 := h; have := HLo.out p hp; omega)
              have hFy := (HF0.out.trans hFx).trans' hfS (fun x hx => .inr (by have hx : x = g3 := hx; have := Hg2.out; omega))
              have hRy := (HR0.out.fr hFx (fun h => by have h : g2 = b := h; omega)).fr hfS (fun h => by have h : g2 = g3 := h; omega)
              have hzS := hfS.size
              have HY := hide hY
              clear hY hfS
              go_simp
              rw [HY.out]
              clear y0 f0 y1 f1 y2 f2 y3 f3 y4 f4 y5 f5 y6 f6 y7 f7 y8 f8 y9 f9 y10 f10 y11 f11
              refine hK _ _ ?_
              clear hK Kk
              refine wpAny_done (by kernel_rfl) ?_ _
              try simp only [Act.put, List.setIfInBounds_toArray, List.set_cons_zero, List.set_cons_succ, List.getElem_toArray, List.getElem_cons_zero, List.getElem_cons_succ]
              have hgX := hG.lt
              go_wp2_with fail
              go_meet
              exact ⟨g3, rfl, hgb3, hG, hBy, hRy, hry, hFy, hgX⟩
          · obtain ⟨X4, hY⟩ : ∃ y, X3.alloc (.cells #[.int .u8 0, .int .i64 0, .int .i64 0, .int .i64 0, .int .i64 0, .int .u8 0, .int .i64 0, .int .i64 0, .slice none 0 0, .slice none 0 0, .int .i64 0, .slice none 0 0] 49) = y := ⟨_, rfl⟩
            obtain ⟨g3, hg3⟩ : ∃ y, X3.heap.size = y := ⟨_, rfl⟩
            have hZ : Blk X4 g3 [.int .u8 0, .int .i64 0, .int .i64 0, .int .i64 0, .int .i64 0, .int .u8 0, .int .i64 0, .int .i64 0, .slice none 0 0, .slice none 0 0, .int .i64 0, .slice none 0 0] 49 := by rw [← hY, ← hg3]; exact Blk.new X3 _ _
            have hst : Below X3.heap.size X3 X4 := by rw [← hY]; exact (Below.refl _ _).alloc (Nat.le_refl _) _
            have hgb3 : w0.heap.size ≤ g3 := by rw [← hg3]; exact hFx.size
            replace hrx := hrx.below hst
            replace hBx := hBx.below hst
            replace hFx := hFx.trans (Fr.of_below hst)
            have hz4 := hst.size
            have HY := hide hY
            have Hg3 := hide hg3
            clear hY hg3 hst
            go_simp
            rw [HY.out, Hg3.out]
            refine hK _ _ ?_
            clear hK Kk
            refine any_one (fuel := 3) (i := 16) (by kernel_rfl) rfl rfl (fun Kk hK => ?_)
            have HC := lintw_any b 125 A m c bs 17 8 X4 hBx Hm.out hmc hm8 hc hrx (by omega) (by omega) (by omega)
            rw [Hn3.out] at HC
            go_simp
            refine HC.mono ?_
            rintro e' X5 ⟨rfl, hBy, hFy⟩
            replace hrx := hrx.fr hFy HAb.out
            replace hFx := hFx.trans hFy
            have hz5 := hFy.size
            have hBx : Blk X5 b [.slice A m c, .int .i64 ((25 : Nat) : Int)] 125 := hBy
            replace hZ := hZ.fr hFy (fun h => by have h : g3 = b := h; omega)
            clear HC hFy hBy
            refine hK _ _ ?_
            clear hK Kk
            refine any_one (fuel := 2) (i := 20) (by kernel_rfl) rfl rfl (fun Kk hK => ?_)
            have HC := lintw_any b 125 A m c bs 25 8 X5 hBx Hm.out hmc hm8 hc hrx (by omega) (by omega) (by omega)
            rw [Hn4.out] at HC
            go_simp
            refine HC.mono ?_
            rintro e' X6 ⟨rfl, hBy, hFy⟩
            replace hrx := hrx.fr hFy HAb.out
            replace hFx := hFx.trans hFy
            have hz6 := hFy.size
            have hBx : Blk X6 b [.slice A m c, .int .i64 ((33 : Nat) : Int)] 125 := hBy
            replace hZ := hZ.fr hFy (fun h => by have h : g3 = b := h; omega)
            clear HC hFy hBy
            refine hK _ _ ?_
            clear hK Kk
            refine wpAny_take (fuel := 1) (i := 21) (v := .agg #[.int .u8 (K : Int), .int .i64 n1, .int .i64 n2, .int .i64 n3, .int .i64 n4, .int .u8 0, .int .i64 0, .int .i64 0, .slice none 0 0, .slice none 0 0, .int .i64 0, .slice none 0 0]) rfl (by kernel_rfl) (by kernel_rfl) (by kernel_rfl) (fun _ _ _ h => h) (Or.inl ⟨by rfl, fun Z => ?_⟩) ?_
            · go_simp
            refine any_one (fuel := 0) (i := 23) (by kernel_rfl) rfl rfl (fun Kk hK => ?_)
            obtain ⟨X7, hY⟩ : ∃ y, ((((((((((((X6.setCell ⟨g3, 0, none⟩ (.int .u8 (K : Int))).setCell ⟨g3, 1, none⟩ (.int .i64 n1)).setCell ⟨g3, 2, none⟩ (.int .i64 n2)).setCell ⟨g3, 3, none⟩ (.int .i64 n3)).setCell ⟨g3, 4, none⟩ (.int .i64 n4)).setCell ⟨g3, 5, none⟩ (.int .u8 0)).setCell ⟨g3, 6, none⟩ (.int .i64 0)).setCell ⟨g3, 7, none⟩ (.int .i64 0)).setCell ⟨g3, 8, none⟩ (.slice none 0 0)).setCell ⟨g3, 9, none⟩ (.slice none 0 0)).setCell ⟨g3, 10, none⟩ (.int .i64 0)).setCell ⟨g3, 11, none⟩ (.slice none 0 0)) = y := ⟨_, rfl⟩
            have hG : Blk X7 g3 [.int .u8 (K : Int), .int .i64 n1, .int .i64 n2, .int .i64 n3, .int .i64 n4, .int .u8 0, .int .i64 0, .int .i64 0, .slice none 0 0, .slice none 0 0, .int .i64 0, .slice none 0 0] 49 := by rw [← hY]; exact ((((((((((((hZ.set 0 (.int .u8 (K : Int))).set 1 (.int .i64 n1)).set 2 (.int .i64 n2)).set 3 (.int .i64 n3)).set 4 (.int .i64 n4)).set 5 (.int .u8 0)).set 6 (.int .i64 0)).set 7 (.int .i64 0)).set 8 (.slice none 0 0)).set 9 (.slice none 0 0)).set 10 (.int .i64 0)).set 11 (.slice none 0 0))
            have hfS : Fr (fun x => x = g3) X6 X7 := by rw [← hY]; exact ((((((((((((Fr.set (X := fun x => x = g3) X6 ⟨g3, 0, none⟩ _ rfl).trans (Fr.set (X := fun x => x = g3) _ ⟨g3, 1, none⟩ _ rfl)).trans (Fr.set (X := fun x => x = g3) _ ⟨g3, 2, none⟩ _ rfl)).trans (Fr.set (X := fun x => x = g3) _ ⟨g3, 3, none⟩ _ rfl)).trans (Fr.set (X := fun x => x = g3) _ ⟨g3, 4, none⟩ _ rfl)).trans (Fr.set (X := fun x => x = g3) _ ⟨g3, 5, none⟩ _ rfl)).trans (Fr.set (X := fun x => x = g3) _ ⟨g3, 6, none⟩ _ rfl)).trans (Fr.set (X := fun x => x = g3) _ ⟨g3, 7, none⟩ _ rfl)).trans (Fr.set (X := fun x => x = g3) _ ⟨g3, 8, none⟩ _ rfl)).trans (Fr.set (X := fun x => x = g3) _ ⟨g3, 9, none⟩ _ rfl)).trans (Fr.set (X := fun x => x = g3) _ ⟨g3, 10, none⟩ _ rfl)).trans (Fr.set (X := fun x => x = g3) _ ⟨g3, 11, none⟩ _ rfl))
            have y0 := hZ.cell (j := 0) rfl; have y1 := hZ.cell (j := 1) rfl; have y2 := hZ.cell (j := 2) rfl; have y3 := hZ.cell (j := 3) rfl; have y4 := hZ.cell (j := 4) rfl; have y5 := hZ.cell (j := 5) rfl; have y6 := hZ.cell (j := 6) rfl; have y7 := hZ.cell (j := 7) rfl; have y8 := hZ.cell (j := 8) rfl; have y9 := hZ.cell (j := 9) rfl; have y10 := hZ.cell (j := 10) rfl; have y11 := hZ.cell (j := 11) rfl
            have f0 := hZ.frozen 0; have f1 := hZ.frozen 1; have f2 := hZ.frozen 2; have f3 := hZ.frozen 3; have f4 := hZ.frozen 4; have f5 := hZ.frozen 5; have f6 := hZ.frozen 6; have f7 := hZ.frozen 7; have f8 := hZ.frozen 8; have f9 := hZ.frozen 9; have f10 := hZ.frozen 10; have f11 := hZ.frozen 11
            have hBy := hBx.fr hfS (fun h => by have h : b = g3 := h; omega)
            have hry := hrx.fr hfS (fun hne p hp h => by have h : p.block = g3 := h; have := HLo.out p hp; omega)
            have hFy := (HF0.out.trans hFx).trans' hfS (fun x hx => .inr (by have hx : x = g3 := hx; have := Hg2.out; omega))
            have hRy := (HR0.out.fr hFx (fun h => by have h : g2 = b := h; omega)).fr hfS (fun h => by have h : g2 = g3 := h; omega)
            have hzS := hfS.size
            have HY := hide hY
            clear hY hfS
            go_simp
            rw [HY.out]
            clear y0 f0 y1 f1 y2 f2 y3 f3 y4 f4 y5 f5 y6 f6 y7 f7 y8 f8 y9 f9 y10 f10 y11 f11
            refine hK _ _ ?_
            clear hK Kk
            refine wpAny_done (by kernel_rfl) ?_ _
            try simp only [Act.put, List.setIfInBounds_toArray, List.set_cons_zero, List.set_cons_succ, List.getElem_toArray, List.getElem_cons_zero, List.getElem_cons_succ]
            have hgX := hG.lt
            go_wp2_with fail
            go_meet
            exact ⟨g3, rfl, hgb3, hG, hBy, hRy, hry, hFy, hgX⟩
        · obtain ⟨X3, hY⟩ : ∃ y, X2.alloc (.cells #[.int .u8 0, .int .i64 0, .int .i64 0, .int .i64 0, .int .i64 0, .int .u8 0, .int .i64 0, .int .i64 0, .slice none 0 0, .slice none 0 0, .int .i64 0, .slice none 0 0] 49) = y := ⟨_, rfl⟩
          obtain ⟨g3, hg3⟩ : ∃ y, X2.heap.size = y := ⟨_, rfl⟩
          have hZ : Blk X3 g3 [.int .u8 0, .int .i64 0, .int .i64 0, .int .i64 0, .int .i64 0, .int .u8 0, .int .i64 0, .int .i64 0, .slice none 0 0, .slice none 0 0, .int .i64 0, .slice none 0 0] 49 := by rw [← hY, ← hg3]; exact Blk.new X2 _ _
          have hst : Below X2.heap.size X2 X3 := by rw [← hY]; exact (Below.refl _ _).alloc (Nat.le_refl _) _
          have hgb3 : w0.heap.size ≤ g3 := by rw [← hg3]; exact hFx.size
          replace hrx := hrx.below hst
          replace hBx := hBx.below hst
          replace hFx := hFx.trans (Fr.of_below hst)
          have hz3 := hst.size
          have HY := hide hY
          have Hg3 := hide hg3
          clear hY hg3 hst
          go_simp
          rw [HY.out, Hg3.out]
          refine hK _ _ ?_
          clear hK Kk
          refine any_one (fuel := 4) (i := 12) (by kernel_rfl) rfl rfl (fun Kk hK => ?_)
          have HC := lintw_any b 125 A m c bs 9 8 X3 hBx Hm.out hmc hm8 hc hrx (by omega) (by omega) (by omega)
          rw [Hn2.out] at HC
          go_simp
          refine HC.mono ?_
          rintro e' X4 ⟨rfl, hBy, hFy⟩
          replace hrx := hrx.fr hFy HAb.out
          replace hFx := hFx.trans hFy
          have hz4 := hFy.size
          have hBx : Blk X4 b [.slice A m c, .int .i64 ((17 : Nat) : Int)] 125 := hBy
          replace hZ := hZ.fr hFy (fun h => by have h : g3 = b := h; omega)
          clear HC hFy hBy
          refine hK _ _ ?_
          clear hK Kk
          refine any_one (fuel := 3) (i := 16) (by kernel_rfl) rfl rfl (fun Kk hK => ?_)
          have HC := lintw_any b 125 A m c bs 17 8 X4 hBx Hm.out hmc hm8 hc hrx (by omega) (by omega) (by omega)
          rw [Hn3.out] at HC
          go_simp
          refine HC.mono ?_
          rintro e' X5 ⟨rfl, hBy, hFy⟩
          replace hrx := hrx.fr hFy HAb.out
          replace hFx := hFx.trans hFy
          have hz5 := hFy.size
          have hBx : Blk X5 b [.slice A m c, .int .i64 ((25 : Nat) : Int)] 125 := hBy
          replace hZ := hZ.fr hFy (fun h => by have h : g3 = b := h; omega)
          clear HC hFy hBy
          refine hK _ _ ?_
          clear hK Kk
          refine any_one (fuel := 2) (i := 20) (by kernel_rfl) rfl rfl (fun Kk hK => ?_)
          have HC := lintw_any b 125 A m c bs 25 8 X5 hBx Hm.out hmc hm8 hc hrx (by omega) (by omega) (by omega)
          rw [Hn4.out] at HC
          go_simp
          refine HC.mono ?_
          rintro e' X6 ⟨rfl, hBy, hFy⟩
          replace hrx := hrx.fr hFy HAb.out
          replace hFx := hFx.trans hFy
          have hz6 := hFy.size
          have hBx : Blk X6 b [.slice A m c, .int .i64 ((33 : Nat) : Int)] 125 := hBy
          replace hZ := hZ.fr hFy (fun h => by have h : g3 = b := h; omega)
          clear HC hFy hBy
          refine hK _ _ ?_
          clear hK Kk
          refine wpAny_take (fuel := 1) (i := 21) (v := .agg #[.int .u8 (K : Int), .int .i64 n1, .int .i64 n2, .int .i64 n3, .int .i64 n4, .int .u8 0, .int .i64 0, .int .i64 0, .slice none 0 0, .slice none 0 0, .int .i64 0, .slice none 0 0]) rfl (by kernel_rfl) (by kernel_rfl) (by kernel_rfl) (fun _ _ _ h => h) (Or.inl ⟨by rfl, fun Z => ?_⟩) ?_
          · go_simp
          refine any_one (fuel := 0) (i := 23) (by kernel_rfl) rfl rfl (fun Kk hK => ?_)
          obtain ⟨X7, hY⟩ : ∃ y, ((((((((((((X6.setCell ⟨g3, 0, none⟩ (.int .u8 (K : Int))).setCell ⟨g3, 1, none⟩ (.int .i64 n1)).setCell ⟨g3, 2, none⟩ (.int .i64 n2)).setCell ⟨g3, 3, none⟩ (.int .i64 n3)).setCell ⟨g3, 4, none⟩ (.int .i64 n4)).setCell ⟨g3, 5, none⟩ (.int .u8 0)).setCell ⟨g3, 6, none⟩ (.int .i64 0)).setCell ⟨g3, 7, none⟩ (.int .i64 0)).setCell ⟨g3, 8, none⟩ (.slice none 0 0)).setCell ⟨g3, 9, none⟩ (.slice none 0 0)).setCell ⟨g3, 10, none⟩ (.int .i64 0)).setCell ⟨g3, 11, none⟩ (.slice none 0 0)) = y := ⟨_, rfl⟩
          have hG : Blk X7 g3 [.int .u8 (K : Int), .int .i64 n1, .int .i64 n2, .int .i64 n3, .int .i64 n4, .int .u8 0, .int .i64 0, .int .i64 0, .slice none 0 0, .slice none 0 0, .int .i64 0, .slice none 0 0] 49 := by rw [← hY]; exact ((((((((((((hZ.set 0 (.int .u8 (K : Int))).set 1 (.int .i64 n1)).set 2 (.int .i64 n2)).set 3 (.int .i64 n3)).set 4 (.int .i64 n4)).set 5 (.int .u8 0)).set 6 (.int .i64 0)).set 7 (.int .i64 0)).set 8 (.slice none 0 0)).set 9 (.slice none 0 0)).set 10 (.int .i64 0)).set 11 (.slice none 0 0))
          have hfS : Fr (fun x => x = g3) X6 X7 := by rw [← hY]; exact ((((((((((((Fr.set (X := fun x => x = g3) X6 ⟨g3, 0, none⟩ _ rfl).trans (Fr.set (X := fun x => x = g3) _ ⟨g3, 1, none⟩ _ rfl)).trans (Fr.set (X := fun x => x = g3) _ ⟨g3, 2, none⟩ _ rfl)).trans (Fr.set (X := fun x => x = g3) _ ⟨g3, 3, none⟩ _ rfl)).trans (Fr.set (X := fun x => x = g3) _ ⟨g3, 4, none⟩ _ rfl)).trans (Fr.set (X := fun x => x = g3) _ ⟨g3, 5, none⟩ _ rfl)).trans (Fr.set (X := fun x => x = g3) _ ⟨g3, 6, none⟩ _ rfl)).trans (Fr.set (X := fun x => x = g3) _ ⟨g3, 7, none⟩ _ rfl)).trans (Fr.set (X := fun x => x = g3) _ ⟨g3, 8, none⟩ _ rfl)).trans (Fr.set (X := fun x => x = g3) _ ⟨g3, 9, none⟩ _ rfl)).trans (Fr.set (X := fun x => x = g3) _ ⟨g3, 10, none⟩ _ rfl)).trans (Fr.set (X := fun x => x = g3) _ ⟨g3, 11, none⟩ _ rfl))
          have y0 := hZ.cell (j := 0) rfl; have y1 := hZ.cell (j := 1) rfl; have y2 := hZ.cell (j := 2) rfl; have y3 := hZ.cell (j := 3) rfl; have y4 := hZ.cell (j := 4) rfl; have y5 := hZ.cell (j := 5) rfl; have y6 := hZ.cell (j := 6) rfl; have y7 := hZ.cell (j := 7) rfl; have y8 := hZ.cell (j := 8) rfl; have y9 := hZ.cell (j := 9) rfl; have y10 := hZ.cell (j := 10) rfl; have y11 := hZ.cell (j := 11) rfl
          have f0 := hZ.frozen 0; have f1 := hZ.frozen 1; have f2 := hZ.frozen 2; have f3 := hZ.frozen 3; have f4 := hZ.frozen 4; have f5 := hZ.frozen 5; have f6 := hZ.frozen 6; have f7 := hZ.frozen 7; have f8 := hZ.frozen 8; have f9 := hZ.frozen 9; have f10 := hZ.frozen 10; have f11 := hZ.frozen 11
          have hBy := hBx.fr hfS (fun h => by have h : b = g3 := h; omega)
          have hry := hrx.fr hfS (fun hne p hp h => by have h : p.block = g3 := h; have := HLo.out p hp; omega)
          have hFy := (HF0.out.trans hFx).trans' hfS (fun x hx => .inr (by have hx : x = g3 := hx; have := Hg2.out; omega))
          have hRy := (HR0.out.fr hFx (fun h => by have h : g2 = b := h; omega)).fr hfS (fun h => by have h : g2 = g3 := h; omega)
          have hzS := hfS.size
          have HY := hide hY
          clear hY hfS
          go_simp
          rw [HY.out]
          clear y0 f0 y1 f1 y2 f2 y3 f3 y4 f4 y5 f5 y6 f6 y7 f7 y8 f8 y9 f9 y10 f10 y11 f11
          refine hK _ _ ?_
          clear hK Kk
          refine wpAny_done (by kernel_rfl) ?_ _
          try simp only [Act.put, List.setIfInBounds_toArray, List.set_cons_zero, List.set_cons_succ, List.getElem_toArray, List.getElem_cons_zero, List.getElem_cons_succ]
          have hgX := hG.lt
          go_wp2_with fail
          go_meet
          exact ⟨g3, rfl, hgb3, hG, hBy, hRy, hry, hFy, hgX⟩
      · obtain ⟨X2, hY⟩ : ∃ y, X1.alloc (.cells #[.int .u8 0, .int .i64 0, .int .i64 0, .int .i64 0, .int .i64 0, .int .u8 0, .int .i64 0, .int .i64 0, .slice none 0 0, .slice none 0 0, .int .i64 0, .slice none 0 0] 49) = y := ⟨_, rfl⟩
        obtain ⟨g3, hg3⟩ : ∃ y, X1.heap.size = y := ⟨_, rfl⟩
        have hZ : Blk X2 g3 [.int .u8 0, .int .i64 0, .int .i64 0, .int .i64 0, .int .i64 0, .int .u8 0, .int .i64 0, .int .i64 0, .slice none 0 0, .slice none 0 0, .int .i64 0, .slice none 0 0] 49 := by rw [← hY, ← hg3]; exact Blk.new X1 _ _
        have hst : Below X1.heap.size X1 X2 := by rw [← hY]; exact (Below.refl _ _).alloc (Nat.le_refl _) _
        have hgb3 : w0.heap.size ≤ g3 := by rw [← hg3]; exact hFx.size
        replace hrx := hrx.below hst
        replace hBx := hBx.below hst
        replace hFx := hFx.trans (Fr.of_below hst)
        have hz2 := hst.size
        have HY := hide hY
        have Hg3 := hide hg3
        clear hY hg3 hst
        go_simp
        rw [HY.out, Hg3.out]
        refine hK _ _ ?_
        clear hK Kk
        refine any_one (fuel := 5) (i := 8) (by kernel_rfl) rfl rfl (fun Kk hK => ?_)
        have HC := lintw_any b 125 A m c bs 1 8 X2 hBx Hm.out hmc hm8 hc hrx (by omega) (by omega) (by omega)
        rw [Hn1.out] at HC
        go_simp
        refine HC.mono ?_
        rintro e' X3 ⟨rfl, hBy, hFy⟩
        replace hrx := hrx.fr hFy HAb.out
        replace hFx := hFx.trans hFy
        have hz3 := hFy.size
        have hBx : Blk X3 b [.slice A m c, .int .i64 ((9 : Nat) : Int)] 125 := hBy
        replace hZ := hZ.fr hFy (fun h => by have h : g3 = b := h; omega)
        clear HC hFy hBy
        refine hK _ _ ?_
        clear hK Kk
        refine any_one (fuel := 4) (i := 12) (by kernel_rfl) rfl rfl (fun Kk hK => ?_)
        have HC := lintw_any b 125 A m c bs 9 8 X3 hBx Hm.out hmc hm8 hc hrx (by omega) (by omega) (by omega)
        rw [Hn2.out] at HC
        go_simp
        refine HC.mono ?_
        rintro e' X4 ⟨rfl, hBy, hFy⟩
        replace hrx := hrx.fr hFy HAb.out
        replace hFx := hFx.trans hFy
        have hz4 := hFy.size
        have hBx : Blk X4 b [.slice A m c, .int .i64 ((17 : Nat) : Int)] 125 := hBy
        replace hZ := hZ.fr hFy (fun h => by have h : g3 = b := h; omega)
        clear HC hFy hBy
        refine hK _ _ ?_
        clear hK Kk
        refine any_one (fuel := 3) (i := 16) (by kernel_rfl) rfl rfl (fun Kk hK => ?_)
        have HC := lintw_any b 125 A m c bs 17 8 X4 hBx Hm.out hmc hm8 hc hrx (by omega) (by omega) (by omega)
        rw [Hn3.out] at HC
        go_simp
        refine HC.mono ?_
        rintro e' X5 ⟨rfl, hBy, hFy⟩
        replace hrx := hrx.fr hFy HAb.out
        replace hFx := hFx.trans hFy
        have hz5 := hFy.size
        have hBx : Blk X5 b [.slice A m c, .int .i64 ((25 : Nat) : Int)] 125 := hBy
        replace hZ := hZ.fr hFy (fun h => by have h : g3 = b := h; omega)
        clear HC hFy hBy
        refine hK _ _ ?_
        clear hK Kk
        refine any_one (fuel := 2) (i := 20) (by kernel_rfl) rfl rfl (fun Kk hK => ?_)
        have HC := lintw_any b 125 A m c bs 25 8 X5 hBx Hm.out hmc hm8 hc hrx (by omega) (by omega) (by omega)
        rw [Hn4.out] at HC
        go_simp
        refine HC.mono ?_
        rintro e' X6 ⟨rfl, hBy, hFy⟩
        replace hrx := hrx.fr hFy HAb.out
        replace hFx := hFx.trans hFy
        have hz6 := hFy.size
        have hBx : Blk X6 b [.slice A m c, .int .i64 ((33 : Nat) : Int)] 125 := hBy
        replace hZ := hZ.fr hFy (fun h => by have h : g3 = b := h; omega)
        clear HC hFy hBy
        refine hK _ _ ?_
        clear hK Kk
        refine wpAny_take (fuel := 1) (i := 21) (v := .agg #[.int .u8 (K : Int), .int .i64 n1, .int .i64 n2, .int .i64 n3, .int .i64 n4, .int .u8 0, .int .i64 0, .int .i64 0, .slice none 0 0, .slice none 0 0, .int .i64 0, .slice none 0 0]) rfl (by kernel_rfl) (by kernel_rfl) (by kernel_rfl) (fun _ _ _ h => h) (Or.inl ⟨by rfl, fun Z => ?_⟩) ?_
        · go_simp
        refine any_one (fuel := 0) (i := 23) (by kernel_rfl) rfl rfl (fun Kk hK => ?_)
        obtain ⟨X7, hY⟩ : ∃ y, ((((((((((((X6.setCell ⟨g3, 0, none⟩ (.int .u8 (K : Int))).setCell ⟨g3, 1, none⟩ (.int .i64 n1)).setCell ⟨g3, 2, none⟩ (.int .i64 n2)).setCell ⟨g3, 3, none⟩ (.int .i64 n3)).setCell ⟨g3, 4, none⟩ (.int .i64 n4)).setCell ⟨g3, 5, none⟩ (.int .u8 0)).setCell ⟨g3, 6, none⟩ (.int .i64 0)).setCell ⟨g3, 7, none⟩ (.int .i64 0)).setCell ⟨g3, 8, none⟩ (.slice none 0 0)).setCell ⟨g3, 9, none⟩ (.slice none 0 0)).setCell ⟨g3, 10, none⟩ (.int .i64 0)).setCell ⟨g3, 11, none⟩ (.slice none 0 0)) = y := ⟨_, rfl⟩
        have hG : Blk X7 g3 [.int .u8 (K : Int), .int .i64 n1, .int .i64 n2, .int .i64 n3, .int .i64 n4, .int .u8 0, .int .i64 0, .int .i64 0, .slice none 0 0, .slice none 0 0, .int .i64 0, .slice none 0 0] 49 := by rw [← hY]; exact ((((((((((((hZ.set 0 (.int .u8 (K : Int))).set 1 (.int .i64 n1)).set 2 (.int .i64 n2)).set 3 (.int .i64 n3)).set 4 (.int .i64 n4)).set 5 (.int .u8 0)).set 6 (.int .i64 0)).set 7 (.int .i64 0)).set 8 (.slice none 0 0)).set 9 (.slice none 0 0)).set 10 (.int .i64 0)).set 11 (.slice none 0 0))
        have hfS : Fr (fun x => x = g3) X6 X7 := by rw [← hY]; exact ((((((((((((Fr.set (X := fun x => x = g3) X6 ⟨g3, 0, none⟩ _ rfl).trans (Fr.set (X := fun x => x = g3) _ ⟨g3, 1, none⟩ _ rfl)).trans (Fr.set (X := fun x => x = g3) _ ⟨g3, 2, none⟩ _ rfl)).trans (Fr.set (X := fun x => x = g3) _ ⟨g3, 3, none⟩ _ rfl)).trans (Fr.set (X := fun x => x = g3) _ ⟨g3, 4, none⟩ _ rfl)).trans (Fr.set (X := fun x => x = g3) _ ⟨g3, 5, none⟩ _ rfl)).trans (Fr.set (X := fun x => x = g3) _ ⟨g3, 6, none⟩ _ rfl)).trans (Fr.set (X := fun x => x = g3) _ ⟨g3, 7, none⟩ _ rfl)).trans (Fr.set (X := fun x => x = g3) _ ⟨g3, 8, none⟩ _ rfl)).trans (Fr.set (X := fun x => x = g3) _ ⟨g3, 9, none⟩ _ rfl)).trans (Fr.set (X := fun x => x = g3) _ ⟨g3, 10, none⟩ _ rfl)).trans (Fr.set (X := fun x => x = g3) _ ⟨g3, 11, none⟩ _ rfl))
        have y0 := hZ.cell (j := 0) rfl; have y1 := hZ.cell (j := 1) rfl; have y2 := hZ.cell (j := 2) rfl; have y3 := hZ.cell (j := 3) rfl; have y4 := hZ.cell (j := 4) rfl; have y5 := hZ.cell (j := 5) rfl; have y6 := hZ.cell (j := 6) rfl; have y7 := hZ.cell (j := 7) rfl; have y8 := hZ.cell (j := 8) rfl; have y9 := hZ.cell (j := 9) rfl; have y10 := hZ.cell (j := 10) rfl; have y11 := hZ.cell (j := 11) rfl
        have f0 := hZ.frozen 0; have f1 := hZ.frozen 1; have f2 := hZ.frozen 2; have f3 := hZ.frozen 3; have f4 := hZ.frozen 4; have f5 := hZ.frozen 5; have f6 := hZ.frozen 6; have f7 := hZ.frozen 7; have f8 := hZ.frozen 8; have f9 := hZ.frozen 9; have f10 := hZ.frozen 10; have f11 := hZ.frozen 11
        have hBy := hBx.fr hfS (fun h => by have h : b = g3 := h; omega)
        have hry := hrx.fr hfS (fun hne p hp h => by have h : p.block = g3 := h; have := HLo.out p hp; omega)
        have hFy := (HF0.out.trans hFx).trans' hfS (fun x hx => .inr (by have hx : x = g3 := hx; have := Hg2.out; omega))
        have hRy := (HR0.out.fr hFx (fun h => by have h : g2 = b := h; omega)).fr hfS (fun h => by have h : g2 = g3 := h; omega)
        have hzS := hfS.size
        have HY := hide hY
        clear hY hfS
        go_simp
        rw [HY.out]
        clear y0 f0 y1 f1 y2 f2 y3 f3 y4 f4 y5 f5 y6 f6 y7 f7 y8 f8 y9 f9 y10 f10 y11 f11
        refine hK _ _ ?_
        clear hK Kk
        refine wpAny_done (by kernel_rfl) ?_ _
        try simp only [Act.put, List.setIfInBounds_toArray, List.set_cons_zero, List.set_cons_succ, List.getElem_toArray, List.getElem_cons_zero, List.getElem_cons_succ]
        have hgX := hG.lt
        go_wp2_with fail
        go_meet
        exact ⟨g3, rfl, hgb3, hG, hBy, hRy, hry, hFy, hgX⟩
    · obtain ⟨X1, hY⟩ : ∃ y, X0.alloc (.cells #[.int .u8 0, .int .i64 0, .int .i64 0, .int .i64 0, .int .i64 0, .int .u8 0, .int .i64 0, .int .i64 0, .slice none 0 0, .slice none 0 0, .int .i64 0, .slice none 0 0] 49) = y := ⟨_, rfl⟩
      obtain ⟨g3, hg3⟩ : ∃ y, X0.heap.size = y := ⟨_, rfl⟩
      have hZ : Blk X1 g3 [.int .u8 0, .int .i64 0, .int .i64 0, .int .i64 0, .int .i64 0, .int .u8 0, .int .i64 0, .int .i64 0, .slice none 0 0, .slice none 0 0, .int .i64 0, .slice none 0 0] 49 := by rw [← hY, ← hg3]; exact Blk.new X0 _ _
      have hst : Below X0.heap.size X0 X1 := by rw [← hY]; exact (Below.refl _ _).alloc (Nat.le_refl _) _
      have hgb3 : w0.heap.size ≤ g3 := by rw [← hg3]; exact hFx.size
      replace hrx := hrx.below hst
      replace hBx := hBx.below hst
      replace hFx := hFx.trans (Fr.of_below hst)
      have hz1 := hst.size
      have HY := hide hY
      have Hg3 := hide hg3
      clear hY hg3 hst
      go_simp
      rw [HY.out, Hg3.out]
      refine hK _ _ ?_
      clear hK Kk
      refine any_one (fuel := 7) (i := 3) (by kernel_rfl) rfl rfl (fun Kk hK => ?_)
      have HC := lnumw_any b 125 A m c bs 0 1 X1 hBx Hm.out hmc hm8 hc hrx (by omega) (by omega) (by omega)
      rw [HK.out] at HC
      go_simp
      refine HC.mono ?_
      rintro e' X2 ⟨rfl, hBy, hFy⟩
      replace hrx := hrx.fr hFy HAb.out
      replace hFx := hFx.trans hFy
      have hz2 := hFy.size
      have hBx : Blk X2 b [.slice A m c, .int .i64 ((1 : Nat) : Int)] 125 := hBy
      replace hZ := hZ.fr hFy (fun h => by have h : g3 = b := h; omega)
      clear HC hFy hBy
      refine hK _ _ ?_
      clear hK Kk
      refine wpAny_take (fuel := 6) (i := 4) (v := .int .u8 (K : Int)) rfl (by kernel_rfl) (by kernel_rfl) (by kernel_rfl) (fun _ _ _ h => h) (Or.inl ⟨by rfl, fun Z => ?_⟩) ?_
      · go_simp
      refine any_one (fuel := 5) (i := 8) (by kernel_rfl) rfl rfl (fun Kk hK => ?_)
      have HC := lintw_any b 125 A m c bs 1 8 X2 hBx Hm.out hmc hm8 hc hrx (by omega) (by omega) (by omega)
      rw [Hn1.out] at HC
      go_simp
      refine HC.mono ?_
      rintro e' X3 ⟨rfl, hBy, hFy⟩
      replace hrx := hrx.fr hFy HAb.out
      replace hFx := hFx.trans hFy
      have hz3 := hFy.size
      have hBx : Blk X3 b [.slice A m c, .int .i64 ((9 : Nat) : Int)] 125 := hBy
      replace hZ := hZ.fr hFy (fun h => by have h : g3 = b := h; omega)
      clear HC hFy hBy
      refine hK _ _ ?_
      clear hK Kk
      refine any_one (fuel := 4) (i := 12) (by kernel_rfl) rfl rfl (fun Kk hK => ?_)
      have HC := lintw_any b 125 A m c bs 9 8 X3 hBx Hm.out hmc hm8 hc hrx (by omega) (by omega) (by omega)
      rw [Hn2.out] at HC
      go_simp
      refine HC.mono ?_
      rintro e' X4 ⟨rfl, hBy, hFy⟩
      replace hrx := hrx.fr hFy HAb.out
      replace hFx := hFx.trans hFy
      have hz4 := hFy.size
      have hBx : Blk X4 b [.slice A m c, .int .i64 ((17 : Nat) : Int)] 125 := hBy
      replace hZ := hZ.fr hFy (fun h => by have h : g3 = b := h; omega)
      clear HC hFy hBy
      refine hK _ _ ?_
      clear hK Kk
      refine any_one (fuel := 3) (i := 16) (by kernel_rfl) rfl rfl (fun Kk hK => ?_)
      have HC := lintw_any b 125 A m c bs 17 8 X4 hBx Hm.out hmc hm8 hc hrx (by omega) (by omega) (by omega)
      rw [Hn3.out] at HC
      go_simp
      refine HC.mono ?_
      rintro e' X5 ⟨rfl, hBy, hFy⟩
      replace hrx := hrx.fr hFy HAb.out
      replace hFx := hFx.trans hFy
      have hz5 := hFy.size
      have hBx : Blk X5 b [.slice A m c, .int .i64 ((25 : Nat) : Int)] 125 := hBy
      replace hZ := hZ.fr hFy (fun h => by have h : g3 = b := h; omega)
      clear HC hFy hBy
      refine hK _ _ ?_
      clear hK Kk
      refine any_one (fuel := 2) (i := 20) (by kernel_rfl) rfl rfl (fun Kk hK => ?_)
      have HC := lintw_any b 125 A m c bs 25 8 X5 hBx Hm.out hmc hm8 hc hrx (by omega) (by omega) (by omega)
      rw [Hn4.out] at HC
      go_simp
      refine HC.mono ?_
      rintro e' X6 ⟨rfl, hBy, hFy⟩
      replace hrx := hrx.fr hFy HAb.out
      replace hFx := hFx.trans hFy
      have hz6 := hFy.size
      have hBx : Blk X6 b [.slice A m c, .int .i64 ((33 : Nat) : Int)] 125 := hBy
      replace hZ := hZ.fr hFy (fun h => by have h : g3 = b := h; omega)
      clear HC hFy hBy
      refine hK _ _ ?_
      clear hK Kk
      refine wpAny_take (fuel := 1) (i := 21) (v := .agg #[.int .u8 (K : Int), .int .i64 n1, .int .i64 n2, .int .i64 n3, .int .i64 n4, .int .u8 0, .int .i64 0, .int .i64 0, .slice none 0 0, .slice none 0 0, .int .i64 0, .slice none 0 0]) rfl (by kernel_rfl) (by kernel_rfl) (by kernel_rfl) (fun _ _ _ h => h) (Or.inl ⟨by rfl, fun Z => ?_⟩) ?_
      · go_simp
      refine any_one (fuel := 0) (i := 23) (by kernel_rfl) rfl rfl (fun Kk hK => ?_)
      obtain ⟨X7, hY⟩ : ∃ y, ((((((((((((X6.setCell ⟨g3, 0, none⟩ (.int .u8 (K : Int))).setCell ⟨g3, 1, none⟩ (.int .i64 n1)).setCell ⟨g3, 2, none⟩ (.int .i64 n2)).setCell ⟨g3, 3, none⟩ (.int .i64 n3)).setCell ⟨g3, 4, none⟩ (.int .i64 n4)).setCell ⟨g3, 5, none⟩ (.int .u8 0)).setCell ⟨g3, 6, none⟩ (.int .i64 0)).setCell ⟨g3, 7, none⟩ (.int .i64 0)).setCell ⟨g3, 8, none⟩ (.slice none 0 0)).setCell ⟨g3, 9, none⟩ (.slice none 0 0)).setCell ⟨g3, 10, none⟩ (.int .i64 0)).setCell ⟨g3, 11, none⟩ (.slice none 0 0)) = y := ⟨_, rfl⟩
      have hG : Blk X7 g3 [.int .u8 (K : Int), .int .i64 n1, .int .i64 n2, .int .i64 n3, .int .i64 n4, .int .u8 0, .int .i64 0, .int .i64 0, .slice none 0 0, .slice none 0 0, .int .i64 0, .slice none 0 0] 49 := by rw [← hY]; exact ((((((((((((hZ.set 0 (.int .u8 (K : Int))).set 1 (.int .i64 n1)).set 2 (.int .i64 n2)).set 3 (.int .i64 n3)).set 4 (.int .i64 n4)).set 5 (.int .u8 0)).set 6 (.int .i64 0)).set 7 (.int .i64 0)).set 8 (.slice none 0 0)).set 9 (.slice none 0 0)).set 10 (.int .i64 0)).set 11 (.slice none 0 0))
      have hfS : Fr (fun x => x = g3) X6 X7 := by rw [← hY]; exact ((((((((((((Fr.set (X := fun x => x = g3) X6 ⟨g3, 0, none⟩ _ rfl).trans (Fr.set (X := fun x => x = g3) _ ⟨g3, 1, none⟩ _ rfl)).trans (Fr.set (X := fun x => x = g3) _ ⟨g3, 2, none⟩ _ rfl)).trans (Fr.set (X := fun x => x = g3) _ ⟨g3, 3, none⟩ _ rfl)).trans (Fr.set (X := fun x => x = g3) _ ⟨g3, 4, none⟩ _ rfl)).trans (Fr.set (X := fun x => x = g3) _ ⟨g3, 5, none⟩ _ rfl)).trans (Fr.set (X := fun x => x = g3) _ ⟨g3, 6, none⟩ _ rfl)).trans (Fr.set (X := fun x => x = g3) _ ⟨g3, 7, none⟩ _ rfl)).trans (Fr.set (X := fun x => x = g3) _ ⟨g3, 8, none⟩ _ rfl)).trans (Fr.set (X := fun x => x = g3) _ ⟨g3, 9, none⟩ _ rfl)).trans (Fr.set (X := fun x => x = g3) _ ⟨g3, 10, none⟩ _ rfl)).trans (Fr.set (X := fun x => x = g3) _ ⟨g3, 11, none⟩ _ rfl))
      have y0 := hZ.cell (j := 0) rfl; have y1 := hZ.cell (j := 1) rfl; have y2 := hZ.cell (j := 2) rfl; have y3 := hZ.cell (j := 3) rfl; have y4 := hZ.cell (j := 4) rfl; have y5 := hZ.cell (j := 5) rfl; have y6 := hZ.cell (j := 6) rfl; have y7 := hZ.cell (j := 7) rfl; have y8 := hZ.cell (j := 8) rfl; have y9 := hZ.cell (j := 9) rfl; have y10 := hZ.cell (j := 10) rfl; have y11 := hZ.cell (j := 11) rfl
      have f0 := hZ.frozen 0; have f1 := hZ.frozen 1; have f2 := hZ.frozen 2; have f3 := hZ.frozen 3; have f4 := hZ.frozen 4; have f5 := hZ.frozen 5; have f6 := hZ.frozen 6; have f7 := hZ.frozen 7; have f8 := hZ.frozen 8; have f9 := hZ.frozen 9; have f10 := hZ.frozen 10; have f11 := hZ.frozen 11
      have hBy := hBx.fr hfS (fun h => by have h : b = g3 := h; omega)
      have hry := hrx.fr hfS (fun hne p hp h => by have h : p.block = g3 := h; have := HLo.out p hp; omega)
      have hFy := (HF0.out.trans hFx).trans' hfS (fun x hx => .inr (by have hx : x = g3 := hx; have := Hg2.out; omega))
      have hRy := (HR0.out.fr hFx (fun h => by have h : g2 = b := h; omega)).fr hfS (fun h => by have h : g2 = g3 := h; omega)
      have hzS := hfS.size
      have HY := hide hY
      clear hY hfS
      go_simp
      rw [HY.out]
      clear y0 f0 y1 f1 y2 f2 y3 f3 y4 f4 y5 f5 y6 f6 y7 f7 y8 f8 y9 f9 y10 f10 y11 f11
      refine hK _ _ ?_
      clear hK Kk
      refine wpAny_done (by kernel_rfl) ?_ _
      try simp only [Act.put, List.setIfInBounds_toArray, List.set_cons_zero, List.set_cons_succ, List.getElem_toArray, List.getElem_cons_zero, List.getElem_cons_succ]
      have hgX := hG.lt
      go_wp2_with fail
      go_meet
      exact ⟨g3, rfl, hgb3, hG, hBy, hRy, hry, hFy, hgX⟩
  case rest =>
    obtain ⟨g3, rfl, hg3w, hG, hB, hR, hr, hFX, hg3z⟩ := hcut
    rename World => wr
    have x0 := hG.cell (j := 0) rfl
    have hbz := hB.lt
    by_cases hK1 : K = 1
    · have hq1 : ((K : Int) == 1) = true := by simpa using (show (K : Int) = 1 by omega)
      have hK2 : K ≠ 2 := by omega
      have HRE := hide (lrest_any b 125 A m c 33 wr hB (by omega) hmc)
      obtain ⟨r, hrr⟩ : ∃ y, bs.drop 33 = y := ⟨_, rfl⟩
      have hrl : r.length = m - 33 := by rw [← hrr, List.length_drop, Hm.out]
      have hrd : Rd wr (cutA A c 33 1) (bys r) := by rw [← hrr]; exact drop_rd hr Hm.out hmc (by omega)
      have hcl : ∀ p, cutA A c 33 1 = some p → p.block < b := cut_block (P := fun k => k < b) (fun a ha => HLo.out a ha)
      have HDE := hide (fun W (hW : Below wr.heap.size wr W) => dec_anyC (cutA A c 33 1) (m - 33) (c - 33) r W hrl (by omega) (by omega) (by omega) (hrd.below hW) (fun p hp => by have := hcl p hp; have := hW.size; have := hB.lt; omega))
      have hHD := HDE.out
      unfold DecAnyC at hHD
      have hTb : 0 ≤ opT r ∧ opT r ≤ ((m - 33 : Nat) : Int) := by
        unfold opT
        split
        · rename_i h0
          obtain ⟨_, h3, h4, _⟩ := opE_ok h0
          have := textI_bd h4
          omega
        · omega
      have hkb : opK r < 256 := by
        unfold opK
        split
        · exact getV_1 r 0
        · omega
      have hpb : opP r ≤ 4294967295 ∧ opN r ≤ 4294967295 := by
        constructor
        · unfold opP
          split
          · exact getV_4 r 1
          · omega
        · unfold opN
          split
          · exact getV_4 r 5
          · omega
      have hV0 : rdV7 iw7 bs = (K, n1, n2, n3, n4, (opK r, (opP r : Int), (opN r : Int), opD r, opO r), (0, [])) := by rw [HVV.out, if_pos hK1, if_neg hK2, hrr]
      have hT0 : rdT7 bs = 33 + opT r := by rw [HTT.out, if_pos hK1, hrr]
      have hE0 : rdE7 bs = opE r := by rw [HEE.out, if_neg h33, if_pos hK1, hrr]
      obtain ⟨ok, hok⟩ : ∃ y, opK r = y := ⟨_, rfl⟩
      obtain ⟨op, hop⟩ : ∃ y, opP r = y := ⟨_, rfl⟩
      obtain ⟨on, hon⟩ : ∃ y, opN r = y := ⟨_, rfl⟩
      obtain ⟨ds, hds⟩ : ∃ y, opD r = y := ⟨_, rfl⟩
      obtain ⟨os, hos⟩ : ∃ y, opO r = y := ⟨_, rfl⟩
      obtain ⟨t, ht⟩ : ∃ y, (opT r).toNat = y := ⟨_, rfl⟩
      have htt : opT r = (t : Int) := by omega
      obtain ⟨e0, he0⟩ : ∃ y, opE r = y := ⟨_, rfl⟩
      simp only [hok, hop, hon, hds, hos, htt, he0] at hHD hV0 hT0 hE0 hkb hpb
      obtain ⟨dl, hdl⟩ : ∃ y, ds.length = y := ⟨_, rfl⟩
      obtain ⟨ol, hol⟩ : ∃ y, os.length = y := ⟨_, rfl⟩
      simp only [hdl, hol] at hHD
      have htm : 33 + t ≤ m := by omega
      have HD := hide hHD
      have HV0 := hide hV0
      have HT0 := hide (show rdT7 bs = ((33 + t : Nat) : Int) by rw [hT0]; omega)
      have HE0 := hide hE0
      have Hdl := hide hdl
      have Hol := hide hol
      have Hpb := hide hpb
      clear HDE hHD hrr hrl hrd hcl hok hop hon hds hos ht htt he0 hV0 hT0 hE0 hdl hol hTb hpb hK1 hK2 hr
      go_wp2_with fail
      go_fit HRE.out
      rintro e w4 ⟨rfl, hb4⟩
      have hG4 := hG.below hb4
      have hR4 := hR.below hb4
      have hB4 := hB.below hb4
      have hFX4 := hFX.trans (Fr.of_below hb4)
      have hz4 := hb4.size
      have HD4 := hide (HD.out w4 hb4)
      clear HRE HD hG hR hB hFX x0 hb4
      go_wp2_with fail
      go_fit HD4.out
      rintro e w5 ⟨D, dc, O, oc, rfl, hD5, hO5, uD, uO, hb5, hcap⟩
      have hG5 := hG4.below hb5
      have hR5 := hR4.below hb5
      have hB5 := hB4.below hb5
      have hFX5 := hFX4.trans (Fr.of_below hb5)
      have hz5 := hb5.size
      obtain ⟨w6, hw6⟩ : ∃ y, w5.alloc (.cells #[.int .u8 (ok : Int), .int .i64 (op : Int), .int .i64 (on : Int), .slice D dl dc, .slice O ol oc] 47) = y := ⟨_, rfl⟩
      obtain ⟨g4, hg4⟩ : ∃ y, w5.heap.size = y := ⟨_, rfl⟩
      have hV6 : Blk w6 g4 [.int .u8 (ok : Int), .int .i64 (op : Int), .int .i64 (on : Int), .slice D dl dc, .slice O ol oc] 47 := by rw [← hw6, ← hg4]; exact Blk.new w5 _ _
      have hb56 : Below w5.heap.size w5 w6 := by rw [← hw6]; exact (Below.refl _ _).alloc (Nat.le_refl _) _
      have hG6 := hG5.below hb56
      have hR6 := hR5.below hb56
      have hB6 := hB5.below hb56
      have hFX6 := hFX5.trans (Fr.of_below hb56)
      have hD6 := hD5.below hb56
      have hO6 := hO5.below hb56
      have hlt4 := hV6.lt
      have uD' : ∀ p, D = some p → wr.heap.size ≤ p.block := fun p hp => by have := uD p hp; omega
      have uO' : ∀ p, O = some p → wr.heap.size ≤ p.block := fun p hp => by have := uO p hp; omega
      have hg4w : wr.heap.size ≤ g4 := by omega
      have Hcap := hide hcap
      have Hw6 := hide hw6
      have Hg4 := hide hg4
      clear HD4 hG4 hR4 hB4 hFX4 hG5 hR5 hB5 hFX5 hD5 hO5 hb5 hb56 hw6 hg4 uD uO hcap
      by_cases he : e0 = 0
      · subst he
        go_wp2_with fail
        rw [Hw6.out]
        try rw [Hg4.out]
        go_fit (stop_any _)
        rintro e wq ⟨rfl, rfl⟩
        have HPS := hide (lpass_any b 125 A m c 33 t w6 hB6 (by omega))
        go_wp2_with fail
        go_fit HPS.out
        rintro e w7 ⟨rfl, hB7, hF7⟩
        have hz7 := hF7.size
        have hG7 := hG6.fr hF7 (fun h => by have h : g3 = b := h; omega)
        have hR7 := hR6.fr hF7 (fun h => by have h : g2 = b := h; omega)
        have hbw := hB7.lt
        have hV7 := hV6.fr hF7 (fun h => by have h : g4 = b := h; omega)
        have hD7 := hD6.fr hF7 (fun _ p hp h => by have h : p.block = b := h; have := uD' p hp; omega)
        have hO7 := hO6.fr hF7 (fun _ p hp h => by have h : p.block = b := h; have := uO' p hp; omega)
        have hFX7 := hFX6.trans hF7
        clear HPS hG6 hR6 hB6 hFX6 hV6 hD6 hO6 hF7
        obtain ⟨X, hX⟩ : ∃ y, (((((w7.setCell ⟨g3, 5, none⟩ (.int .u8 (ok : Int))).setCell ⟨g3, 6, none⟩ (.int .i64 (op : Int))).setCell ⟨g3, 7, none⟩ (.int .i64 (on : Int))).setCell ⟨g3, 8, none⟩ (.slice D dl dc)).setCell ⟨g3, 9, none⟩ (.slice O ol oc)) = y := ⟨_, rfl⟩
        have hG : Blk X g3 [.int .u8 (K : Int), .int .i64 n1, .int .i64 n2, .int .i64 n3, .int .i64 n4, .int .u8 (ok : Int), .int .i64 (op : Int), .int .i64 (on : Int), .slice D dl dc, .slice O ol oc, .int .i64 0, .slice none 0 0] 49 := by rw [← hX]; exact (((((hG7.set 5 (.int .u8 (ok : Int))).set 6 (.int .i64 (op : Int))).set 7 (.int .i64 (on : Int))).set 8 (.slice D dl dc)).set 9 (.slice O ol oc))
        have hfX : Fr (fun x => x = g3) w7 X := by rw [← hX]; exact (((((Fr.set (X := fun x => x = g3) w7 ⟨g3, 5, none⟩ _ rfl).trans (Fr.set (X := fun x => x = g3) _ ⟨g3, 6, none⟩ _ rfl)).trans (Fr.set (X := fun x => x = g3) _ ⟨g3, 7, none⟩ _ rfl)).trans (Fr.set (X := fun x => x = g3) _ ⟨g3, 8, none⟩ _ rfl)).trans (Fr.set (X := fun x => x = g3) _ ⟨g3, 9, none⟩ _ rfl))
        have hR := hR7.fr hfX (fun h => by have h : g2 = g3 := h; omega)
        have hB : Blk X b [.slice A m c, .int .i64 ((33 + t : Nat) : Int)] 125 := hB7.fr hfX (fun h => by have h : b = g3 := h; omega)
        have hDX := hD7.fr hfX (fun _ p hp h => by have h : p.block = g3 := h; have := uD' p hp; omega)
        have hOX := hO7.fr hfX (fun _ p hp h => by have h : p.block = g3 := h; have := uO' p hp; omega)
        have hFX := hFX7.trans' hfX (fun x hx => .inr (by have hx : x = g3 := hx; have := Hg2.out; omega))
        have k0 := hV7.cell (j := 0) rfl; have k1 := hV7.cell (j := 1) rfl; have k2 := hV7.cell (j := 2) rfl; have k3 := hV7.cell (j := 3) rfl; have k4 := hV7.cell (j := 4) rfl
        have t5 := hG7.cell (j := 5) rfl; have p5 := hG7.frozen 5
        have t6 := hG7.cell (j := 6) rfl; have p6 := hG7.frozen 6
        have t7 := hG7.cell (j := 7) rfl; have p7 := hG7.frozen 7
        have t8 := hG7.cell (j := 8) rfl; have p8 := hG7.frozen 8
        have t9 := hG7.cell (j := 9) rfl; have p9 := hG7.frozen 9
        have kx := hG7.cell (j := 0) rfl
        clear hG7 hR7 hB7 hFX7 hV7 hD7 hO7 hfX
        have y0 := hG.cell (j := 0) rfl; have y1 := hG.cell (j := 1) rfl; have y2 := hG.cell (j := 2) rfl; have y3 := hG.cell (j := 3) rfl; have y4 := hG.cell (j := 4) rfl; have y5 := hG.cell (j := 5) rfl; have y6 := hG.cell (j := 6) rfl; have y7 := hG.cell (j := 7) rfl; have y8 := hG.cell (j := 8) rfl; have y9 := hG.cell (j := 9) rfl; have y10 := hG.cell (j := 10) rfl; have y11 := hG.cell (j := 11) rfl
        have q0 := hR.frozen 0; have q1 := hR.frozen 1; have q2 := hR.frozen 2; have q3 := hR.frozen 3; have q4 := hR.frozen 4; have q5 := hR.frozen 5; have q6 := hR.frozen 6; have q7 := hR.frozen 7; have q8 := hR.frozen 8; have q9 := hR.frozen 9; have q10 := hR.frozen 10; have q11 := hR.frozen 11
        have r0 := hR.cell (j := 0) rfl; have r1 := hR.cell (j := 1) rfl; have r2 := hR.cell (j := 2) rfl; have r3 := hR.cell (j := 3) rfl; have r4 := hR.cell (j := 4) rfl; have r5 := hR.cell (j := 5) rfl; have r6 := hR.cell (j := 6) rfl; have r7 := hR.cell (j := 7) rfl; have r8 := hR.cell (j := 8) rfl; have r9 := hR.cell (j := 9) rfl; have r10 := hR.cell (j := 10) rfl; have r11 := hR.cell (j := 11) rfl
        obtain ⟨Y, hY⟩ : ∃ y, ((((((((((((X.setCell ⟨g2, 0, none⟩ (.int .u8 (K : Int))).setCell ⟨g2, 1, none⟩ (.int .i64 n1)).setCell ⟨g2, 2, none⟩ (.int .i64 n2)).setCell ⟨g2, 3, none⟩ (.int .i64 n3)).setCell ⟨g2, 4, none⟩ (.int .i64 n4)).setCell ⟨g2, 5, none⟩ (.int .u8 (ok : Int))).setCell ⟨g2, 6, none⟩ (.int .i64 (op : Int))).setCell ⟨g2, 7, none⟩ (.int .i64 (on : Int))).setCell ⟨g2, 8, none⟩ (.slice D dl dc)).setCell ⟨g2, 9, none⟩ (.slice O ol oc)).setCell ⟨g2, 10, none⟩ (.int .i64 0)).setCell ⟨g2, 11, none⟩ (.slice none 0 0)) = y := ⟨_, rfl⟩
        have hRY : Blk Y g2 [.int .u8 (K : Int), .int .i64 n1, .int .i64 n2, .int .i64 n3, .int .i64 n4, .int .u8 (ok : Int), .int .i64 (op : Int), .int .i64 (on : Int), .slice D dl dc, .slice O ol oc, .int .i64 0, .slice none 0 0] 49 := by rw [← hY]; exact ((((((((((((hR.set 0 (.int .u8 (K : Int))).set 1 (.int .i64 n1)).set 2 (.int .i64 n2)).set 3 (.int .i64 n3)).set 4 (.int .i64 n4)).set 5 (.int .u8 (ok : Int))).set 6 (.int .i64 (op : Int))).set 7 (.int .i64 (on : Int))).set 8 (.slice D dl dc)).set 9 (.slice O ol oc)).set 10 (.int .i64 0)).set 11 (.slice none 0 0))
        have hfY : Fr (fun x => x = g2) X Y := by rw [← hY]; exact ((((((((((((Fr.set (X := fun x => x = g2) X ⟨g2, 0, none⟩ _ rfl).trans (Fr.set (X := fun x => x = g2) _ ⟨g2, 1, none⟩ _ rfl)).trans (Fr.set (X := fun x => x = g2) _ ⟨g2, 2, none⟩ _ rfl)).trans (Fr.set (X := fun x => x = g2) _ ⟨g2, 3, none⟩ _ rfl)).trans (Fr.set (X := fun x => x = g2) _ ⟨g2, 4, none⟩ _ rfl)).trans (Fr.set (X := fun x => x = g2) _ ⟨g2, 5, none⟩ _ rfl)).trans (Fr.set (X := fun x => x = g2) _ ⟨g2, 6, none⟩ _ rfl)).trans (Fr.set (X := fun x => x = g2) _ ⟨g2, 7, none⟩ _ rfl)).trans (Fr.set (X := fun x => x = g2) _ ⟨g2, 8, none⟩ _ rfl)).trans (Fr.set (X := fun x => x = g2) _ ⟨g2, 9, none⟩ _ rfl)).trans (Fr.set (X := fun x => x = g2) _ ⟨g2, 10, none⟩ _ rfl)).trans (Fr.set (X := fun x => x = g2) _ ⟨g2, 11, none⟩ _ rfl))
        have hBY := hB.fr hfY (fun h => by have h : b = g2 := h; omega)
        have hFY := hFX.trans' hfY (fun x hx => .inr (by have hx : x = g2 := hx; have := Hg2.out; omega))
        have hDXY := hDX.fr hfY (fun _ p hp h => by have h : p.block = g2 := h; have := uD' p hp; omega)
        have hOXY := hOX.fr hfY (fun _ p hp h => by have h : p.block = g2 := h; have := uO' p hp; omega)
        have HYY := hide hY
        have HX := hide (And.intro hRY (And.intro hBY hFY))
        rw [← hX] at y0 q0 r0 y1 q1 r1 y2 q2 r2 y3 q3 r3 y4 q4 r4 y5 q5 r5 y6 q6 r6 y7 q7 r7 y8 q8 r8 y9 q9 r9 y10 q10 r10 y11 q11 r11
        have HXX := hide hX
        clear hY hRY hBY hFY hfY hG hR hB hFX hX
        go_wp2
        rw [HXX.out, HYY.out]
        refine bodyPost_ret (results_cell rfl rfl HX.out.1 Tryz.underlying49 rfl (by kernel_rfl)) rfl ?_
        exact ⟨HX.out.2.2, .inl ⟨HE0.out, _, rfl, by
          rw [HV0.out]
          exact Entry_mk hK256 hN1.out.1 hN1.out.2 hN2.out.1 hN2.out.2 hN3.out.1 hN3.out.2 hN4.out.1 hN4.out.2 hkb (by have := Hpb.out; omega) (by have := Hpb.out; omega) (by have := Hpb.out; omega) (by have := Hpb.out; omega) Hdl.out Hcap.out.1 Hcap.out.2.1 hDXY (fun _ p hp => by have := uD' p hp; have := Hg2.out; omega) Hol.out Hcap.out.2.2.1 Hcap.out.2.2.2 hOXY (fun _ p hp => by have := uO' p hp; have := Hg2.out; omega) (by decide) (by decide) rfl (Nat.le_refl _) (by decide) Rd.nil (fun h => absurd rfl h) Ty.Rows.nil, by rw [HT0.out]; exact HX.out.2.1⟩⟩
      · go_wp2_with fail
        rw [Hw6.out]
        try rw [Hg4.out]
        go_fit (stop_bad e0 he _)
        rintro e wq ⟨rfl, rfl⟩
        exact ⟨rfl, hFX6, .inr ⟨by rw [HE0.out]; exact he, by rw [HE0.out]⟩⟩
    by_cases hK2 : K = 2
    · have hq1 : ((K : Int) == 1) = false := by simpa using (show ¬ (K : Int) = 1 by omega)
      have hq2 : ((K : Int) == 2) = true := by simpa using (show (K : Int) = 2 by omega)
      have hHG := lgroup_any b 125 A m c bs 33 wr hB Hm.out hmc hm8 hc hr (fun _ p hp => by have := HLo.out p hp; omega) (by omega)
      unfold GrpRd at hHG
      obtain ⟨ep, hep⟩ : ∃ y, iw7 (getV bs 33 8) = y := ⟨_, rfl⟩
      obtain ⟨gn, hgn⟩ : ∃ y, getV bs 41 1 = y := ⟨_, rfl⟩
      have hepb : -9223372036854775808 ≤ ep ∧ ep ≤ 9223372036854775807 := hep ▸ iw7_bd _
      have hgn256 : gn < 256 := by rw [← hgn]; exact getV_1 bs 41
      have e1 : iw7 (getV bs ((33 : Nat) : Int) 8) = ep := hep
      have e2 : getV bs ((33 + 8 : Nat) : Int) 1 = gn := hgn
      rw [e1, e2] at hHG
      have hfit : grpFits bs 33 ↔ 42 + gn ≤ m := by unfold grpFits; rw [e2, Hm.out]
      have hV0 := hide (show rdV7 iw7 bs = (K, n1, n2, n3, n4, (0, 0, 0, [], []), (ep, memB bs 42 gn)) by rw [HVV.out, if_neg hK1, if_pos hK2, hep, hgn])
      have hT0 := hide (show rdT7 bs = ((42 + gn : Nat) : Int) by rw [HTT.out, if_neg hK1, if_pos hK2, hgn]; omega)
      have hE0 := hide (show rdE7 bs = if 42 + gn ≤ m then 0 else 10 by rw [HEE.out, if_neg h33, if_neg hK1, if_pos hK2, hgn])
      have HG := hide hHG
      have Hfit := hide hfit
      have Hepb := hide hepb
      clear hHG hep hgn e1 e2 hK1 hK2 hfit hepb
      go_wp2_with fail
      go_fit HG.out
      rintro e w4 ⟨hF4, hcase⟩
      have hz4 := hF4.size
      have hG4 := hG.fr hF4 (fun h => by have h : g3 = b := h; omega)
      have hR4 := hR.fr hF4 (fun h => by have h : g2 = b := h; omega)
      have hFX4 := hFX.trans hF4
      clear HG x0 hG hR hFX hB hr hF4
      rcases hcase with ⟨hok, M, mc, rfl, hO4, hB4⟩ | ⟨hno, rfl⟩
      · have hok' := Hfit.out.1 hok
        obtain ⟨hmc1, hmc2⟩ := own_cap hO4
        obtain ⟨_, _, hvv, _, _, _, hrM, haM⟩ := own_out hO4
        injection hvv with i1 i2 i3
        subst i1 i3
        have haM' : ∀ p, M = some p → wr.heap.size ≤ p.block := fun p hp => (haM p hp).1
        obtain ⟨X, hX⟩ : ∃ y, ((w4.setCell ⟨g3, 10, none⟩ (.int .i64 ep)).setCell ⟨g3, 11, none⟩ (.slice M gn mc)) = y := ⟨_, rfl⟩
        have hG : Blk X g3 [.int .u8 (K : Int), .int .i64 n1, .int .i64 n2, .int .i64 n3, .int .i64 n4, .int .u8 0, .int .i64 0, .int .i64 0, .slice none 0 0, .slice none 0 0, .int .i64 ep, .slice M gn mc] 49 := by rw [← hX]; exact ((hG4.set 10 (.int .i64 ep)).set 11 (.slice M gn mc))
        have hfX : Fr (fun x => x = g3) w4 X := by rw [← hX]; exact ((Fr.set (X := fun x => x = g3) w4 ⟨g3, 10, none⟩ _ rfl).trans (Fr.set (X := fun x => x = g3) _ ⟨g3, 11, none⟩ _ rfl))
        have hR := hR4.fr hfX (fun h => by have h : g2 = g3 := h; omega)
        have hB : Blk X b [.slice A m c, .int .i64 ((42 + gn : Nat) : Int)] 125 := hB4.fr hfX (fun h => by have h : b = g3 := h; omega)
        have hMX := hrM.fr hfX (fun _ p hp h => by have h : p.block = g3 := h; have := haM' p hp; omega)
        have hFX := hFX4.trans' hfX (fun x hx => .inr (by have hx : x = g3 := hx; have := Hg2.out; omega))
        have t10 := hG4.cell (j := 10) rfl; have t11 := hG4.cell (j := 11) rfl; have p10 := hG4.frozen 10; have p11 := hG4.frozen 11
        have hMc := hide (And.intro hmc1 hmc2)
        clear hO4 hG4 hR4 hB4 hFX4 hfX hrM haM hmc1 hmc2 hok
        have y0 := hG.cell (j := 0) rfl; have y1 := hG.cell (j := 1) rfl; have y2 := hG.cell (j := 2) rfl; have y3 := hG.cell (j := 3) rfl; have y4 := hG.cell (j := 4) rfl; have y5 := hG.cell (j := 5) rfl; have y6 := hG.cell (j := 6) rfl; have y7 := hG.cell (j := 7) rfl; have y8 := hG.cell (j := 8) rfl; have y9 := hG.cell (j := 9) rfl; have y10 := hG.cell (j := 10) rfl; have y11 := hG.cell (j := 11) rfl
        have q0 := hR.frozen 0; have q1 := hR.frozen 1; have q2 := hR.frozen 2; have q3 := hR.frozen 3; have q4 := hR.frozen 4; have q5 := hR.frozen 5; have q6 := hR.frozen 6; have q7 := hR.frozen 7; have q8 := hR.frozen 8; have q9 := hR.frozen 9; have q10 := hR.frozen 10; have q11 := hR.frozen 11
        have r0 := hR.cell (j := 0) rfl; have r1 := hR.cell (j := 1) rfl; have r2 := hR.cell (j := 2) rfl; have r3 := hR.cell (j := 3) rfl; have r4 := hR.cell (j := 4) rfl; have r5 := hR.cell (j := 5) rfl; have r6 := hR.cell (j := 6) rfl; have r7 := hR.cell (j := 7) rfl; have r8 := hR.cell (j := 8) rfl; have r9 := hR.cell (j := 9) rfl; have r10 := hR.cell (j := 10) rfl; have r11 := hR.cell (j := 11) rfl
        obtain ⟨Y, hY⟩ : ∃ y, ((((((((((((X.setCell ⟨g2, 0, none⟩ (.int .u8 (K : Int))).setCell ⟨g2, 1, none⟩ (.int .i64 n1)).setCell ⟨g2, 2, none⟩ (.int .i64 n2)).setCell ⟨g2, 3, none⟩ (.int .i64 n3)).setCell ⟨g2, 4, none⟩ (.int .i64 n4)).setCell ⟨g2, 5, none⟩ (.int .u8 0)).setCell ⟨g2, 6, none⟩ (.int .i64 0)).setCell ⟨g2, 7, none⟩ (.int .i64 0)).setCell ⟨g2, 8, none⟩ (.slice none 0 0)).setCell ⟨g2, 9, none⟩ (.slice none 0 0)).setCell ⟨g2, 10, none⟩ (.int .i64 ep)).setCell ⟨g2, 11, none⟩ (.slice M gn mc)) = y := ⟨_, rfl⟩
        have hRY : Blk Y g2 [.int .u8 (K : Int), .int .i64 n1, .int .i64 n2, .int .i64 n3, .int .i64 n4, .int .u8 0, .int .i64 0, .int .i64 0, .slice none 0 0, .slice none 0 0, .int .i64 ep, .slice M gn mc] 49 := by rw [← hY]; exact ((((((((((((hR.set 0 (.int .u8 (K : Int))).set 1 (.int .i64 n1)).set 2 (.int .i64 n2)).set 3 (.int .i64 n3)).set 4 (.int .i64 n4)).set 5 (.int .u8 0)).set 6 (.int .i64 0)).set 7 (.int .i64 0)).set 8 (.slice none 0 0)).set 9 (.slice none 0 0)).set 10 (.int .i64 ep)).set 11 (.slice M gn mc))
        have hfY : Fr (fun x => x = g2) X Y := by rw [← hY]; exact ((((((((((((Fr.set (X := fun x => x = g2) X ⟨g2, 0, none⟩ _ rfl).trans (Fr.set (X := fun x => x = g2) _ ⟨g2, 1, none⟩ _ rfl)).trans (Fr.set (X := fun x => x = g2) _ ⟨g2, 2, none⟩ _ rfl)).trans (Fr.set (X := fun x => x = g2) _ ⟨g2, 3, none⟩ _ rfl)).trans (Fr.set (X := fun x => x = g2) _ ⟨g2, 4, none⟩ _ rfl)).trans (Fr.set (X := fun x => x = g2) _ ⟨g2, 5, none⟩ _ rfl)).trans (Fr.set (X := fun x => x = g2) _ ⟨g2, 6, none⟩ _ rfl)).trans (Fr.set (X := fun x => x = g2) _ ⟨g2, 7, none⟩ _ rfl)).trans (Fr.set (X := fun x => x = g2) _ ⟨g2, 8, none⟩ _ rfl)).trans (Fr.set (X := fun x => x = g2) _ ⟨g2, 9, none⟩ _ rfl)).trans (Fr.set (X := fun x => x = g2) _ ⟨g2, 10, none⟩ _ rfl)).trans (Fr.set (X := fun x => x = g2) _ ⟨g2, 11, none⟩ _ rfl))
        have hBY := hB.fr hfY (fun h => by have h : b = g2 := h; omega)
        have hFY := hFX.trans' hfY (fun x hx => .inr (by have hx : x = g2 := hx; have := Hg2.out; omega))
        have hMXY := hMX.fr hfY (fun _ p hp h => by have h : p.block = g2 := h; have := haM' p hp; omega)
        have HYY := hide hY
        have HX := hide (And.intro hRY (And.intro hBY hFY))
        rw [← hX] at y0 q0 r0 y1 q1 r1 y2 q2 r2 y3 q3 r3 y4 q4 r4 y5 q5 r5 y6 q6 r6 y7 q7 r7 y8 q8 r8 y9 q9 r9 y10 q10 r10 y11 q11 r11
        have HXX := hide hX
        clear hY hRY hBY hFY hfY hG hR hB hFX hX
        go_wp2
        rw [HXX.out, HYY.out]
        refine bodyPost_ret (results_cell rfl rfl HX.out.1 Tryz.underlying49 rfl (by kernel_rfl)) rfl ?_
        exact ⟨HX.out.2.2, .inl ⟨by rw [hE0.out, if_pos hok'], _, rfl, by
          rw [hV0.out]
          exact Entry_mk hK256 hN1.out.1 hN1.out.2 hN2.out.1 hN2.out.2 hN3.out.1 hN3.out.2 hN4.out.1 hN4.out.2 (by decide) (by decide) (by decide) (by decide) (by decide) rfl (Nat.le_refl _) (by decide) Rd.nil (fun h => absurd rfl h) rfl (Nat.le_refl _) (by decide) Rd.nil (fun h => absurd rfl h) Hepb.out.1 Hepb.out.2 (memB_len bs 42 gn) hMc.out.1 hMc.out.2 hMXY (fun _ p hp => by have := haM' p hp; have := Hg2.out; omega) (i64rows_mk fun x hx => memB_bd hx), by rw [hT0.out]; exact HX.out.2.1⟩⟩
      · exact ⟨rfl, hFX4, .inr ⟨by rw [hE0.out, if_neg (fun h => hno (Hfit.out.2 h))]; decide, by rw [hE0.out, if_neg (fun h => hno (Hfit.out.2 h))]⟩⟩
    have hq1 : ((K : Int) == 1) = false := by simpa using (show ¬ (K : Int) = 1 by omega)
    have hq2 : ((K : Int) == 2) = false := by simpa using (show ¬ (K : Int) = 2 by omega)
    have hV0 := hide (show rdV7 iw7 bs = (K, n1, n2, n3, n4, (0, 0, 0, [], []), (0, [])) by rw [HVV.out, if_neg hK1, if_neg hK2])
    have hT0 := hide (show rdT7 bs = ((33 : Nat) : Int) by rw [HTT.out, if_neg hK1, if_neg hK2]; rfl)
    have hE0 := hide (show rdE7 bs = 0 by rw [HEE.out, if_neg h33, if_neg hK1, if_neg hK2])
    clear hK1 hK2
    have y0 := hG.cell (j := 0) rfl; have y1 := hG.cell (j := 1) rfl; have y2 := hG.cell (j := 2) rfl; have y3 := hG.cell (j := 3) rfl; have y4 := hG.cell (j := 4) rfl; have y5 := hG.cell (j := 5) rfl; have y6 := hG.cell (j := 6) rfl; have y7 := hG.cell (j := 7) rfl; have y8 := hG.cell (j := 8) rfl; have y9 := hG.cell (j := 9) rfl; have y10 := hG.cell (j := 10) rfl; have y11 := hG.cell (j := 11) rfl
    have q0 := hR.frozen 0; have q1 := hR.frozen 1; have q2 := hR.frozen 2; have q3 := hR.frozen 3; have q4 := hR.frozen 4; have q5 := hR.frozen 5; have q6 := hR.frozen 6; have q7 := hR.frozen 7; have q8 := hR.frozen 8; have q9 := hR.frozen 9; have q10 := hR.frozen 10; have q11 := hR.frozen 11
    have r0 := hR.cell (j := 0) rfl; have r1 := hR.cell (j := 1) rfl; have r2 := hR.cell (j := 2) rfl; have r3 := hR.cell (j := 3) rfl; have r4 := hR.cell (j := 4) rfl; have r5 := hR.cell (j := 5) rfl; have r6 := hR.cell (j := 6) rfl; have r7 := hR.cell (j := 7) rfl; have r8 := hR.cell (j := 8) rfl; have r9 := hR.cell (j := 9) rfl; have r10 := hR.cell (j := 10) rfl; have r11 := hR.cell (j := 11) rfl
    obtain ⟨Y, hY⟩ : ∃ y, ((((((((((((wr.setCell ⟨g2, 0, none⟩ (.int .u8 (K : Int))).setCell ⟨g2, 1, none⟩ (.int .i64 n1)).setCell ⟨g2, 2, none⟩ (.int .i64 n2)).setCell ⟨g2, 3, none⟩ (.int .i64 n3)).setCell ⟨g2, 4, none⟩ (.int .i64 n4)).setCell ⟨g2, 5, none⟩ (.int .u8 0)).setCell ⟨g2, 6, none⟩ (.int .i64 0)).setCell ⟨g2, 7, none⟩ (.int .i64 0)).setCell ⟨g2, 8, none⟩ (.slice none 0 0)).setCell ⟨g2, 9, none⟩ (.slice none 0 0)).setCell ⟨g2, 10, none⟩ (.int .i64 0)).setCell ⟨g2, 11, none⟩ (.slice none 0 0)) = y := ⟨_, rfl⟩
    have hRY : Blk Y g2 [.int .u8 (K : Int), .int .i64 n1, .int .i64 n2, .int .i64 n3, .int .i64 n4, .int .u8 0, .int .i64 0, .int .i64 0, .slice none 0 0, .slice none 0 0, .int .i64 0, .slice none 0 0] 49 := by rw [← hY]; exact ((((((((((((hR.set 0 (.int .u8 (K : Int))).set 1 (.int .i64 n1)).set 2 (.int .i64 n2)).set 3 (.int .i64 n3)).set 4 (.int .i64 n4)).set 5 (.int .u8 0)).set 6 (.int .i64 0)).set 7 (.int .i64 0)).set 8 (.slice none 0 0)).set 9 (.slice none 0 0)).set 10 (.int .i64 0)).set 11 (.slice none 0 0))
    have hfY : Fr (fun x => x = g2) wr Y := by rw [← hY]; exact ((((((((((((Fr.set (X := fun x => x = g2) wr ⟨g2, 0, none⟩ _ rfl).trans (Fr.set (X := fun x => x = g2) _ ⟨g2, 1, none⟩ _ rfl)).trans (Fr.set (X := fun x => x = g2) _ ⟨g2, 2, none⟩ _ rfl)).trans (Fr.set (X := fun x => x = g2) _ ⟨g2, 3, none⟩ _ rfl)).trans (Fr.set (X := fun x => x = g2) _ ⟨g2, 4, none⟩ _ rfl)).trans (Fr.set (X := fun x => x = g2) _ ⟨g2, 5, none⟩ _ rfl)).trans (Fr.set (X := fun x => x = g2) _ ⟨g2, 6, none⟩ _ rfl)).trans (Fr.set (X := fun x => x = g2) _ ⟨g2, 7, none⟩ _ rfl)).trans (Fr.set (X := fun x => x = g2) _ ⟨g2, 8, none⟩ _ rfl)).trans (Fr.set (X := fun x => x = g2) _ ⟨g2, 9, none⟩ _ rfl)).trans (Fr.set (X := fun x => x = g2) _ ⟨g2, 10, none⟩ _ rfl)).trans (Fr.set (X := fun x => x = g2) _ ⟨g2, 11, none⟩ _ rfl))
    have hBY := hB.fr hfY (fun h => by have h : b = g2 := h; omega)
    have hFY := hFX.trans' hfY (fun x hx => .inr (by have hx : x = g2 := hx; have := Hg2.out; omega))
    have HYY := hide hY
    have HX := hide (And.intro hRY (And.intro hBY hFY))
    clear hY hRY hBY hFY hfY hG hR hB hFX 
    go_wp2
    rw [HYY.out]
    refine bodyPost_ret (results_cell rfl rfl HX.out.1 Tryz.underlying49 rfl (by kernel_rfl)) rfl ?_
    exact ⟨HX.out.2.2, .inl ⟨hE0.out, _, rfl, by rw [hV0.out]; exact Entry_mk hK256 hN1.out.1 hN1.out.2 hN2.out.1 hN2.out.2 hN3.out.1 hN3.out.2 hN4.out.1 hN4.out.2 (by decide) (by decide) (by decide) (by decide) (by decide) rfl (Nat.le_refl _) (by decide) Rd.nil (fun h => absurd rfl h) rfl (Nat.le_refl _) (by decide) Rd.nil (fun h => absurd rfl h) (by decide) (by decide) rfl (Nat.le_refl _) (by decide) Rd.nil (fun h => absurd rfl h) Ty.Rows.nil, by rw [hT0.out]; exact HX.out.2.1⟩⟩

end Go.Proofs.YtkknkdjdneldlaaGreat
namespace Go.Proofs.YtkknkdjdneldlaaGreat
set_option maxRecDepth 20000
open Go.RowKit Go.Px Go.Maps
set_option linter.unusedVariables false
set_option linter.unusedSimpArgs false
/-- The fault of decoding an entry, what is decoded, and how many bytes it has. -/
def deE7 (num : Nat → Int) (bs : List UInt8) : Int := if rdE7 bs ≠ 0 then rdE7 bs else if entryB (rdV7 num bs) = true then 0 else 42
abbrev noneE7 : EntryD := (0, 0, 0, 0, 0, (0, 0, 0, [], []), (0, []))
def deV7 (num : Nat → Int) (bs : List UInt8) : EntryD := if deE7 num bs = 0 then rdV7 num bs else noneE7
def deT7 (num : Nat → Int) (bs : List UInt8) : Int := if deE7 num bs = 0 then rdT7 bs else 0
def DecE (num : Nat → Int) (bs : List UInt8) (w : World) (e : Ending) (w' : World) : Prop :=
  ∃ cs, e = .returned (.tuple #[.agg cs.toArray, .int .i64 (deT7 num bs), .int .i64 (deE7 num bs)]) ∧ tyEntry.Is w' (fun k => w.heap.size ≤ k) (deV7 num bs) cs ∧ Below w.heap.size w w'
theorem noneE7_is (w : World) (Q : Nat → Prop) : tyEntry.Is w Q noneE7 [.int .u8 0, .int .i64 0, .int .i64 0, .int .i64 0, .int .i64 0, .int .u8 0, .int .i64 0, .int .i64 0, .slice none 0 0, .slice none 0 0, .int .i64 0, .slice none 0 0] :=
  Entry_mk (by decide) (by decide) (by decide) (by decide) (by decide) (by decide) (by decide) (by decide) (by decide) (by decide) (by decide) (by decide) (by decide) (by decide) rfl (Nat.le_refl _) (by decide) Rd.nil (fun h => absurd rfl h) rfl (Nat.le_refl _) (by decide) Rd.nil (fun h => absurd rfl h) (by decide) (by decide) rfl (Nat.le_refl _) (by decide) Rd.nil (fun h => absurd rfl h) Ty.Rows.nil
theorem decE_bad {num : Nat → Int} {bs : List UInt8} {w w' : World} {x : Int} (hx : deE7 num bs = x) (h0 : x ≠ 0) (hb : Below w.heap.size w w') : DecE num bs w (.returned (.tuple #[.agg #[.int .u8 0, .int .i64 0, .int .i64 0, .int .i64 0, .int .i64 0, .int .u8 0, .int .i64 0, .int .i64 0, .slice none 0 0, .slice none 0 0, .int .i64 0, .slice none 0 0], .int .i64 0, .int .i64 x])) w' := by
  have h1 : deT7 num bs = 0 := by unfold deT7; rw [hx, if_neg h0]
  have h2 : deV7 num bs = noneE7 := by unfold deV7; rw [hx, if_neg h0]
  exact ⟨[.int .u8 0, .int .i64 0, .int .i64 0, .int .i64 0, .int .i64 0, .int .u8 0, .int .i64 0, .int .i64 0, .slice none 0 0, .slice none 0 0, .int .i64 0, .slice none 0 0], by rw [h1, hx], by rw [h2]; exact noneE7_is _ _, hb⟩

theorem meidle (p : Addr) (z : Int) (w : World) (hc : w.cell? p = some (.int .i64 z)) (hf : w.frozen? p = false) :
    CallsD Tryz.prog 70 #[.pointer (some p)] .returning w fun e u' w' => e = .returned (.tuple #[]) ∧ u' = .returning ∧ w' = w.drew.setCell p (.int .i64 z) := by
  have hC := caught_any z w.drew
  refine callsD_of_wpS Tryz.func70 rfl fun c₀ cs hu => ?_
  refine wpS_two (by kernel_rfl) rfl (by kernel_rfl) (by kernel_rfl) (by kernel_rfl) (by kernel_rfl) (by kernel_rfl) ?_ ?_
  all_goals
    simp [wpOpsS, go_sem, recoverD, hu, Tryz.ntmps70, Exit.thenS, hc, hf]
    refine hC.mono ?_
    rintro e w' ⟨rfl, rfl⟩
    simp [go_sem, hc, hf]
    cases c₀
    simp_all [bodyPostS, results, Tryz.results70]
theorem merecov (p : Addr) (x z : Int) (w : World) (hc : w.cell? p = some (.int .i64 z)) (hf : w.frozen? p = false) (hp : p.block < w.heap.size) :
    CallsD Tryz.prog 70 #[.pointer (some p)] (.panicking (stopped x)) w fun e u' w' => e = .returned (.tuple #[]) ∧ u' = .panicking [{ v := .iface 178 (.agg #[.int .i64 x]), recovered := true }] ∧ w' = ((w.drew.alloc (.cells #[.int .i64 x] 178)).setCell p (.int .i64 x)) := by
  have hC := caught_bad x z w.drew
  have hb := (Below.refl w.heap.size w).alloc (Nat.le_refl _) (.cells #[.int .i64 x] 178)
  have hca := (hb.cell (p := p) hp).trans hc
  have hfa := (hb.frozen (p := p) hp).trans hf
  clear hb
  refine callsD_of_wpS Tryz.func70 rfl fun c₀ cs hu => ?_
  refine wpS_two (by kernel_rfl) rfl (by kernel_rfl) (by kernel_rfl) (by kernel_rfl) (by kernel_rfl) (by kernel_rfl) ?_ ?_
  all_goals
    simp [wpOpsS, go_sem, recoverD, hu, stopped, Tryz.ntmps70, Exit.thenS, hc, hf]
    refine hC.mono ?_
    rintro e w' ⟨rfl, rfl⟩
    simp [go_sem, hca, hfa]
    cases c₀
    simp_all [bodyPostS, results, Tryz.results70]

set_option maxRecDepth 20000 in
set_option maxHeartbeats 6400000 in
theorem mdecE_any (A : Option Addr) (m c : Nat) (bs : List UInt8) (w : World) (hm : bs.length = m) (hmc : m ≤ c) (hm8 : m ≤ 140737488355328) (hc : c ≤ 9223372036854775807) (hr : Rd w A (bys bs)) (hlo : Lo w.heap.size A) :
    Calls Tryz.prog 26 #[.slice A m c] w (DecE iw7 bs w) := by
  have hmf : ∀ (fn : Fn) (first cap : Array Value) (w : World), (Instr.makeFunc fn first cap).run Tryz.prog w = .ok (.func fn first cap) w := fun _ _ _ _ => rfl
  obtain ⟨g, hg⟩ : ∃ g, w.heap.size = g := ⟨_, rfl⟩
  obtain ⟨w0, hw0⟩ : ∃ w0, (w.alloc (.cells #[.int .u8 0, .int .i64 0, .int .i64 0, .int .i64 0, .int .i64 0, .int .u8 0, .int .i64 0, .int .i64 0, .slice none 0 0, .slice none 0 0, .int .i64 0, .slice none 0 0] 49)).alloc (.cells #[.int .i64 0] 41) = w0 := ⟨_, rfl⟩
  have hR : Blk w0 g [.int .u8 0, .int .i64 0, .int .i64 0, .int .i64 0, .int .i64 0, .int .u8 0, .int .i64 0, .int .i64 0, .slice none 0 0, .slice none 0 0, .int .i64 0, .slice none 0 0] 49 := by rw [← hw0, ← hg]; exact (Blk.new w [.int .u8 0, .int .i64 0, .int .i64 0, .int .i64 0, .int .i64 0, .int .u8 0, .int .i64 0, .int .i64 0, .slice none 0 0, .slice none 0 0, .int .i64 0, .slice none 0 0] _).alloc _
  have hE : Blk w0 (g + 1) [.int .i64 0] 41 := by
    rw [← hw0, ← hg]
    have := Blk.new (w.alloc (.cells #[.int .u8 0, .int .i64 0, .int .i64 0, .int .i64 0, .int .i64 0, .int .u8 0, .int .i64 0, .int .i64 0, .slice none 0 0, .slice none 0 0, .int .i64 0, .slice none 0 0] 49)) [.int .i64 0] 41
    rwa [World.size_alloc] at this
  have hb0 : Below w.heap.size w w0 := by rw [← hw0]; exact ((Below.refl _ _).alloc (Nat.le_refl _) _).alloc (by simp) _
  have hr0 := hr.below hb0
  have hlo' : Lo g A := by rw [← hg]; exact hlo
  have Hm := hide hm
  clear hm hlo
  go_enter_defers Tryz.func26, Tryz.ntmps26
  go_wp2_with fail
  go_fit (of_any A m c w0)
  rintro e w1 ⟨rfl, hb1⟩
  have hR1 := hR.below hb1
  have hE1 := hE.below hb1
  have hr1 := hr0.below hb1
  have hb01 := hb0.trans (hb1.mono hb0.size)
  have sz1 := hE1.lt
  obtain ⟨b, hb⟩ : ∃ b, w1.heap.size = b := ⟨_, rfl⟩
  obtain ⟨w2, hw2⟩ : ∃ w2, w1.alloc (.cells #[.slice A m c, .int .i64 0] 125) = w2 := ⟨_, rfl⟩
  have hB2 : Blk w2 b [.slice A m c, .int .i64 0] 125 := by rw [← hw2, ← hb]; exact Blk.new w1 [.slice A m c, .int .i64 0] _
  have hb12 : Below w1.heap.size w1 w2 := by rw [← hw2]; exact (Below.refl _ _).alloc (Nat.le_refl _) _
  have hR2 := hR1.below hb12
  have hE2 := hE1.below hb12
  have hr2 := hr1.below hb12
  have hb02 := hb01.trans (hb12.mono hb01.size)
  have Hw2 := hide hw2
  clear hw2
  go_wp2_with fail
  rw [Hw2.out]
  go_fit (entry_any b A m c bs w2 hB2 Hm.out hmc hm8 hc hr2 (fun a ha => by have := hlo' a ha; omega))
  rintro e w3 ⟨hF3, hcase⟩
  have hlb := hB2.lt
  have hR3 := hR2.fr hF3 (fun h => by have h : g = b := h; omega)
  have hE3 := hE2.fr hF3 (fun h => by have h : g + 1 = b := h; omega)
  have hb03 := hF3.below hb02 (by have := hb02.size; omega) (fun k hk => by have hk : k = b := hk; omega)
  have sz3 := hF3.size
  rcases hcase with ⟨hok, cs, rfl, hI, hB3⟩ | ⟨hno, rfl⟩
  · have hV3 := hI
    obtain ⟨V0, hV0⟩ : ∃ y, rdV7 iw7 bs = y := ⟨_, rfl⟩
    obtain ⟨T0, hT0⟩ : ∃ y, rdT7 bs = y := ⟨_, rfl⟩
    rw [hV0] at hI hV3
    rw [hT0] at hB3
    have hDE : deE7 iw7 bs = if entryB V0 = true then 0 else 42 := by unfold deE7; rw [if_neg (by rw [hok]; decide), hV0]
    have hDV : deE7 iw7 bs = 0 → deV7 iw7 bs = V0 ∧ deT7 iw7 bs = T0 := fun h => by unfold deV7 deT7; rw [if_pos h, if_pos h]; exact ⟨hV0, hT0⟩
    have HDE := hide hDE
    have HDV := hide hDV
    clear hDE hDV hV0 hT0 hok hr2
    obtain ⟨eKind, eNum, eView, eClient, eSerial, eOpKind, eOpAt, eOpN, eOpData, eOpDataA, eOpDatan, eOpDatac, eOpOld, eOpOldA, eOpOldn, eOpOldc, eGroupEpoch, eGroupMembers, eGroupMembersA, eGroupMembersn, eGroupMembersc, eGroupMembersv, rfl, rfl, hu_eKind, h1_eNum, h2_eNum, h1_eView, h2_eView, h1_eClient, h2_eClient, h1_eSerial, h2_eSerial, hu_eOpKind, h1_eOpAt, h2_eOpAt, h1_eOpN, h2_eOpN, hl_eOpData, hc_eOpData, hm_eOpData, hr_eOpData, hq_eOpData, hl_eOpOld, hc_eOpOld, hm_eOpOld, hr_eOpOld, hq_eOpOld, h1_eGroupEpoch, h2_eGroupEpoch, hl_eGroupMembers, hc_eGroupMembers, hm_eGroupMembers, hr_eGroupMembers, hq_eGroupMembers, he_eGroupMembers⟩ := Entry_out hI
    obtain ⟨w4, hw4⟩ : ∃ w4, w3.alloc (.cells #[.int .u8 eKind, .int .i64 eNum, .int .i64 eView, .int .i64 eClient, .int .i64 eSerial, .int .u8 eOpKind, .int .i64 eOpAt, .int .i64 eOpN, .slice eOpDataA eOpDatan eOpDatac, .slice eOpOldA eOpOldn eOpOldc, .int .i64 eGroupEpoch, .slice eGroupMembersA eGroupMembersn eGroupMembersc] 49) = w4 := ⟨_, rfl⟩
    obtain ⟨v, hv⟩ : ∃ v, w3.heap.size = v := ⟨_, rfl⟩
    have hV4 : Blk w4 v [.int .u8 eKind, .int .i64 eNum, .int .i64 eView, .int .i64 eClient, .int .i64 eSerial, .int .u8 eOpKind, .int .i64 eOpAt, .int .i64 eOpN, .slice eOpDataA eOpDatan eOpDatac, .slice eOpOldA eOpOldn eOpOldc, .int .i64 eGroupEpoch, .slice eGroupMembersA eGroupMembersn eGroupMembersc] 49 := by rw [← hw4, ← hv]; exact Blk.new w3 [.int .u8 eKind, .int .i64 eNum, .int .i64 eView, .int .i64 eClient, .int .i64 eSerial, .int .u8 eOpKind, .int .i64 eOpAt, .int .i64 eOpN, .slice eOpDataA eOpDatan eOpDatac, .slice eOpOldA eOpOldn eOpOldc, .int .i64 eGroupEpoch, .slice eGroupMembersA eGroupMembersn eGroupMembersc] _
    have hb34 : Below w3.heap.size w3 w4 := by rw [← hw4]; exact (Below.refl _ _).alloc (Nat.le_refl _) _
    have hI4 := hV3.below hb34
    have hR4 := hR3.below hb34
    have hE4 := hE3.below hb34
    have hB4 := hB3.below hb34
    have hb04 := hb03.trans (hb34.mono hb03.size)
    have sz4 := hb34.size
    have y0 := hV4.cell (j := 0) rfl; have y1 := hV4.cell (j := 1) rfl; have y2 := hV4.cell (j := 2) rfl; have y3 := hV4.cell (j := 3) rfl; have y4 := hV4.cell (j := 4) rfl; have y5 := hV4.cell (j := 5) rfl; have y6 := hV4.cell (j := 6) rfl; have y7 := hV4.cell (j := 7) rfl; have y8 := hV4.cell (j := 8) rfl; have y9 := hV4.cell (j := 9) rfl; have y10 := hV4.cell (j := 10) rfl; have y11 := hV4.cell (j := 11) rfl
    rw [← hw4] at y0 y1 y2 y3 y4 y5 y6 y7 y8 y9 y10 y11
    have HMY := hide (mayEntry_any hI4)
    have Hw4 := hide hw4
    have Hv := hide hv
    clear hR3 hE3 hB3 hb03 hV3 hb34 hw4 hv
    go_wp2_with fail
    rw [Hw4.out, Hv.out]
    go_fit HMY.out
    rintro e w5 ⟨rfl, hb5⟩
    have hI5 := hI4.below hb5
    have hR5 := hR4.below hb5
    have hE5 := hE4.below hb5
    have hB5 := hB4.below hb5
    have hV5 := hV4.below hb5
    have hb05 := hb04.trans (hb5.mono hb04.size)
    have sz5 := hb5.size
    clear y0 y1 y2 y3 y4 y5 y6 y7 y8 y9 y10 y11 HMY hI4 hR4 hE4 hB4 hV4 hb04 hb5
    cases hq : entryB (eKind, eNum, eView, eClient, eSerial, (eOpKind, eOpAt, eOpN, eOpData, eOpOld), (eGroupEpoch, eGroupMembers)) with
    | false =>
      have hx : deE7 iw7 bs = 42 := by rw [HDE.out, hq]; decide
      have Hx := hide hx
      clear hx hq
      go_wp2_with fail
      go_fit (stop_bad 42 (by decide) _)
      rintro e wq ⟨rfl, rfl⟩
      refine leaves_cons (f := 70) (args := #[.pointer (some ⟨g + 1, 0, none⟩)]) (by simp) (by simp [go_sem]) ?_
      refine (merecov ⟨g + 1, 0, none⟩ 42 0 _ (hE5.cell (j := 0) rfl) (hE5.frozen 0) hE5.lt).mono ?_
      rintro e u w6 ⟨rfl, rfl, rfl⟩
      have hR6 := (hR5.drew.alloc (.cells #[.int .i64 42] 178)).apart (k := g + 1) (by omega) 0 (.int .i64 42)
      have hE6 := (hE5.drew.alloc (.cells #[.int .i64 42] 178)).set 0 (.int .i64 42)
      refine ⟨_, results_cie rfl rfl rfl hR6 Tryz.underlying49 rfl (by kernel_rfl) (hE6.cell (j := 0) rfl) Tryz.underlying41, ?_⟩
      refine decE_bad Hx.out (by decide) ?_
      exact (hb05.drew.alloc (by have := hR5.lt; simp; omega) _).setCell (by show w.heap.size ≤ g + 1; omega) _
    | true =>
      have hx : deE7 iw7 bs = 0 := by rw [HDE.out, hq]; rfl
      obtain ⟨hdv, hdt⟩ := HDV.out hx
      have Hx := hide (And.intro hx (And.intro hdv hdt))
      have HI := hide hI5
      clear hx hdv hdt hq hI5
      rw [hg] at hb05
      have hB5d := hB5.drew
      have x0 := hR5.cell (j := 0) rfl; have f0 := hR5.frozen 0; have y0 := hV5.cell (j := 0) rfl; have x1 := hR5.cell (j := 1) rfl; have f1 := hR5.frozen 1; have y1 := hV5.cell (j := 1) rfl; have x2 := hR5.cell (j := 2) rfl; have f2 := hR5.frozen 2; have y2 := hV5.cell (j := 2) rfl; have x3 := hR5.cell (j := 3) rfl; have f3 := hR5.frozen 3; have y3 := hV5.cell (j := 3) rfl; have x4 := hR5.cell (j := 4) rfl; have f4 := hR5.frozen 4; have y4 := hV5.cell (j := 4) rfl; have x5 := hR5.cell (j := 5) rfl; have f5 := hR5.frozen 5; have y5 := hV5.cell (j := 5) rfl; have x6 := hR5.cell (j := 6) rfl; have f6 := hR5.frozen 6; have y6 := hV5.cell (j := 6) rfl; have x7 := hR5.cell (j := 7) rfl; have f7 := hR5.frozen 7; have y7 := hV5.cell (j := 7) rfl; have x8 := hR5.cell (j := 8) rfl; have f8 := hR5.frozen 8; have y8 := hV5.cell (j := 8) rfl; have x9 := hR5.cell (j := 9) rfl; have f9 := hR5.frozen 9; have y9 := hV5.cell (j := 9) rfl; have x10 := hR5.cell (j := 10) rfl; have f10 := hR5.frozen 10; have y10 := hV5.cell (j := 10) rfl; have x11 := hR5.cell (j := 11) rfl; have f11 := hR5.frozen 11; have y11 := hV5.cell (j := 11) rfl
      have e0 := hE5.cell (j := 0) rfl
      have fe := hE5.frozen 0
      go_wp2_with fail
      refine wp_noexit ?_
      go_region_with (first
        | (go_at_call 76; (with_reducible refine (at_any b 125 (.slice A m c) T0 _ hB5d).mono ?_); rintro x wa ⟨rfl, rfl⟩))
      all_goals
        go_wp2_with fail
        refine leaves_cons (f := 70) (args := #[.pointer (some ⟨g + 1, 0, none⟩)]) (by simp) (by simp [go_sem]) ?_
        have hR6 := ((((((((((((hR5.set 0 (.int .u8 eKind)).set 1 (.int .i64 eNum)).set 2 (.int .i64 eView)).set 3 (.int .i64 eClient)).set 4 (.int .i64 eSerial)).set 5 (.int .u8 eOpKind)).set 6 (.int .i64 eOpAt)).set 7 (.int .i64 eOpN)).set 8 (.slice eOpDataA eOpDatan eOpDatac)).set 9 (.slice eOpOldA eOpOldn eOpOldc)).set 10 (.int .i64 eGroupEpoch)).set 11 (.slice eGroupMembersA eGroupMembersn eGroupMembersc)).apart (k := g + 1) (by omega) 0 (.int .i64 0)
        have hE6 := ((((((((((((hE5.apart (k := g) (by omega) 0 (.int .u8 eKind)).apart (k := g) (by omega) 1 (.int .i64 eNum)).apart (k := g) (by omega) 2 (.int .i64 eView)).apart (k := g) (by omega) 3 (.int .i64 eClient)).apart (k := g) (by omega) 4 (.int .i64 eSerial)).apart (k := g) (by omega) 5 (.int .u8 eOpKind)).apart (k := g) (by omega) 6 (.int .i64 eOpAt)).apart (k := g) (by omega) 7 (.int .i64 eOpN)).apart (k := g) (by omega) 8 (.slice eOpDataA eOpDatan eOpDatac)).apart (k := g) (by omega) 9 (.slice eOpOldA eOpOldn eOpOldc)).apart (k := g) (by omega) 10 (.int .i64 eGroupEpoch)).apart (k := g) (by omega) 11 (.slice eGroupMembersA eGroupMembersn eGroupMembersc)).set 0 (.int .i64 0)
        refine (meidle ⟨g + 1, 0, none⟩ 0 _ (hE6.drew.cell (j := 0) rfl) (hE6.drew.frozen 0)).mono ?_
        rintro e u w6 ⟨rfl, rfl, rfl⟩
        have hR7 := hR6.drew.drew.apart (k := g + 1) (by omega) 0 (.int .i64 0)
        have hE7 := hE6.drew.drew.set 0 (.int .i64 0)
        refine ⟨_, results_cie rfl rfl rfl hR7 Tryz.underlying49 rfl (by kernel_rfl) (hE7.cell (j := 0) rfl) Tryz.underlying41, ?_⟩
        have fW := (((((((((((((hb05.setCell (le_blk (B := g) (g := g) (j := 0) (Nat.le_refl _)) (.int .u8 eKind)).setCell (le_blk (B := g) (g := g) (j := 1) (Nat.le_refl _)) (.int .i64 eNum)).setCell (le_blk (B := g) (g := g) (j := 2) (Nat.le_refl _)) (.int .i64 eView)).setCell (le_blk (B := g) (g := g) (j := 3) (Nat.le_refl _)) (.int .i64 eClient)).setCell (le_blk (B := g) (g := g) (j := 4) (Nat.le_refl _)) (.int .i64 eSerial)).setCell (le_blk (B := g) (g := g) (j := 5) (Nat.le_refl _)) (.int .u8 eOpKind)).setCell (le_blk (B := g) (g := g) (j := 6) (Nat.le_refl _)) (.int .i64 eOpAt)).setCell (le_blk (B := g) (g := g) (j := 7) (Nat.le_refl _)) (.int .i64 eOpN)).setCell (le_blk (B := g) (g := g) (j := 8) (Nat.le_refl _)) (.slice eOpDataA eOpDatan eOpDatac)).setCell (le_blk (B := g) (g := g) (j := 9) (Nat.le_refl _)) (.slice eOpOldA eOpOldn eOpOldc)).setCell (le_blk (B := g) (g := g) (j := 10) (Nat.le_refl _)) (.int .i64 eGroupEpoch)).setCell (le_blk (B := g) (g := g) (j := 11) (Nat.le_refl _)) (.slice eGroupMembersA eGroupMembersn eGroupMembersc)).setCell (le_blk (B := g) (g := g + 1) (j := 0) (by omega)) (.int .i64 0)).drew.drew.setCell (le_blk (B := g) (g := g + 1) (j := 0) (by omega)) (.int .i64 0)
        have fF := ((((((((((((((Fr.set (X := fun x => x = g ∨ x = g + 1) w5 ⟨g, 0, none⟩ (.int .u8 eKind) (.inl rfl)).trans (Fr.set (X := fun x => x = g ∨ x = g + 1) _ ⟨g, 1, none⟩ (.int .i64 eNum) (.inl rfl))).trans (Fr.set (X := fun x => x = g ∨ x = g + 1) _ ⟨g, 2, none⟩ (.int .i64 eView) (.inl rfl))).trans (Fr.set (X := fun x => x = g ∨ x = g + 1) _ ⟨g, 3, none⟩ (.int .i64 eClient) (.inl rfl))).trans (Fr.set (X := fun x => x = g ∨ x = g + 1) _ ⟨g, 4, none⟩ (.int .i64 eSerial) (.inl rfl))).trans (Fr.set (X := fun x => x = g ∨ x = g + 1) _ ⟨g, 5, none⟩ (.int .u8 eOpKind) (.inl rfl))).trans (Fr.set (X := fun x => x = g ∨ x = g + 1) _ ⟨g, 6, none⟩ (.int .i64 eOpAt) (.inl rfl))).trans (Fr.set (X := fun x => x = g ∨ x = g + 1) _ ⟨g, 7, none⟩ (.int .i64 eOpN) (.inl rfl))).trans (Fr.set (X := fun x => x = g ∨ x = g + 1) _ ⟨g, 8, none⟩ (.slice eOpDataA eOpDatan eOpDatac) (.inl rfl))).trans (Fr.set (X := fun x => x = g ∨ x = g + 1) _ ⟨g, 9, none⟩ (.slice eOpOldA eOpOldn eOpOldc) (.inl rfl))).trans (Fr.set (X := fun x => x = g ∨ x = g + 1) _ ⟨g, 10, none⟩ (.int .i64 eGroupEpoch) (.inl rfl))).trans (Fr.set (X := fun x => x = g ∨ x = g + 1) _ ⟨g, 11, none⟩ (.slice eGroupMembersA eGroupMembersn eGroupMembersc) (.inl rfl))).trans (Fr.set (X := fun x => x = g ∨ x = g + 1) _ ⟨g + 1, 0, none⟩ (.int .i64 0) (.inr rfl))).drew.drew.trans (Fr.set (X := fun x => x = g ∨ x = g + 1) _ ⟨g + 1, 0, none⟩ (.int .i64 0) (.inr rfl)))
        refine ⟨_, by rw [Hx.out.1, Hx.out.2.2]; rfl, ?_, by rw [hg]; exact fW⟩
        rw [Hx.out.2.1]
        exact (HI.out.fr fF (fun k hk h => by rcases h with h | h <;> omega)).mono (fun k hk => by omega)
  · have hx : deE7 iw7 bs = rdE7 bs := by unfold deE7; rw [if_pos hno]
    obtain ⟨x0, hx0⟩ : ∃ y, rdE7 bs = y := ⟨_, rfl⟩
    rw [hx0] at hx hno ⊢
    have Hx := hide hx
    clear hx hx0
    refine leaves_cons (f := 70) (args := #[.pointer (some ⟨g + 1, 0, none⟩)]) (by simp) (by simp [go_sem]) ?_
    refine (merecov ⟨g + 1, 0, none⟩ x0 0 _ (hE3.cell (j := 0) rfl) (hE3.frozen 0) hE3.lt).mono ?_
    rintro e u w6 ⟨rfl, rfl, rfl⟩
    have hR6 := (hR3.drew.alloc (.cells #[.int .i64 x0] 178)).apart (k := g + 1) (by omega) 0 (.int .i64 x0)
    have hE6 := (hE3.drew.alloc (.cells #[.int .i64 x0] 178)).set 0 (.int .i64 x0)
    refine ⟨_, results_cie rfl rfl rfl hR6 Tryz.underlying49 rfl (by kernel_rfl) (hE6.cell (j := 0) rfl) Tryz.underlying41, ?_⟩
    refine decE_bad Hx.out hno ?_
    exact (hb03.drew.alloc (by have := hR3.lt; simp; omega) _).setCell (by show w.heap.size ≤ g + 1; omega) _
end Go.Proofs.YtkknkdjdneldlaaGreat
