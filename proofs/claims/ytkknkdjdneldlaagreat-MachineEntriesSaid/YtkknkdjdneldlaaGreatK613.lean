/- Texts joined (shake.py). -/
import Derived.Test.YtkknkdjdneldlaaGreatK69
namespace Go.Proofs.YtkknkdjdneldlaaGreat
set_option maxRecDepth 20000
open Go.RowKit Go.Px Go.Maps
set_option linter.unusedVariables false
set_option linter.unusedSimpArgs false
def EntRd (b : Nat) (A : Option Addr) (m c : Nat) (bs : List UInt8) (w : World) (e : Ending) (w' : World) : Prop :=
  Fr (fun k => k = b) w w' ∧ ((rdE7 bs = 0 ∧ ∃ cs, e = .returned (.agg cs.toArray) ∧ tyEntry.Is w' (fun k => w.heap.size ≤ k) (rdV7 iw7 bs) cs ∧ Blk w' b [.slice A m c, .int .i64 (rdT7 bs)] 125) ∨ (rdE7 bs ≠ 0 ∧ e = .panicked (stopped (rdE7 bs))))
theorem iw7_bd (v : Nat) : -9223372036854775808 ≤ iw7 v ∧ iw7 v ≤ 9223372036854775807 := by unfold iw7 wrap64; omega

set_option maxRecDepth 20000 in
set_option maxHeartbeats 6400000 in
theorem entry_short (b : Nat) (A : Option Addr) (m c : Nat) (bs : List UInt8) (w : World) (hB : Blk w b [.slice A m c, .int .i64 0] 125) (hm : bs.length = m) (hmc : m ≤ c) (hm8 : m ≤ 140737488355328) (hc : c ≤ 9223372036854775807) (hr : Rd w A (bys bs)) (hlo : Lo b A) (h33 : m < 33) :
    Calls Tryz.prog 73 #[.pointer (some ⟨b, 0, none⟩)] w (EntRd b A m c bs w) := by
  have hbl := hB.lt
  obtain ⟨g2, hg2⟩ : ∃ g, w.heap.size = g := ⟨_, rfl⟩
  obtain ⟨w0, hw0⟩ : ∃ y, w.alloc (.cells #[.int .u8 0, .int .i64 0, .int .i64 0, .int .i64 0, .int .i64 0, .int .u8 0, .int .i64 0, .int .i64 0, .slice none 0 0, .slice none 0 0, .int .i64 0, .slice none 0 0] 49) = y := ⟨_, rfl⟩
  have hR0 : Blk w0 g2 [.int .u8 0, .int .i64 0, .int .i64 0, .int .i64 0, .int .i64 0, .int .u8 0, .int .i64 0, .int .i64 0, .slice none 0 0, .slice none 0 0, .int .i64 0, .slice none 0 0] 49 := by rw [← hw0, ← hg2]; exact Blk.new w _ _
  have hb0 : Below w.heap.size w w0 := by rw [← hw0]; exact (Below.refl _ _).alloc (Nat.le_refl _) _
  have hz0 : w0.heap.size = g2 + 1 := by rw [← hw0, ← hg2]; simp
  have hbg : b < g2 := by omega
  have hAb : bys bs ≠ [] → ∀ p, A = some p → ¬ (fun k => k = b) p.block := fun _ p hp h => by have h : p.block = b := h; have := hlo p hp; omega
  have HW := hide (And.intro (hB.below hb0) (hr.below hb0))
  have HF0 := hide (Fr.of_below (X := fun k => k = b) hb0)
  have HR0 := hide hR0
  have HAb := hide hAb
  have HLo := hide hlo
  have Hw0 := hide hw0
  have Hg2 := hide hg2
  have Hm := hide hm
  obtain ⟨K, hK⟩ : ∃ y, getV bs 0 1 = y := ⟨_, rfl⟩
  obtain ⟨n1, hn1⟩ : ∃ y, iw7 (getV bs 1 8) = y := ⟨_, rfl⟩
  obtain ⟨n2, hn2⟩ : ∃ y, iw7 (getV bs 9 8) = y := ⟨_, rfl⟩
  obtain ⟨n3, hn3⟩ : ∃ y, iw7 (getV bs 17 8) = y := ⟨_, rfl⟩
  obtain ⟨n4, hn4⟩ : ∃ y, iw7 (getV bs 25 8) = y := ⟨_, rfl⟩
  have hK256 : K < 256 := by rw [← hK]; exact getV_1 bs 0
  have hkw : IntKind.u8.wrap (K : Int) = (K : Int) := by rw [IntKind.wrap_u8]; omega
  have hN1 := hide (show -9223372036854775808 ≤ n1 ∧ n1 ≤ 9223372036854775807 from hn1 ▸ iw7_bd _)
  have hN2 := hide (show -9223372036854775808 ≤ n2 ∧ n2 ≤ 9223372036854775807 from hn2 ▸ iw7_bd _)
  have hN3 := hide (show -9223372036854775808 ≤ n3 ∧ n3 ≤ 9223372036854775807 from hn3 ▸ iw7_bd _)
  have hN4 := hide (show -9223372036854775808 ≤ n4 ∧ n4 ≤ 9223372036854775807 from hn4 ▸ iw7_bd _)
  have HVV : Hid (rdV7 iw7 bs = (K, n1, n2, n3, n4, (if K = 1 then (opK (bs.drop 33), (opP (bs.drop 33) : Int), (opN (bs.drop 33) : Int), opD (bs.drop 33), opO (bs.drop 33)) else (0, 0, 0, [], [])), (if K = 2 then (iw7 (getV bs 33 8), memB bs 42 (getV bs 41 1)) else (0, [])))) := hide (by rw [← hK, ← hn1, ← hn2, ← hn3, ← hn4]; rfl)
  have HTT : Hid (rdT7 bs = if K = 1 then 33 + opT (bs.drop 33) else if K = 2 then 42 + (getV bs 41 1 : Int) else 33) := hide (by rw [← hK]; rfl)
  have HEE : Hid (rdE7 bs = if m < 33 then 10 else if K = 1 then opE (bs.drop 33) else if K = 2 then (if 42 + getV bs 41 1 ≤ m then 0 else 10) else 0) := hide (by rw [← hK, ← hm]; rfl)
  have HK : Hid (getV bs ((0 : Nat) : Int) ((1 : Nat) : Int) = K) := hide hK
  have Hn1 : Hid (iw7 (getV bs ((1 : Nat) : Int) ((8 : Nat) : Int)) = n1) := hide hn1
  have Hn2 : Hid (iw7 (getV bs ((9 : Nat) : Int) ((8 : Nat) : Int)) = n2) := hide hn2
  have Hn3 : Hid (iw7 (getV bs ((17 : Nat) : Int) ((8 : Nat) : Int)) = n3) := hide hn3
  have Hn4 : Hid (iw7 (getV bs ((25 : Nat) : Int) ((8 : Nat) : Int)) = n4) := hide hn4
  clear hB hr hb0 hR0 hAb hlo hw0 hg2 hm hK hn1 hn2 hn3 hn4
  have HE := hide (show rdE7 bs = 10 by rw [HEE.out, if_pos h33])
  rcases (show m < 1 ∨ (1 ≤ m ∧ m < 9) ∨ (9 ≤ m ∧ m < 17) ∨ (17 ≤ m ∧ m < 25) ∨ 25 ≤ m by omega) with hj | ⟨hj, hj2⟩ | ⟨hj, hj2⟩ | ⟨hj, hj2⟩ | hj
  · go_enter Tryz.func73, Tryz.ntmps73
    go_wp2_with fail
    rw [Hw0.out]
    try rw [Hg2.out]
    refine wp_region_any (by kernel_rfl) ?_
    show wpAny _ _ _ _ _ _ _ w0.drew
    refine wpAny_take (fuel := 23) (i := 0) (v := .pointer (some ⟨b, 0, none⟩)) rfl (by kernel_rfl) (by kernel_rfl) (by kernel_rfl) (fun _ _ _ h => h) (Or.inl ⟨by rfl, fun Z => ?_⟩) ?_
    · go_simp
    refine wpAny_take (fuel := 22) (i := 1) (v := .pointer (some ⟨b, 0, none⟩)) rfl (by kernel_rfl) (by kernel_rfl) (by kernel_rfl) (fun _ _ _ h => h) (Or.inl ⟨by rfl, fun Z => ?_⟩) ?_
    · go_simp
    refine wpAny_take (fuel := 21) (i := 2) (v := .pointer (some ⟨b, 0, none⟩)) rfl (by kernel_rfl) (by kernel_rfl) (by kernel_rfl) (fun _ _ _ h => h) (Or.inl ⟨by rfl, fun Z => ?_⟩) ?_
    · go_simp
    refine wpAny_take (fuel := 20) (i := 5) (v := .pointer (some ⟨b, 0, none⟩)) rfl (by kernel_rfl) (by kernel_rfl) (by kernel_rfl) (fun _ _ _ h => h) (Or.inl ⟨by rfl, fun Z => ?_⟩) ?_
    · go_simp
    refine wpAny_take (fuel := 19) (i := 6) (v := .pointer (some ⟨b, 0, none⟩)) rfl (by kernel_rfl) (by kernel_rfl) (by kernel_rfl) (fun _ _ _ h => h) (Or.inl ⟨by rfl, fun Z => ?_⟩) ?_
    · go_simp
    refine wpAny_take (fuel := 18) (i := 7) (v := .pointer (some ⟨b, 0, none⟩)) rfl (by kernel_rfl) (by kernel_rfl) (by kernel_rfl) (fun _ _ _ h => h) (Or.inl ⟨by rfl, fun Z => ?_⟩) ?_
    · go_simp
    refine wpAny_take (fuel := 17) (i := 9) (v := .pointer (some ⟨b, 0, none⟩)) rfl (by kernel_rfl) (by kernel_rfl) (by kernel_rfl) (fun _ _ _ h => h) (Or.inl ⟨by rfl, fun Z => ?_⟩) ?_
    · go_simp
    refine wpAny_take (fuel := 16) (i := 10) (v := .pointer (some ⟨b, 0, none⟩)) rfl (by kernel_rfl) (by kernel_rfl) (by kernel_rfl) (fun _ _ _ h => h) (Or.inl ⟨by rfl, fun Z => ?_⟩) ?_
    · go_simp
    refine wpAny_take (fuel := 15) (i := 11) (v := .pointer (some ⟨b, 0, none⟩)) rfl (by kernel_rfl) (by kernel_rfl) (by kernel_rfl) (fun _ _ _ h => h) (Or.inl ⟨by rfl, fun Z => ?_⟩) ?_
    · go_simp
    refine wpAny_take (fuel := 14) (i := 13) (v := .pointer (some ⟨b, 0, none⟩)) rfl (by kernel_rfl) (by kernel_rfl) (by kernel_rfl) (fun _ _ _ h => h) (Or.inl ⟨by rfl, fun Z => ?_⟩) ?_
    · go_simp
    refine wpAny_take (fuel := 13) (i := 14) (v := .pointer (some ⟨b, 0, none⟩)) rfl (by kernel_rfl) (by kernel_rfl) (by kernel_rfl) (fun _ _ _ h => h) (Or.inl ⟨by rfl, fun Z => ?_⟩) ?_
    · go_simp
    refine wpAny_take (fuel := 12) (i := 15) (v := .pointer (some ⟨b, 0, none⟩)) rfl (by kernel_rfl) (by kernel_rfl) (by kernel_rfl) (fun _ _ _ h => h) (Or.inl ⟨by rfl, fun Z => ?_⟩) ?_
    · go_simp
    refine wpAny_take (fuel := 11) (i := 17) (v := .pointer (some ⟨b, 0, none⟩)) rfl (by kernel_rfl) (by kernel_rfl) (by kernel_rfl) (fun _ _ _ h => h) (Or.inl ⟨by rfl, fun Z => ?_⟩) ?_
    · go_simp
    refine wpAny_take (fuel := 10) (i := 18) (v := .pointer (some ⟨b, 0, none⟩)) rfl (by kernel_rfl) (by kernel_rfl) (by kernel_rfl) (fun _ _ _ h => h) (Or.inl ⟨by rfl, fun Z => ?_⟩) ?_
    · go_simp
    refine wpAny_take (fuel := 9) (i := 19) (v := .pointer (some ⟨b, 0, none⟩)) rfl (by kernel_rfl) (by kernel_rfl) (by kernel_rfl) (fun _ _ _ h => h) (Or.inl ⟨by rfl, fun Z => ?_⟩) ?_
    · go_simp
    obtain ⟨X0, hX0⟩ : ∃ y, w0.drew = y := ⟨_, rfl⟩
    have hFx : Fr (fun k => k = b) w0 X0 := by rw [← hX0]; exact (Fr.refl _ _).drew
    have hBx := HW.out.1
    have hBx : Blk X0 b [.slice A m c, .int .i64 ((0 : Nat) : Int)] 125 := by rw [← hX0]; exact hBx
    have hrx := HW.out.2.fr hFx HAb.out
    rw [hX0]
    have HX0 := hide hX0
    clear hX0
    refine any_two (fuel := 8) (i := 3) (j := 22) (by kernel_rfl) rfl rfl rfl rfl (fun Kk hK => ?_) (fun Kk hK => ?_)
    · have HC := lnumw_bad b 125 A m c bs 0 1 X0 hBx Hm.out hmc hm8 hc hrx (by omega) (by omega) (by omega)
      go_simp
      refine HC.mono ?_
      rintro e' X1 ⟨rfl, hFy⟩
      exact ⟨rfl, HF0.out.trans (hFx.trans hFy), .inr ⟨by rw [HE.out]; decide, by rw [HE.out]⟩⟩
    · obtain ⟨X1, hY⟩ : ∃ y, X0.alloc (.cells #[.int .u8 0, .int .i64 0, .int .i64 0, .int .i64 0, .int .i64 0, .int .u8 0, .int .i64 0, .int .i64 0, .slice none 0 0, .slice none 0 0, .int .i64 0, .slice none 0 0] 49) = y := ⟨_, rfl⟩
      obtain ⟨g3, hg3⟩ : ∃ y, X0.heap.size = y := ⟨_, rfl⟩
      have hZ : Blk X1 g3 [.int .u8 0, .int .i64 0, .int .i64 0, .int .i64 0, .int .i64 0, .int .u8 0, .int .i64 0, .int .i64 0, .slice none 0 0, .slice none 0 0, .int .i64 0, .slice none 0 0] 49 := by rw [← hY, ← hg3]; exact Blk.new X0 _ _
      have hst : Below X0.heap.size X0 X1 := by rw [← hY]; exact (Below.refl _ _).alloc (Nat.le_refl _) _
      have hgb3 : w0.heap.size ≤ g3 := by rw [← hg3]; exact hFx.size
      replace hrx := hrx.below hst
      replace hBx := hBx.below hst
      replace hFx := hFx.trans (Fr.of_below hst)
      have hz1 := hst.size
      have HY := hide hY
      have Hg3 := hide hg3
      clear hY hg3 hst
      go_simp
      rw [HY.out, Hg3.out]
      refine hK _ _ ?_
      clear hK Kk
      refine any_one (fuel := 7) (i := 3) (by kernel_rfl) rfl rfl (fun Kk hK => ?_)
      have HC := lnumw_bad b 125 A m c bs 0 1 X1 hBx Hm.out hmc hm8 hc hrx (by omega) (by omega) (by omega)
      go_simp
      refine HC.mono ?_
      rintro e' X2 ⟨rfl, hFy⟩
      exact ⟨rfl, HF0.out.trans (hFx.trans hFy), .inr ⟨by rw [HE.out]; decide, by rw [HE.out]⟩⟩
  · go_enter Tryz.func73, Tryz.ntmps73
    go_wp2_with fail
    rw [Hw0.out]
    try rw [Hg2.out]
    refine wp_region_any (by kernel_rfl) ?_
    show wpAny _ _ _ _ _ _ _ w0.drew
    refine wpAny_take (fuel := 23) (i := 0) (v := .pointer (some ⟨b, 0, none⟩)) rfl (by kernel_rfl) (by kernel_rfl) (by kernel_rfl) (fun _ _ _ h => h) (Or.inl ⟨by rfl, fun Z => ?_⟩) ?_
    · go_simp
    refine wpAny_take (fuel := 22) (i := 1) (v := .pointer (some ⟨b, 0, none⟩)) rfl (by kernel_rfl) (by kernel_rfl) (by kernel_rfl) (fun _ _ _ h => h) (Or.inl ⟨by rfl, fun Z => ?_⟩) ?_
    · go_simp
    refine wpAny_take (fuel := 21) (i := 2) (v := .pointer (some ⟨b, 0, none⟩)) rfl (by kernel_rfl) (by kernel_rfl) (by kernel_rfl) (fun _ _ _ h => h) (Or.inl ⟨by rfl, fun Z => ?_⟩) ?_
    · go_simp
    refine wpAny_take (fuel := 20) (i := 5) (v := .pointer (some ⟨b, 0, none⟩)) rfl (by kernel_rfl) (by kernel_rfl) (by kernel_rfl) (fun _ _ _ h => h) (Or.inl ⟨by rfl, fun Z => ?_⟩) ?_
    · go_simp
    refine wpAny_take (fuel := 19) (i := 6) (v := .pointer (some ⟨b, 0, none⟩)) rfl (by kernel_rfl) (by kernel_rfl) (by kernel_rfl) (fun _ _ _ h => h) (Or.inl ⟨by rfl, fun Z => ?_⟩) ?_
    · go_simp
    refine wpAny_take (fuel := 18) (i := 7) (v := .pointer (some ⟨b, 0, none⟩)) rfl (by kernel_rfl) (by kernel_rfl) (by kernel_rfl) (fun _ _ _ h => h) (Or.inl ⟨by rfl, fun Z => ?_⟩) ?_
    · go_simp
    refine wpAny_take (fuel := 17) (i := 9) (v := .pointer (some ⟨b, 0, none⟩)) rfl (by kernel_rfl) (by kernel_rfl) (by kernel_rfl) (fun _ _ _ h => h) (Or.inl ⟨by rfl, fun Z => ?_⟩) ?_
    · go_simp
    refine wpAny_take (fuel := 16) (i := 10) (v := .pointer (some ⟨b, 0, none⟩)) rfl (by kernel_rfl) (by kernel_rfl) (by kernel_rfl) (fun _ _ _ h => h) (Or.inl ⟨by rfl, fun Z => ?_⟩) ?_
    · go_simp
    refine wpAny_take (fuel := 15) (i := 11) (v := .pointer (some ⟨b, 0, none⟩)) rfl (by kernel_rfl) (by kernel_rfl) (by kernel_rfl) (fun _ _ _ h => h) (Or.inl ⟨by rfl, fun Z => ?_⟩) ?_
    · go_simp
    refine wpAny_take (fuel := 14) (i := 13) (v := .pointer (some ⟨b, 0, none⟩)) rfl (by kernel_rfl) (by kernel_rfl) (by kernel_rfl) (fun _ _ _ h => h) (Or.inl ⟨by rfl, fun Z => ?_⟩) ?_
    · go_simp
    refine wpAny_take (fuel := 13) (i := 14) (v := .pointer (some ⟨b, 0, none⟩)) rfl (by kernel_rfl) (by kernel_rfl) (by kernel_rfl) (fun _ _ _ h => h) (Or.inl ⟨by rfl, fun Z => ?_⟩) ?_
    · go_simp
    refine wpAny_take (fuel := 12) (i := 15) (v := .pointer (some ⟨b, 0, none⟩)) rfl (by kernel_rfl) (by kernel_rfl) (by kernel_rfl) (fun _ _ _ h => h) (Or.inl ⟨by rfl, fun Z => ?_⟩) ?_
    · go_simp
    refine wpAny_take (fuel := 11) (i := 17) (v := .pointer (some ⟨b, 0, none⟩)) rfl (by kernel_rfl) (by kernel_rfl) (by kernel_rfl) (fun _ _ _ h => h) (Or.inl ⟨by rfl, fun Z => ?_⟩) ?_
    · go_simp
    refine wpAny_take (fuel := 10) (i := 18) (v := .pointer (some ⟨b, 0, none⟩)) rfl (by kernel_rfl) (by kernel_rfl) (by kernel_rfl) (fun _ _ _ h => h) (Or.inl ⟨by rfl, fun Z => ?_⟩) ?_
    · go_simp
    refine wpAny_take (fuel := 9) (i := 19) (v := .pointer (some ⟨b, 0, none⟩)) rfl (by kernel_rfl) (by kernel_rfl) (by kernel_rfl) (fun _ _ _ h => h) (Or.inl ⟨by rfl, fun Z => ?_⟩) ?_
    · go_simp
    obtain ⟨X0, hX0⟩ : ∃ y, w0.drew = y := ⟨_, rfl⟩
    have hFx : Fr (fun k => k = b) w0 X0 := by rw [← hX0]; exact (Fr.refl _ _).drew
    have hBx := HW.out.1
    have hBx : Blk X0 b [.slice A m c, .int .i64 ((0 : Nat) : Int)] 125 := by rw [← hX0]; exact hBx
    have hrx := HW.out.2.fr hFx HAb.out
    rw [hX0]
    have HX0 := hide hX0
    clear hX0
    refine any_two (fuel := 8) (i := 3) (j := 22) (by kernel_rfl) rfl rfl rfl rfl (fun Kk hK => ?_) (fun Kk hK => ?_)
    · have HC := lnumw_any b 125 A m c bs 0 1 X0 hBx Hm.out hmc hm8 hc hrx (by omega) (by omega) (by omega)
      rw [HK.out] at HC
      go_simp
      refine HC.mono ?_
      rintro e' X1 ⟨rfl, hBy, hFy⟩
      replace hrx := hrx.fr hFy HAb.out
      replace hFx := hFx.trans hFy
      have hz1 := hFy.size
      have hBx : Blk X1 b [.slice A m c, .int .i64 ((1 : Nat) : Int)] 125 := hBy
      clear HC hFy hBy
      refine hK _ _ ?_
      clear hK Kk
      refine wpAny_take (fuel := 7) (i := 4) (v := .int .u8 (K : Int)) rfl (by kernel_rfl) (by kernel_rfl) (by kernel_rfl) (fun _ _ _ h => h) (Or.inl ⟨by rfl, fun Z => ?_⟩) ?_
      · go_simp
      refine any_two (fuel := 6) (i := 8) (j := 22) (by kernel_rfl) rfl rfl rfl rfl (fun Kk hK => ?_) (fun Kk hK => ?_)
      · have HC := lintw_bad b 125 A m c bs 1 8 X1 hBx Hm.out hmc hm8 hc hrx (by omega) (by omega) (by omega)
        go_simp
        refine HC.mono ?_
        rintro e' X2 ⟨rfl, hFy⟩
        exact ⟨rfl, HF0.out.trans (hFx.trans hFy), .inr ⟨by rw [HE.out]; decide, by rw [HE.out]⟩⟩
      · obtain ⟨X2, hY⟩ : ∃ y, X1.alloc (.cells #[.int .u8 0, .int .i64 0, .int .i64 0, .int .i64 0, .int .i64 0, .int .u8 0, .int .i64 0, .int .i64 0, .slice none 0 0, .slice none 0 0, .int .i64 0, .slice none 0 0] 49) = y := ⟨_, rfl⟩
        obtain ⟨g3, hg3⟩ : ∃ y, X1.heap.size = y := ⟨_, rfl⟩
        have hZ : Blk X2 g3 [.int .u8 0, .int .i64 0, .int .i64 0, .int .i64 0, .int .i64 0, .int .u8 0, .int .i64 0, .int .i64 0, .slice none 0 0, .slice none 0 0, .int .i64 0, .slice none 0 0] 49 := by rw [← hY, ← hg3]; exact Blk.new X1 _ _
        have hst : Below X1.heap.size X1 X2 := by rw [← hY]; exact (Below.refl _ _).alloc (Nat.le_refl _) _
        have hgb3 : w0.heap.size ≤ g3 := by rw [← hg3]; exact hFx.size
        replace hrx := hrx.below hst
        replace hBx := hBx.below hst
        replace hFx := hFx.trans (Fr.of_below hst)
        have hz2 := hst.size
        have HY := hide hY
        have Hg3 := hide hg3
        clear hY hg3 hst
        go_simp
        rw [HY.out, Hg3.out]
        refine hK _ _ ?_
        clear hK Kk
        refine any_one (fuel := 5) (i := 8) (by kernel_rfl) rfl rfl (fun Kk hK => ?_)
        have HC := lintw_bad b 125 A m c bs 1 8 X2 hBx Hm.out hmc hm8 hc hrx (by omega) (by omega) (by omega)
        go_simp
        refine HC.mono ?_
        rintro e' X3 ⟨rfl, hFy⟩
        exact ⟨rfl, HF0.out.trans (hFx.trans hFy), .inr ⟨by rw [HE.out]; decide, by rw [HE.out]⟩⟩
    · obtain ⟨X1, hY⟩ : ∃ y, X0.alloc (.cells #[.int .u8 0, .int .i64 0, .int .i64 0, .int .i64 0, .int .i64 0, .int .u8 0, .int .i64 0, .int .i64 0, .slice none 0 0, .slice none 0 0, .int .i64 0, .slice none 0 0] 49) = y := ⟨_, rfl⟩
      obtain ⟨g3, hg3⟩ : ∃ y, X0.heap.size = y := ⟨_, rfl⟩
      have hZ : Blk X1 g3 [.int .u8 0, .int .i64 0, .int .i64 0, .int .i64 0, .int .i64 0, .int .u8 0, .int .i64 0, .int .i64 0, .slice none 0 0, .slice none 0 0, .int .i64 0, .slice none 0 0] 49 := by rw [← hY, ← hg3]; exact Blk.new X0 _ _
      have hst : Below X0.heap.size X0 X1 := by rw [← hY]; exact (Below.refl _ _).alloc (Nat.le_refl _) _
      have hgb3 : w0.heap.size ≤ g3 := by rw [← hg3]; exact hFx.size
      replace hrx := hrx.below hst
      replace hBx := hBx.below hst
      replace hFx := hFx.trans (Fr.of_below hst)
      have hz1 := hst.size
      have HY := hide hY
      have Hg3 := hide hg3
      clear hY hg3 hst
      go_simp
      rw [HY.out, Hg3.out]
      refine hK _ _ ?_
      clear hK Kk
      refine any_one (fuel := 7) (i := 3) (by kernel_rfl) rfl rfl (fun Kk hK => ?_)
      have HC := lnumw_any b 125 A m c bs 0 1 X1 hBx Hm.out hmc hm8 hc hrx (by omega) (by omega) (by omega)
      rw [HK.out] at HC
      go_simp
      refine HC.mono ?_
      rintro e' X2 ⟨rfl, hBy, hFy⟩
      replace hrx := hrx.fr hFy HAb.out
      replace hFx := hFx.trans hFy
      have hz2 := hFy.size
      have hBx : Blk X2 b [.slice A m c, .int .i64 ((1 : Nat) : Int)] 125 := hBy
      replace hZ := hZ.fr hFy (fun h => by have h : g3 = b := h; omega)
      clear HC hFy hBy
      refine hK _ _ ?_
      clear hK Kk
      refine wpAny_take (fuel := 6) (i := 4) (v := .int .u8 (K : Int)) rfl (by kernel_rfl) (by kernel_rfl) (by kernel_rfl) (fun _ _ _ h => h) (Or.inl ⟨by rfl, fun Z => ?_⟩) ?_
      · go_simp
      refine any_one (fuel := 5) (i := 8) (by kernel_rfl) rfl rfl (fun Kk hK => ?_)
      have HC := lintw_bad b 125 A m c bs 1 8 X2 hBx Hm.out hmc hm8 hc hrx (by omega) (by omega) (by omega)
      go_simp
      refine HC.mono ?_
      rintro e' X3 ⟨rfl, hFy⟩
      exact ⟨rfl, HF0.out.trans (hFx.trans hFy), .inr ⟨by rw [HE.out]; decide, by rw [HE.out]⟩⟩
  · go_enter Tryz.func73, Tryz.ntmps73
    go_wp2_with fail
    rw [Hw0.out]
    try rw [Hg2.out]
    refine wp_region_any (by kernel_rfl) ?_
    show wpAny _ _ _ _ _ _ _ w0.drew
    refine wpAny_take (fuel := 23) (i := 0) (v := .pointer (some ⟨b, 0, none⟩)) rfl (by kernel_rfl) (by kernel_rfl) (by kernel_rfl) (fun _ _ _ h => h) (Or.inl ⟨by rfl, fun Z => ?_⟩) ?_
    · go_simp
    refine wpAny_take (fuel := 22) (i := 1) (v := .pointer (some ⟨b, 0, none⟩)) rfl (by kernel_rfl) (by kernel_rfl) (by kernel_rfl) (fun _ _ _ h => h) (Or.inl ⟨by rfl, fun Z => ?_⟩) ?_
    · go_simp
    refine wpAny_take (fuel := 21) (i := 2) (v := .pointer (some ⟨b, 0, none⟩)) rfl (by kernel_rfl) (by kernel_rfl) (by kernel_rfl) (fun _ _ _ h => h) (Or.inl ⟨by rfl, fun Z => ?_⟩) ?_
    · go_simp
    refine wpAny_take (fuel := 20) (i := 5) (v := .pointer (some ⟨b, 0, none⟩)) rfl (by kernel_rfl) (by kernel_rfl) (by kernel_rfl) (fun _ _ _ h => h) (Or.inl ⟨by rfl, fun Z => ?_⟩) ?_
    · go_simp
    refine wpAny_take (fuel := 19) (i := 6) (v := .pointer (some ⟨b, 0, none⟩)) rfl (by kernel_rfl) (by kernel_rfl) (by kernel_rfl) (fun _ _ _ h => h) (Or.inl ⟨by rfl, fun Z => ?_⟩) ?_
    · go_simp
    refine wpAny_take (fuel := 18) (i := 7) (v := .pointer (some ⟨b, 0, none⟩)) rfl (by kernel_rfl) (by kernel_rfl) (by kernel_rfl) (fun _ _ _ h => h) (Or.inl ⟨by rfl, fun Z => ?_⟩) ?_
    · go_simp
    refine wpAny_take (fuel := 17) (i := 9) (v := .pointer (some ⟨b, 0, none⟩)) rfl (by kernel_rfl) (by kernel_rfl) (by kernel_rfl) (fun _ _ _ h => h) (Or.inl ⟨by rfl, fun Z => ?_⟩) ?_
    · go_simp
    refine wpAny_take (fuel := 16) (i := 10) (v := .pointer (some ⟨b, 0, none⟩)) rfl (by kernel_rfl) (by kernel_rfl) (by kernel_rfl) (fun _ _ _ h => h) (Or.inl ⟨by rfl, fun Z => ?_⟩) ?_
    · go_simp
    refine wpAny_take (fuel := 15) (i := 11) (v := .pointer (some ⟨b, 0, none⟩)) rfl (by kernel_rfl) (by kernel_rfl) (by kernel_rfl) (fun _ _ _ h => h) (Or.inl ⟨by rfl, fun Z => ?_⟩) ?_
    · go_simp
    refine wpAny_take (fuel := 14) (i := 13) (v := .pointer (some ⟨b, 0, none⟩)) rfl (by kernel_rfl) (by kernel_rfl) (by kernel_rfl) (fun _ _ _ h => h) (Or.inl ⟨by rfl, fun Z => ?_⟩) ?_
    · go_simp
    refine wpAny_take (fuel := 13) (i := 14) (v := .pointer (some ⟨b, 0, none⟩)) rfl (by kernel_rfl) (by kernel_rfl) (by kernel_rfl) (fun _ _ _ h => h) (Or.inl ⟨by rfl, fun Z => ?_⟩) ?_
    · go_simp
    refine wpAny_take (fuel := 12) (i := 15) (v := .pointer (some ⟨b, 0, none⟩)) rfl (by kernel_rfl) (by kernel_rfl) (by kernel_rfl) (fun _ _ _ h => h) (Or.inl ⟨by rfl, fun Z => ?_⟩) ?_
    · go_simp
    refine wpAny_take (fuel := 11) (i := 17) (v := .pointer (some ⟨b, 0, none⟩)) rfl (by kernel_rfl) (by kernel_rfl) (by kernel_rfl) (fun _ _ _ h => h) (Or.inl ⟨by rfl, fun Z => ?_⟩) ?_
    · go_simp
    refine wpAny_take (fuel := 10) (i := 18) (v := .pointer (some ⟨b, 0, none⟩)) rfl (by kernel_rfl) (by kernel_rfl) (by kernel_rfl) (fun _ _ _ h => h) (Or.inl ⟨by rfl, fun Z => ?_⟩) ?_
    · go_simp
    refine wpAny_take (fuel := 9) (i := 19) (v := .pointer (some ⟨b, 0, none⟩)) rfl (by kernel_rfl) (by kernel_rfl) (by kernel_rfl) (fun _ _ _ h => h) (Or.inl ⟨by rfl, fun Z => ?_⟩) ?_
    · go_simp
    obtain ⟨X0, hX0⟩ : ∃ y, w0.drew = y := ⟨_, rfl⟩
    have hFx : Fr (fun k => k = b) w0 X0 := by rw [← hX0]; exact (Fr.refl _ _).drew
    have hBx := HW.out.1
    have hBx : Blk X0 b [.slice A m c, .int .i64 ((0 : Nat) : Int)] 125 := by rw [← hX0]; exact hBx
    have hrx := HW.out.2.fr hFx HAb.out
    rw [hX0]
    have HX0 := hide hX0
    clear hX0
    refine any_two (fuel := 8) (i := 3) (j := 22) (by kernel_rfl) rfl rfl rfl rfl (fun Kk hK => ?_) (fun Kk hK => ?_)
    · have HC := lnumw_any b 125 A m c bs 0 1 X0 hBx Hm.out hmc hm8 hc hrx (by omega) (by omega) (by omega)
      rw [HK.out] at HC
      go_simp
      refine HC.mono ?_
      rintro e' X1 ⟨rfl, hBy, hFy⟩
      replace hrx := hrx.fr hFy HAb.out
      replace hFx := hFx.trans hFy
      have hz1 := hFy.size
      have hBx : Blk X1 b [.slice A m c, .int .i64 ((1 : Nat) : Int)] 125 := hBy
      clear HC hFy hBy
      refine hK _ _ ?_
      clear hK Kk
      refine wpAny_take (fuel := 7) (i := 4) (v := .int .u8 (K : Int)) rfl (by kernel_rfl) (by kernel_rfl) (by kernel_rfl) (fun _ _ _ h => h) (Or.inl ⟨by rfl, fun Z => ?_⟩) ?_
      · go_simp
      refine any_two (fuel := 6) (i := 8) (j := 22) (by kernel_rfl) rfl rfl rfl rfl (fun Kk hK => ?_) (fun Kk hK => ?_)
      · have HC := lintw_any b 125 A m c bs 1 8 X1 hBx Hm.out hmc hm8 hc hrx (by omega) (by omega) (by omega)
        rw [Hn1.out] at HC
        go_simp
        refine HC.mono ?_
        rintro e' X2 ⟨rfl, hBy, hFy⟩
        replace hrx := hrx.fr hFy HAb.out
        replace hFx := hFx.trans hFy
        have hz2 := hFy.size
        have hBx : Blk X2 b [.slice A m c, .int .i64 ((9 : Nat) : Int)] 125 := hBy
        clear HC hFy hBy
        refine hK _ _ ?_
        clear hK Kk
        refine any_two (fuel := 5) (i := 12) (j := 22) (by kernel_rfl) rfl rfl rfl rfl (fun Kk hK => ?_) (fun Kk hK => ?_)
        · have HC := lintw_bad b 125 A m c bs 9 8 X2 hBx Hm.out hmc hm8 hc hrx (by omega) (by omega) (by omega)
          go_simp
          refine HC.mono ?_
          rintro e' X3 ⟨rfl, hFy⟩
          exact ⟨rfl, HF0.out.trans (hFx.trans hFy), .inr ⟨by rw [HE.out]; decide, by rw [HE.out]⟩⟩
        · obtain ⟨X3, hY⟩ : ∃ y, X2.alloc (.cells #[.int .u8 0, .int .i64 0, .int .i64 0, .int .i64 0, .int .i64 0, .int .u8 0, .int .i64 0, .int .i64 0, .slice none 0 0, .slice none 0 0, .int .i64 0, .slice none 0 0] 49) = y := ⟨_, rfl⟩
          obtain ⟨g3, hg3⟩ : ∃ y, X2.heap.size = y := ⟨_, rfl⟩
          have hZ : Blk X3 g3 [.int .u8 0, .int .i64 0, .int .i64 0, .int .i64 0, .int .i64 0, .int .u8 0, .int .i64 0, .int .i64 0, .slice none 0 0, .slice none 0 0, .int .i64 0, .slice none 0 0] 49 := by rw [← hY, ← hg3]; exact Blk.new X2 _ _
          have hst : Below X2.heap.size X2 X3 := by rw [← hY]; exact (Below.refl _ _).alloc (Nat.le_refl _) _
          have hgb3 : w0.heap.size ≤ g3 := by rw [← hg3]; exact hFx.size
          replace hrx := hrx.below hst
          replace hBx := hBx.below hst
          replace hFx := hFx.trans (Fr.of_below hst)
          have hz3 := hst.size
          have HY := hide hY
          have Hg3 := hide hg3
          clear hY hg3 hst
          go_simp
          rw [HY.out, Hg3.out]
          refine hK _ _ ?_
          clear hK Kk
          refine any_one (fuel := 4) (i := 12) (by kernel_rfl) rfl rfl (fun Kk hK => ?_)
          have HC := lintw_bad b 125 A m c bs 9 8 X3 hBx Hm.out hmc hm8 hc hrx (by omega) (by omega) (by omega)
          go_simp
          refine HC.mono ?_
          rintro e' X4 ⟨rfl, hFy⟩
          exact ⟨rfl, HF0.out.trans (hFx.trans hFy), .inr ⟨by rw [HE.out]; decide, by rw [HE.out]⟩⟩
      · obtain ⟨X2, hY⟩ : ∃ y, X1.alloc (.cells #[.int .u8 0, .int .i64 0, .int .i64 0, .int .i64 0, .int .i64 0, .int .u8 0, .int .i64 0, .int .i64 0, .slice none 0 0, .slice none 0 0, .int .i64 0, .slice none 0 0] 49) = y := ⟨_, rfl⟩
        obtain ⟨g3, hg3⟩ : ∃ y, X1.heap.size = y := ⟨_, rfl⟩
        have hZ : Blk X2 g3 [.int .u8 0, .int .i64 0, .int .i64 0, .int .i64 0, .int .i64 0, .int .u8 0, .int .i64 0, .int .i64 0, .slice none 0 0, .slice none 0 0, .int .i64 0, .slice none 0 0] 49 := by rw [← hY, ← hg3]; exact Blk.new X1 _ _
        have hst : Below X1.heap.size X1 X2 := by rw [← hY]; exact (Below.refl _ _).alloc (Nat.le_refl _) _
        have hgb3 : w0.heap.size ≤ g3 := by rw [← hg3]; exact hFx.size
        replace hrx := hrx.below hst
        replace hBx := hBx.below hst
        replace hFx := hFx.trans (Fr.of_below hst)
        have hz2 := hst.size
        have HY := hide hY
        have Hg3 := hide hg3
        clear hY hg3 hst
        go_simp
        rw [HY.out, Hg3.out]
        refine hK _ _ ?_
        clear hK Kk
        refine any_one (fuel := 5) (i := 8) (by kernel_rfl) rfl rfl (fun Kk hK => ?_)
        have HC := lintw_any b 125 A m c bs 1 8 X2 hBx Hm.out hmc hm8 hc hrx (by omega) (by omega) (by omega)
        rw [Hn1.out] at HC
        go_simp
        refine HC.mono ?_
        rintro e' X3 ⟨rfl, hBy, hFy⟩
        replace hrx := hrx.fr hFy HAb.out
        replace hFx := hFx.trans hFy
        have hz3 := hFy.size
        have hBx : Blk X3 b [.slice A m c, .int .i64 ((9 : Nat) : Int)] 125 := hBy
        replace hZ := hZ.fr hFy (fun h => by have h : g3 = b := h; omega)
        clear HC hFy hBy
        refine hK _ _ ?_
        clear hK Kk
        refine any_one (fuel := 4) (i := 12) (by kernel_rfl) rfl rfl (fun Kk hK => ?_)
        have HC := lintw_bad b 125 A m c bs 9 8 X3 hBx Hm.out hmc hm8 hc hrx (by omega) (by omega) (by omega)
        go_simp
        refine HC.mono ?_
        rintro e' X4 ⟨rfl, hFy⟩
        exact ⟨rfl, HF0.out.trans (hFx.trans hFy), .inr ⟨by rw [HE.out]; decide, by rw [HE.out]⟩⟩
    · obtain ⟨X1, hY⟩ : ∃ y, X0.alloc (.cells #[.int .u8 0, .int .i64 0, .int .i64 0, .int .i64 0, .int .i64 0, .int .u8 0, .int .i64 0, .int .i64 0, .slice none 0 0, .slice none 0 0, .int .i64 0, .slice none 0 0] 49) = y := ⟨_, rfl⟩
      obtain ⟨g3, hg3⟩ : ∃ y, X0.heap.size = y := ⟨_, rfl⟩
      have hZ : Blk X1 g3 [.int .u8 0, .int .i64 0, .int .i64 0, .int .i64 0, .int .i64 0, .int .u8 0, .int .i64 0, .int .i64 0, .slice none 0 0, .slice none 0 0, .int .i64 0, .slice none 0 0] 49 := by rw [← hY, ← hg3]; exact Blk.new X0 _ _
      have hst : Below X0.heap.size X0 X1 := by rw [← hY]; exact (Below.refl _ _).alloc (Nat.le_refl _) _
      have hgb3 : w0.heap.size ≤ g3 := by rw [← hg3]; exact hFx.size
      replace hrx := hrx.below hst
      replace hBx := hBx.below hst
      replace hFx := hFx.trans (Fr.of_below hst)
      have hz1 := hst.size
      have HY := hide hY
      have Hg3 := hide hg3
      clear hY hg3 hst
      go_simp
      rw [HY.out, Hg3.out]
      refine hK _ _ ?_
      clear hK Kk
      refine any_one (fuel := 7) (i := 3) (by kernel_rfl) rfl rfl (fun Kk hK => ?_)
      have HC := lnumw_any b 125 A m c bs 0 1 X1 hBx Hm.out hmc hm8 hc hrx (by omega) (by omega) (by omega)
      rw [HK.out] at HC
      go_simp
      refine HC.mono ?_
      rintro e' X2 ⟨rfl, hBy, hFy⟩
      replace hrx := hrx.fr hFy HAb.out
      replace hFx := hFx.trans hFy
      have hz2 := hFy.size
      have hBx : Blk X2 b [.slice A m c, .int .i64 ((1 : Nat) : Int)] 125 := hBy
      replace hZ := hZ.fr hFy (fun h => by have h : g3 = b := h; omega)
      clear HC hFy hBy
      refine hK _ _ ?_
      clear hK Kk
      refine wpAny_take (fuel := 6) (i := 4) (v := .int .u8 (K : Int)) rfl (by kernel_rfl) (by kernel_rfl) (by kernel_rfl) (fun _ _ _ h => h) (Or.inl ⟨by rfl, fun Z => ?_⟩) ?_
      · go_simp
      refine any_one (fuel := 5) (i := 8) (by kernel_rfl) rfl rfl (fun Kk hK => ?_)
      have HC := lintw_any b 125 A m c bs 1 8 X2 hBx Hm.out hmc hm8 hc hrx (by omega) (by omega) (by omega)
      rw [Hn1.out] at HC
      go_simp
      refine HC.mono ?_
      rintro e' X3 ⟨rfl, hBy, hFy⟩
      replace hrx := hrx.fr hFy HAb.out
      replace hFx := hFx.trans hFy
      have hz3 := hFy.size
      have hBx : Blk X3 b [.slice A m c, .int .i64 ((9 : Nat) : Int)] 125 := hBy
      replace hZ := hZ.fr hFy (fun h => by have h : g3 = b := h; omega)
      clear HC hFy hBy
      refine hK _ _ ?_
      clear hK Kk
      refine any_one (fuel := 4) (i := 12) (by kernel_rfl) rfl rfl (fun Kk hK => ?_)
      have HC := lintw_bad b 125 A m c bs 9 8 X3 hBx Hm.out hmc hm8 hc hrx (by omega) (by omega) (by omega)
      go_simp
      refine HC.mono ?_
      rintro e' X4 ⟨rfl, hFy⟩
      exact ⟨rfl, HF0.out.trans (hFx.trans hFy), .inr ⟨by rw [HE.out]; decide, by rw [HE.out]⟩⟩
  · go_enter Tryz.func73, Tryz.ntmps73
    go_wp2_with fail
    rw [Hw0.out]
    try rw [Hg2.out]
    refine wp_region_any (by kernel_rfl) ?_
    show wpAny _ _ _ _ _ _ _ w0.drew
    refine wpAny_take (fuel := 23) (i := 0) (v := .pointer (some ⟨b, 0, none⟩)) rfl (by kernel_rfl) (by kernel_rfl) (by kernel_rfl) (fun _ _ _ h => h) (Or.inl ⟨by rfl, fun Z => ?_⟩) ?_
    · go_simp
    refine wpAny_take (fuel := 22) (i := 1) (v := .pointer (some ⟨b, 0, none⟩)) rfl (by kernel_rfl) (by kernel_rfl) (by kernel_rfl) (fun _ _ _ h => h) (Or.inl ⟨by rfl, fun Z => ?_⟩) ?_
    · go_simp
    refine wpAny_take (fuel := 21) (i := 2) (v := .pointer (some ⟨b, 0, none⟩)) rfl (by kernel_rfl) (by kernel_rfl) (by kernel_rfl) (fun _ _ _ h => h) (Or.inl ⟨by rfl, fun Z => ?_⟩) ?_
    · go_simp
    refine wpAny_take (fuel := 20) (i := 5) (v := .pointer (some ⟨b, 0, none⟩)) rfl (by kernel_rfl) (by kernel_rfl) (by kernel_rfl) (fun _ _ _ h => h) (Or.inl ⟨by rfl, fun Z => ?_⟩) ?_
    · go_simp
    refine wpAny_take (fuel := 19) (i := 6) (v := .pointer (some ⟨b, 0, none⟩)) rfl (by kernel_rfl) (by kernel_rfl) (by kernel_rfl) (fun _ _ _ h => h) (Or.inl ⟨by rfl, fun Z => ?_⟩) ?_
    · go_simp
    refine wpAny_take (fuel := 18) (i := 7) (v := .pointer (some ⟨b, 0, none⟩)) rfl (by kernel_rfl) (by kernel_rfl) (by kernel_rfl) (fun _ _ _ h => h) (Or.inl ⟨by rfl, fun Z => ?_⟩) ?_
    · go_simp
    refine wpAny_take (fuel := 17) (i := 9) (v := .pointer (some ⟨b, 0, none⟩)) rfl (by kernel_rfl) (by kernel_rfl) (by kernel_rfl) (fun _ _ _ h => h) (Or.inl ⟨by rfl, fun Z => ?_⟩) ?_
    · go_simp
    refine wpAny_take (fuel := 16) (i := 10) (v := .pointer (some ⟨b, 0, none⟩)) rfl (by kernel_rfl) (by kernel_rfl) (by kernel_rfl) (fun _ _ _ h => h) (Or.inl ⟨by rfl, fun Z => ?_⟩) ?_
    · go_simp
    refine wpAny_take (fuel := 15) (i := 11) (v := .pointer (some ⟨b, 0, none⟩)) rfl (by kernel_rfl) (by kernel_rfl) (by kernel_rfl) (fun _ _ _ h => h) (Or.inl ⟨by rfl, fun Z => ?_⟩) ?_
    · go_simp
    refine wpAny_take (fuel := 14) (i := 13) (v := .pointer (some ⟨b, 0, none⟩)) rfl (by kernel_rfl) (by kernel_rfl) (by kernel_rfl) (fun _ _ _ h => h) (Or.inl ⟨by rfl, fun Z => ?_⟩) ?_
    · go_simp
    refine wpAny_take (fuel := 13) (i := 14) (v := .pointer (some ⟨b, 0, none⟩)) rfl (by kernel_rfl) (by kernel_rfl) (by kernel_rfl) (fun _ _ _ h => h) (Or.inl ⟨by rfl, fun Z => ?_⟩) ?_
    · go_simp
    refine wpAny_take (fuel := 12) (i := 15) (v := .pointer (some ⟨b, 0, none⟩)) rfl (by kernel_rfl) (by kernel_rfl) (by kernel_rfl) (fun _ _ _ h => h) (Or.inl ⟨by rfl, fun Z => ?_⟩) ?_
    · go_simp
    refine wpAny_take (fuel := 11) (i := 17) (v := .pointer (some ⟨b, 0, none⟩)) rfl (by kernel_rfl) (by kernel_rfl) (by kernel_rfl) (fun _ _ _ h => h) (Or.inl ⟨by rfl, fun Z => ?_⟩) ?_
    · go_simp
    refine wpAny_take (fuel := 10) (i := 18) (v := .pointer (some ⟨b, 0, none⟩)) rfl (by kernel_rfl) (by kernel_rfl) (by kernel_rfl) (fun _ _ _ h => h) (Or.inl ⟨by rfl, fun Z => ?_⟩) ?_
    · go_simp
    refine wpAny_take (fuel := 9) (i := 19) (v := .pointer (some ⟨b, 0, none⟩)) rfl (by kernel_rfl) (by kernel_rfl) (by kernel_rfl) (fun _ _ _ h => h) (Or.inl ⟨by rfl, fun Z => ?_⟩) ?_
    · go_simp
    obtain ⟨X0, hX0⟩ : ∃ y, w0.drew = y := ⟨_, rfl⟩
    have hFx : Fr (fun k => k = b) w0 X0 := by rw [← hX0]; exact (Fr.refl _ _).drew
    have hBx := HW.out.1
    have hBx : Blk X0 b [.slice A m c, .int .i64 ((0 : Nat) : Int)] 125 := by rw [← hX0]; exact hBx
    have hrx := HW.out.2.fr hFx HAb.out
    rw [hX0]
    have HX0 := hide hX0
    clear hX0
    refine any_two (fuel := 8) (i := 3) (j := 22) (by kernel_rfl) rfl rfl rfl rfl (fun Kk hK => ?_) (fun Kk hK => ?_)
    · have HC := lnumw_any b 125 A m c bs 0 1 X0 hBx Hm.out hmc hm8 hc hrx (by omega) (by omega) (by omega)
      rw [HK.out] at HC
      go_simp
      refine HC.mono ?_
      rintro e' X1 ⟨rfl, hBy, hFy⟩
      replace hrx := hrx.fr hFy HAb.out
      replace hFx := hFx.trans hFy
      have hz1 := hFy.size
      have hBx : Blk X1 b [.slice A m c, .int .i64 ((1 : Nat) : Int)] 125 := hBy
      clear HC hFy hBy
      refine hK _ _ ?_
      clear hK Kk
      refine wpAny_take (fuel := 7) (i := 4) (v := .int .u8 (K : Int)) rfl (by kernel_rfl) (by kernel_rfl) (by kernel_rfl) (fun _ _ _ h => h) (Or.inl ⟨by rfl, fun Z => ?_⟩) ?_
      · go_simp
      refine any_two (fuel := 6) (i := 8) (j := 22) (by kernel_rfl) rfl rfl rfl rfl (fun Kk hK => ?_) (fun Kk hK => ?_)
      · have HC := lintw_any b 125 A m c bs 1 8 X1 hBx Hm.out hmc hm8 hc hrx (by omega) (by omega) (by omega)
        rw [Hn1.out] at HC
        go_simp
        refine HC.mono ?_
        rintro e' X2 ⟨rfl, hBy, hFy⟩
        replace hrx := hrx.fr hFy HAb.out
        replace hFx := hFx.trans hFy
        have hz2 := hFy.size
        have hBx : Blk X2 b [.slice A m c, .int .i64 ((9 : Nat) : Int)] 125 := hBy
        clear HC hFy hBy
        refine hK _ _ ?_
        clear hK Kk
        refine any_two (fuel := 5) (i := 12) (j := 22) (by kernel_rfl) rfl rfl rfl rfl (fun Kk hK => ?_) (fun Kk hK => ?_)
        · have HC := lintw_any b 125 A m c bs 9 8 X2 hBx Hm.out hmc hm8 hc hrx (by omega) (by omega) (by omega)
          rw [Hn2.out] at HC
          go_simp
          refine HC.mono ?_
          rintro e' X3 ⟨rfl, hBy, hFy⟩
          replace hrx := hrx.fr hFy HAb.out
          replace hFx := hFx.trans hFy
          have hz3 := hFy.size
          have hBx : Blk X3 b [.slice A m c, .int .i64 ((17 : Nat) : Int)] 125 := hBy
          clear HC hFy hBy
          refine hK _ _ ?_
          clear hK Kk
          refine any_two (fuel := 4) (i := 16) (j := 22) (by kernel_rfl) rfl rfl rfl rfl (fun Kk hK => ?_) (fun Kk hK => ?_)
          · have HC := lintw_bad b 125 A m c bs 17 8 X3 hBx Hm.out hmc hm8 hc hrx (by omega) (by omega) (by omega)
            go_simp
            refine HC.mono ?_
            rintro e' X4 ⟨rfl, hFy⟩
            exact ⟨rfl, HF0.out.trans (hFx.trans hFy), .inr ⟨by rw [HE.out]; decide, by rw [HE.out]⟩⟩
          · obtain ⟨X4, hY⟩ : ∃ y, X3.alloc (.cells #[.int .u8 0, .int .i64 0, .int .i64 0, .int .i64 0, .int .i64 0, .int .u8 0, .int .i64 0, .int .i64 0, .slice none 0 0, .slice none 0 0, .int .i64 0, .slice none 0 0] 49) = y := ⟨_, rfl⟩
            obtain ⟨g3, hg3⟩ : ∃ y, X3.heap.size = y := ⟨_, rfl⟩
            have hZ : Blk X4 g3 [.int .u8 0, .int .i64 0, .int .i64 0, .int .i64 0, .int .i64 0, .int .u8 0, .int .i64 0, .int .i64 0, .slice none 0 0, .slice none 0 0, .int .i64 0, .slice none 0 0] 49 := by rw [← hY, ← hg3]; exact Blk.new X3 _ _
            have hst : Below X3.heap.size X3 X4 := by rw [← hY]; exact (Below.refl _ _).alloc (Nat.le_refl _) _
            have hgb3 : w0.heap.size ≤ g3 := by rw [← hg3]; exact hFx.size
            replace hrx := hrx.below hst
            replace hBx := hBx.below hst
            replace hFx := hFx.trans (Fr.of_below hst)
            have hz4 := hst.size
            have HY := hide hY
            have Hg3 := hide hg3
            clear hY hg3 hst
            go_simp
            rw [HY.out, Hg3.out]
            refine hK _ _ ?_
            clear hK Kk
            refine any_one (fuel := 3) (i := 16) (by kernel_rfl) rfl rfl (fun Kk hK => ?_)
            have HC := lintw_bad b 125 A m c bs 17 8 X4 hBx Hm.out hmc hm8 hc hrx (by omega) (by omega) (by omega)
            go_simp
            refine HC.mono ?_
            rintro e' X5 ⟨rfl, hFy⟩
            exact ⟨rfl, HF0.out.trans (hFx.trans hFy), .inr ⟨by rw [HE.out]; decide, by rw [HE.out]⟩⟩
        · obtain ⟨X3, hY⟩ : ∃ y, X2.alloc (.cells #[.int .u8 0, .int .i64 0, .int .i64 0, .int .i64 0, .int .i64 0, .int .u8 0, .int .i64 0, .int .i64 0, .slice none 0 0, .slice none 0 0, .int .i64 0, .slice none 0 0] 49) = y := ⟨_, rfl⟩
          obtain ⟨g3, hg3⟩ : ∃ y, X2.heap.size = y := ⟨_, rfl⟩
          have hZ : Blk X3 g3 [.int .u8 0, .int .i64 0, .int .i64 0, .int .i64 0, .int .i64 0, .int .u8 0, .int .i64 0, .int .i64 0, .slice none 0 0, .slice none 0 0, .int .i64 0, .slice none 0 0] 49 := by rw [← hY, ← hg3]; exact Blk.new X2 _ _
          have hst : Below X2.heap.size X2 X3 := by rw [← hY]; exact (Below.refl _ _).alloc (Nat.le_refl _) _
          have hgb3 : w0.heap.size ≤ g3 := by rw [← hg3]; exact hFx.size
          replace hrx := hrx.below hst
          replace hBx := hBx.below hst
          replace hFx := hFx.trans (Fr.of_below hst)
          have hz3 := hst.size
          have HY := hide hY
          have Hg3 := hide hg3
          clear hY hg3 hst
          go_simp
          rw [HY.out, Hg3.out]
          refine hK _ _ ?_
          clear hK Kk
          refine any_one (fuel := 4) (i := 12) (by kernel_rfl) rfl rfl (fun Kk hK => ?_)
          have HC := lintw_any b 125 A m c bs 9 8 X3 hBx Hm.out hmc hm8 hc hrx (by omega) (by omega) (by omega)
          rw [Hn2.out] at HC
          go_simp
          refine HC.mono ?_
          rintro e' X4 ⟨rfl, hBy, hFy⟩
          replace hrx := hrx.fr hFy HAb.out
          replace hFx := hFx.trans hFy
          have hz4 := hFy.size
          have hBx : Blk X4 b [.slice A m c, .int .i64 ((17 : Nat) : Int)] 125 := hBy
          replace hZ := hZ.fr hFy (fun h => by have h : g3 = b := h; omega)
          clear HC hFy hBy
          refine hK _ _ ?_
          clear hK Kk
          refine any_one (fuel := 3) (i := 16) (by kernel_rfl) rfl rfl (fun Kk hK => ?_)
          have HC := lintw_bad b 125 A m c bs 17 8 X4 hBx Hm.out hmc hm8 hc hrx (by omega) (by omega) (by omega)
          go_simp
          refine HC.mono ?_
          rintro e' X5 ⟨rfl, hFy⟩
          exact ⟨rfl, HF0.out.trans (hFx.trans hFy), .inr ⟨by rw [HE.out]; decide, by rw [HE.out]⟩⟩
      · obtain ⟨X2, hY⟩ : ∃ y, X1.alloc (.cells #[.int .u8 0, .int .i64 0, .int .i64 0, .int .i64 0, .int .i64 0, .int .u8 0, .int .i64 0, .int .i64 0, .slice none 0 0, .slice none 0 0, .int .i64 0, .slice none 0 0] 49) = y := ⟨_, rfl⟩
        obtain ⟨g3, hg3⟩ : ∃ y, X1.heap.size = y := ⟨_, rfl⟩
        have hZ : Blk X2 g3 [.int .u8 0, .int .i64 0, .int .i64 0, .int .i64 0, .int .i64 0, .int .u8 0, .int .i64 0, .int .i64 0, .slice none 0 0, .slice none 0 0, .int .i64 0, .slice none 0 0] 49 := by rw [← hY, ← hg3]; exact Blk.new X1 _ _
        have hst : Below X1.heap.size X1 X2 := by rw [← hY]; exact (Below.refl _ _).alloc (Nat.le_refl _) _
        have hgb3 : w0.heap.size ≤ g3 := by rw [← hg3]; exact hFx.size
        replace hrx := hrx.below hst
        replace hBx := hBx.below hst
        replace hFx := hFx.trans (Fr.of_below hst)
        have hz2 := hst.size
        have HY := hide hY
        have Hg3 := hide hg3
        clear hY hg3 hst
        go_simp
        rw [HY.out, Hg3.out]
        refine hK _ _ ?_
        clear hK Kk
        refine any_one (fuel := 5) (i := 8) (by kernel_rfl) rfl rfl (fun Kk hK => ?_)
        have HC := lintw_any b 125 A m c bs 1 8 X2 hBx Hm.out hmc hm8 hc hrx (by omega) (by omega) (by omega)
        rw [Hn1.out] at HC
        go_simp
        refine HC.mono ?_
        rintro e' X3 ⟨rfl, hBy, hFy⟩
        replace hrx := hrx.fr hFy HAb.out
        replace hFx := hFx.trans hFy
        have hz3 := hFy.size
        have hBx : Blk X3 b [.slice A m c, .int .i64 ((9 : Nat) : Int)] 125 := hBy
        replace hZ := hZ.fr hFy (fun h => by have h : g3 = b := h; omega)
        clear HC hFy hBy
        refine hK _ _ ?_
        clear hK Kk
        refine any_one (fuel := 4) (i := 12) (by kernel_rfl) rfl rfl (fun Kk hK => ?_)
        have HC := lintw_any b 125 A m c bs 9 8 X3 hBx Hm.out hmc hm8 hc hrx (by omega) (by omega) (by omega)
        rw [Hn2.out] at HC
        go_simp
        refine HC.mono ?_
        rintro e' X4 ⟨rfl, hBy, hFy⟩
        replace hrx := hrx.fr hFy HAb.out
        replace hFx := hFx.trans hFy
        have hz4 := hFy.size
        have hBx : Blk X4 b [.slice A m c, .int .i64 ((17 : Nat) : Int)] 125 := hBy
        replace hZ := hZ.fr hFy (fun h => by have h : g3 = b := h; omega)
        clear HC hFy hBy
        refine hK _ _ ?_
        clear hK Kk
        refine any_one (fuel := 3) (i := 16) (by kernel_rfl) rfl rfl (fun Kk hK => ?_)
        have HC := lintw_bad b 125 A m c bs 17 8 X4 hBx Hm.out hmc hm8 hc hrx (by omega) (by omega) (by omega)
        go_simp
        refine HC.mono ?_
        rintro e' X5 ⟨rfl, hFy⟩
        exact ⟨rfl, HF0.out.trans (hFx.trans hFy), .inr ⟨by rw [HE.out]; decide, by rw [HE.out]⟩⟩
    · obtain ⟨X1, hY⟩ : ∃ y, X0.alloc (.cells #[.int .u8 0, .int .i64 0, .int .i64 0, .int .i64 0, .int .i64 0, .int .u8 0, .int .i64 0, .int .i64 0, .slice none 0 0, .slice none 0 0, .int .i64 0, .slice none 0 0] 49) = y := ⟨_, rfl⟩
      obtain ⟨g3, hg3⟩ : ∃ y, X0.heap.size = y := ⟨_, rfl⟩
      have hZ : Blk X1 g3 [.int .u8 0, .int .i64 0, .int .i64 0, .int .i64 0, .int .i64 0, .int .u8 0, .int .i64 0, .int .i64 0, .slice none 0 0, .slice none 0 0, .int .i64 0, .slice none 0 0] 49 := by rw [← hY, ← hg3]; exact Blk.new X0 _ _
      have hst : Below X0.heap.size X0 X1 := by rw [← hY]; exact (Below.refl _ _).alloc (Nat.le_refl _) _
      have hgb3 : w0.heap.size ≤ g3 := by rw [← hg3]; exact hFx.size
      replace hrx := hrx.below hst
      replace hBx := hBx.below hst
      replace hFx := hFx.trans (Fr.of_below hst)
      have hz1 := hst.size
      have HY := hide hY
      have Hg3 := hide hg3
      clear hY hg3 hst
      go_simp
      rw [HY.out, Hg3.out]
      refine hK _ _ ?_
      clear hK Kk
      refine any_one (fuel := 7) (i := 3) (by kernel_rfl) rfl rfl (fun Kk hK => ?_)
      have HC := lnumw_any b 125 A m c bs 0 1 X1 hBx Hm.out hmc hm8 hc hrx (by omega) (by omega) (by omega)
      rw [HK.out] at HC
      go_simp
      refine HC.mono ?_
      rintro e' X2 ⟨rfl, hBy, hFy⟩
      replace hrx := hrx.fr hFy HAb.out
      replace hFx := hFx.trans hFy
      have hz2 := hFy.size
      have hBx : Blk X2 b [.slice A m c, .int .i64 ((1 : Nat) : Int)] 125 := hBy
      replace hZ := hZ.fr hFy (fun h => by have h : g3 = b := h; omega)
      clear HC hFy hBy
      refine hK _ _ ?_
      clear hK Kk
      refine wpAny_take (fuel := 6) (i := 4) (v := .int .u8 (K : Int)) rfl (by kernel_rfl) (by kernel_rfl) (by kernel_rfl) (fun _ _ _ h => h) (Or.inl ⟨by rfl, fun Z => ?_⟩) ?_
      · go_simp
      refine any_one (fuel := 5) (i := 8) (by kernel_rfl) rfl rfl (fun Kk hK => ?_)
      have HC := lintw_any b 125 A m c bs 1 8 X2 hBx Hm.out hmc hm8 hc hrx (by omega) (by omega) (by omega)
      rw [Hn1.out] at HC
      go_simp
      refine HC.mono ?_
      rintro e' X3 ⟨rfl, hBy, hFy⟩
      replace hrx := hrx.fr hFy HAb.out
      replace hFx := hFx.trans hFy
      have hz3 := hFy.size
      have hBx : Blk X3 b [.slice A m c, .int .i64 ((9 : Nat) : Int)] 125 := hBy
      replace hZ := hZ.fr hFy (fun h => by have h : g3 = b := h; omega)
      clear HC hFy hBy
      refine hK _ _ ?_
      clear hK Kk
      refine any_one (fuel := 4) (i := 12) (by kernel_rfl) rfl rfl (fun Kk hK => ?_)
      have HC := lintw_any b 125 A m c bs 9 8 X3 hBx Hm.out hmc hm8 hc hrx (by omega) (by omega) (by omega)
      rw [Hn2.out] at HC
      go_simp
      refine HC.mono ?_
      rintro e' X4 ⟨rfl, hBy, hFy⟩
      replace hrx := hrx.fr hFy HAb.out
      replace hFx := hFx.trans hFy
      have hz4 := hFy.size
      have hBx : Blk X4 b [.slice A m c, .int .i64 ((17 : Nat) : Int)] 125 := hBy
      replace hZ := hZ.fr hFy (fun h => by have h : g3 = b := h; omega)
      clear HC hFy hBy
      refine hK _ _ ?_
      clear hK Kk
      refine any_one (fuel := 3) (i := 16) (by kernel_rfl) rfl rfl (fun Kk hK => ?_)
      have HC := lintw_bad b 125 A m c bs 17 8 X4 hBx Hm.out hmc hm8 hc hrx (by omega) (by omega) (by omega)
      go_simp
      refine HC.mono ?_
      rintro e' X5 ⟨rfl, hFy⟩
      exact ⟨rfl, HF0.out.trans (hFx.trans hFy), .inr ⟨by rw [HE.out]; decide, by rw [HE.out]⟩⟩
  · go_enter Tryz.func73, Tryz.ntmps73
    go_wp2_with fail
    rw [Hw0.out]
    try rw [Hg2.out]
    refine wp_region_any (by kernel_rfl) ?_
    show wpAny _ _ _ _ _ _ _ w0.drew
    refine wpAny_take (fuel := 23) (i := 0) (v := .pointer (some ⟨b, 0, none⟩)) rfl (by kernel_rfl) (by kernel_rfl) (by kernel_rfl) (fun _ _ _ h => h) (Or.inl ⟨by rfl, fun Z => ?_⟩) ?_
    · go_simp
    refine wpAny_take (fuel := 22) (i := 1) (v := .pointer (some ⟨b, 0, none⟩)) rfl (by kernel_rfl) (by kernel_rfl) (by kernel_rfl) (fun _ _ _ h => h) (Or.inl ⟨by rfl, fun Z => ?_⟩) ?_
    · go_simp
    refine wpAny_take (fuel := 21) (i := 2) (v := .pointer (some ⟨b, 0, none⟩)) rfl (by kernel_rfl) (by kernel_rfl) (by kernel_rfl) (fun _ _ _ h => h) (Or.inl ⟨by rfl, fun Z => ?_⟩) ?_
    · go_simp
    refine wpAny_take (fuel := 20) (i := 5) (v := .pointer (some ⟨b, 0, none⟩)) rfl (by kernel_rfl) (by kernel_rfl) (by kernel_rfl) (fun _ _ _ h => h) (Or.inl ⟨by rfl, fun Z => ?_⟩) ?_
    · go_simp
    refine wpAny_take (fuel := 19) (i := 6) (v := .pointer (some ⟨b, 0, none⟩)) rfl (by kernel_rfl) (by kernel_rfl) (by kernel_rfl) (fun _ _ _ h => h) (Or.inl ⟨by rfl, fun Z => ?_⟩) ?_
    · go_simp
    refine wpAny_take (fuel := 18) (i := 7) (v := .pointer (some ⟨b, 0, none⟩)) rfl (by kernel_rfl) (by kernel_rfl) (by kernel_rfl) (fun _ _ _ h => h) (Or.inl ⟨by rfl, fun Z => ?_⟩) ?_
    · go_simp
    refine wpAny_take (fuel := 17) (i := 9) (v := .pointer (some ⟨b, 0, none⟩)) rfl (by kernel_rfl) (by kernel_rfl) (by kernel_rfl) (fun _ _ _ h => h) (Or.inl ⟨by rfl, fun Z => ?_⟩) ?_
    · go_simp
    refine wpAny_take (fuel := 16) (i := 10) (v := .pointer (some ⟨b, 0, none⟩)) rfl (by kernel_rfl) (by kernel_rfl) (by kernel_rfl) (fun _ _ _ h => h) (Or.inl ⟨by rfl, fun Z => ?_⟩) ?_
    · go_simp
    refine wpAny_take (fuel := 15) (i := 11) (v := .pointer (some ⟨b, 0, none⟩)) rfl (by kernel_rfl) (by kernel_rfl) (by kernel_rfl) (fun _ _ _ h => h) (Or.inl ⟨by rfl, fun Z => ?_⟩) ?_
    · go_simp
    refine wpAny_take (fuel := 14) (i := 13) (v := .pointer (some ⟨b, 0, none⟩)) rfl (by kernel_rfl) (by kernel_rfl) (by kernel_rfl) (fun _ _ _ h => h) (Or.inl ⟨by rfl, fun Z => ?_⟩) ?_
    · go_simp
    refine wpAny_take (fuel := 13) (i := 14) (v := .pointer (some ⟨b, 0, none⟩)) rfl (by kernel_rfl) (by kernel_rfl) (by kernel_rfl) (fun _ _ _ h => h) (Or.inl ⟨by rfl, fun Z => ?_⟩) ?_
    · go_simp
    refine wpAny_take (fuel := 12) (i := 15) (v := .pointer (some ⟨b, 0, none⟩)) rfl (by kernel_rfl) (by kernel_rfl) (by kernel_rfl) (fun _ _ _ h => h) (Or.inl ⟨by rfl, fun Z => ?_⟩) ?_
    · go_simp
    refine wpAny_take (fuel := 11) (i := 17) (v := .pointer (some ⟨b, 0, none⟩)) rfl (by kernel_rfl) (by kernel_rfl) (by kernel_rfl) (fun _ _ _ h => h) (Or.inl ⟨by rfl, fun Z => ?_⟩) ?_
    · go_simp
    refine wpAny_take (fuel := 10) (i := 18) (v := .pointer (some ⟨b, 0, none⟩)) rfl (by kernel_rfl) (by kernel_rfl) (by kernel_rfl) (fun _ _ _ h => h) (Or.inl ⟨by rfl, fun Z => ?_⟩) ?_
    · go_simp
    refine wpAny_take (fuel := 9) (i := 19) (v := .pointer (some ⟨b, 0, none⟩)) rfl (by kernel_rfl) (by kernel_rfl) (by kernel_rfl) (fun _ _ _ h => h) (Or.inl ⟨by rfl, fun Z => ?_⟩) ?_
    · go_simp
    obtain ⟨X0, hX0⟩ : ∃ y, w0.drew = y := ⟨_, rfl⟩
    have hFx : Fr (fun k => k = b) w0 X0 := by rw [← hX0]; exact (Fr.refl _ _).drew
    have hBx := HW.out.1
    have hBx : Blk X0 b [.slice A m c, .int .i64 ((0 : Nat) : Int)] 125 := by rw [← hX0]; exact hBx
    have hrx := HW.out.2.fr hFx HAb.out
    rw [hX0]
    have HX0 := hide hX0
    clear hX0
    refine any_two (fuel := 8) (i := 3) (j := 22) (by kernel_rfl) rfl rfl rfl rfl (fun Kk hK => ?_) (fun Kk hK => ?_)
    · have HC := lnumw_any b 125 A m c bs 0 1 X0 hBx Hm.out hmc hm8 hc hrx (by omega) (by omega) (by omega)
      rw [HK.out] at HC
      go_simp
      refine HC.mono ?_
      rintro e' X1 ⟨rfl, hBy, hFy⟩
      replace hrx := hrx.fr hFy HAb.out
      replace hFx := hFx.trans hFy
      have hz1 := hFy.size
      have hBx : Blk X1 b [.slice A m c, .int .i64 ((1 : Nat) : Int)] 125 := hBy
      clear HC hFy hBy
      refine hK _ _ ?_
      clear hK Kk
      refine wpAny_take (fuel := 7) (i := 4) (v := .int .u8 (K : Int)) rfl (by kernel_rfl) (by kernel_rfl) (by kernel_rfl) (fun _ _ _ h => h) (Or.inl ⟨by rfl, fun Z => ?_⟩) ?_
      · go_simp
      refine any_two (fuel := 6) (i := 8) (j := 22) (by kernel_rfl) rfl rfl rfl rfl (fun Kk hK => ?_) (fun Kk hK => ?_)
      · have HC := lintw_any b 125 A m c bs 1 8 X1 hBx Hm.out hmc hm8 hc hrx (by omega) (by omega) (by omega)
        rw [Hn1.out] at HC
        go_simp
        refine HC.mono ?_
        rintro e' X2 ⟨rfl, hBy, hFy⟩
        replace hrx := hrx.fr hFy HAb.out
        replace hFx := hFx.trans hFy
        have hz2 := hFy.size
        have hBx : Blk X2 b [.slice A m c, .int .i64 ((9 : Nat) : Int)] 125 := hBy
        clear HC hFy hBy
        refine hK _ _ ?_
        clear hK Kk
        refine any_two (fuel := 5) (i := 12) (j := 22) (by kernel_rfl) rfl rfl rfl rfl (fun Kk hK => ?_) (fun Kk hK => ?_)
        · have HC := lintw_any b 125 A m c bs 9 8 X2 hBx Hm.out hmc hm8 hc hrx (by omega) (by omega) (by omega)
          rw [Hn2.out] at HC
          go_simp
          refine HC.mono ?_
          rintro e' X3 ⟨rfl, hBy, hFy⟩
          replace hrx := hrx.fr hFy HAb.out
          replace hFx := hFx.trans hFy
          have hz3 := hFy.size
          have hBx : Blk X3 b [.slice A m c, .int .i64 ((17 : Nat) : Int)] 125 := hBy
          clear HC hFy hBy
          refine hK _ _ ?_
          clear hK Kk
          refine any_two (fuel := 4) (i := 16) (j := 22) (by kernel_rfl) rfl rfl rfl rfl (fun Kk hK => ?_) (fun Kk hK => ?_)
          · have HC := lintw_any b 125 A m c bs 17 8 X3 hBx Hm.out hmc hm8 hc hrx (by omega) (by omega) (by omega)
            rw [Hn3.out] at HC
            go_simp
            refine HC.mono ?_
            rintro e' X4 ⟨rfl, hBy, hFy⟩
            replace hrx := hrx.fr hFy HAb.out
            replace hFx := hFx.trans hFy
            have hz4 := hFy.size
            have hBx : Blk X4 b [.slice A m c, .int .i64 ((25 : Nat) : Int)] 125 := hBy
            clear HC hFy hBy
            refine hK _ _ ?_
            clear hK Kk
            refine any_two (fuel := 3) (i := 20) (j := 22) (by kernel_rfl) rfl rfl rfl rfl (fun Kk hK => ?_) (fun Kk hK => ?_)
            · have HC := lintw_bad b 125 A m c bs 25 8 X4 hBx Hm.out hmc hm8 hc hrx (by omega) (by omega) (by omega)
              go_simp
              refine HC.mono ?_
              rintro e' X5 ⟨rfl, hFy⟩
              exact ⟨rfl, HF0.out.trans (hFx.trans hFy), .inr ⟨by rw [HE.out]; decide, by rw [HE.out]⟩⟩
            · obtain ⟨X5, hY⟩ : ∃ y, X4.alloc (.cells #[.int .u8 0, .int .i64 0, .int .i64 0, .int .i64 0, .int .i64 0, .int .u8 0, .int .i64 0, .int .i64 0, .slice none 0 0, .slice none 0 0, .int .i64 0, .slice none 0 0] 49) = y := ⟨_, rfl⟩
              obtain ⟨g3, hg3⟩ : ∃ y, X4.heap.size = y := ⟨_, rfl⟩
              have hZ : Blk X5 g3 [.int .u8 0, .int .i64 0, .int .i64 0, .int .i64 0, .int .i64 0, .int .u8 0, .int .i64 0, .int .i64 0, .slice none 0 0, .slice none 0 0, .int .i64 0, .slice none 0 0] 49 := by rw [← hY, ← hg3]; exact Blk.new X4 _ _
              have hst : Below X4.heap.size X4 X5 := by rw [← hY]; exact (Below.refl _ _).alloc (Nat.le_refl _) _
              have hgb3 : w0.heap.size ≤ g3 := by rw [← hg3]; exact hFx.size
              replace hrx := hrx.below hst
              replace hBx := hBx.below hst
              replace hFx := hFx.trans (Fr.of_below hst)
              have hz5 := hst.size
              have HY := hide hY
              have Hg3 := hide hg3
              clear hY hg3 hst
              go_simp
              rw [HY.out, Hg3.out]
              refine hK _ _ ?_
              clear hK Kk
              refine any_one (fuel := 2) (i := 20) (by kernel_rfl) rfl rfl (fun Kk hK => ?_)
              have HC := lintw_bad b 125 A m c bs 25 8 X5 hBx Hm.out hmc hm8 hc hrx (by omega) (by omega) (by omega)
              go_simp
              refine HC.mono ?_
              rintro e' X6 ⟨rfl, hFy⟩
              exact ⟨rfl, HF0.out.trans (hFx.trans hFy), .inr ⟨by rw [HE.out]; decide, by rw [HE.out]⟩⟩
          · obtain ⟨X4, hY⟩ : ∃ y, X3.alloc (.cells #[.int .u8 0, .int .i64 0, .int .i64 0, .int .i64 0, .int .i64 0, .int .u8 0, .int .i64 0, .int .i64 0, .slice none 0 0, .slice none 0 0, .int .i64 0, .slice none 0 0] 49) = y := ⟨_, rfl⟩
            obtain ⟨g3, hg3⟩ : ∃ y, X3.heap.size = y := ⟨_, rfl⟩
            have hZ : Blk X4 g3 [.int .u8 0, .int .i64 0, .int .i64 0, .int .i64 0, .int .i64 0, .int .u8 0, .int .i64 0, .int .i64 0, .slice none 0 0, .slice none 0 0, .int .i64 0, .slice none 0 0] 49 := by rw [← hY, ← hg3]; exact Blk.new X3 _ _
            have hst : Below X3.heap.size X3 X4 := by rw [← hY]; exact (Below.refl _ _).alloc (Nat.le_refl _) _
            have hgb3 : w0.heap.size ≤ g3 := by rw [← hg3]; exact hFx.size
            replace hrx := hrx.below hst
            replace hBx := hBx.below hst
            replace hFx := hFx.trans (Fr.of_below hst)
            have hz4 := hst.size
            have HY := hide hY
            have Hg3 := hide hg3
            clear hY hg3 hst
            go_simp
            rw [HY.out, Hg3.out]
            refine hK _ _ ?_
            clear hK Kk
            refine any_one (fuel := 3) (i := 16) (by kernel_rfl) rfl rfl (fun Kk hK => ?_)
            have HC := lintw_any b 125 A m c bs 17 8 X4 hBx Hm.out hmc hm8 hc hrx (by omega) (by omega) (by omega)
            rw [Hn3.out] at HC
            go_simp
            refine HC.mono ?_
            rintro e' X5 ⟨rfl, hBy, hFy⟩
            replace hrx := hrx.fr hFy HAb.out
            replace hFx := hFx.trans hFy
            have hz5 := hFy.size
            have hBx : Blk X5 b [.slice A m c, .int .i64 ((25 : Nat) : Int)] 125 := hBy
            replace hZ := hZ.fr hFy (fun h => by have h : g3 = b := h; omega)
            clear HC hFy hBy
            refine hK _ _ ?_
            clear hK Kk
            refine any_one (fuel := 2) (i := 20) (by kernel_rfl) rfl rfl (fun Kk hK => ?_)
            have HC := lintw_bad b 125 A m c bs 25 8 X5 hBx Hm.out hmc hm8 hc hrx (by omega) (by omega) (by omega)
            go_simp
            refine HC.mono ?_
            rintro e' X6 ⟨rfl, hFy⟩
            exact ⟨rfl, HF0.out.trans (hFx.trans hFy), .inr ⟨by rw [HE.out]; decide, by rw [HE.out]⟩⟩
        · obtain ⟨X3, hY⟩ : ∃ y, X2.alloc (.cells #[.int .u8 0, .int .i64 0, .int .i64 0, .int .i64 0, .int .i64 0, .int .u8 0, .int .i64 0, .int .i64 0, .slice none 0 0, .slice none 0 0, .int .i64 0, .slice none 0 0] 49) = y := ⟨_, rfl⟩
          obtain ⟨g3, hg3⟩ : ∃ y, X2.heap.size = y := ⟨_, rfl⟩
          have hZ : Blk X3 g3 [.int .u8 0, .int .i64 0, .int .i64 0, .int .i64 0, .int .i64 0, .int .u8 0, .int .i64 0, .int .i64 0, .slice none 0 0, .slice none 0 0, .int .i64 0, .slice none 0 0] 49 := by rw [← hY, ← hg3]; exact Blk.new X2 _ _
          have hst : Below X2.heap.size X2 X3 := by rw [← hY]; exact (Below.refl _ _).alloc (Nat.le_refl _) _
          have hgb3 : w0.heap.size ≤ g3 := by rw [← hg3]; exact hFx.size
          replace hrx := hrx.below hst
          replace hBx := hBx.below hst
          replace hFx := hFx.trans (Fr.of_below hst)
          have hz3 := hst.size
          have HY := hide hY
          have Hg3 := hide hg3
          clear hY hg3 hst
          go_simp
          rw [HY.out, Hg3.out]
          refine hK _ _ ?_
          clear hK Kk
          refine any_one (fuel := 4) (i := 12) (by kernel_rfl) rfl rfl (fun Kk hK => ?_)
          have HC := lintw_any b 125 A m c bs 9 8 X3 hBx Hm.out hmc hm8 hc hrx (by omega) (by omega) (by omega)
          rw [Hn2.out] at HC
          go_simp
          refine HC.mono ?_
          rintro e' X4 ⟨rfl, hBy, hFy⟩
          replace hrx := hrx.fr hFy HAb.out
          replace hFx := hFx.trans hFy
          have hz4 := hFy.size
          have hBx : Blk X4 b [.slice A m c, .int .i64 ((17 : Nat) : Int)] 125 := hBy
          replace hZ := hZ.fr hFy (fun h => by have h : g3 = b := h; omega)
          clear HC hFy hBy
          refine hK _ _ ?_
          clear hK Kk
          refine any_one (fuel := 3) (i := 16) (by kernel_rfl) rfl rfl (fun Kk hK => ?_)
          have HC := lintw_any b 125 A m c bs 17 8 X4 hBx Hm.out hmc hm8 hc hrx (by omega) (by omega) (by omega)
          rw [Hn3.out] at HC
          go_simp
          refine HC.mono ?_
          rintro e' X5 ⟨rfl, hBy, hFy⟩
          replace hrx := hrx.fr hFy HAb.out
          replace hFx := hFx.trans hFy
          have hz5 := hFy.size
          have hBx : Blk X5 b [.slice A m c, .int .i64 ((25 : Nat) : Int)] 125 := hBy
          replace hZ := hZ.fr hFy (fun h => by have h : g3 = b := h; omega)
          clear HC hFy hBy
          refine hK _ _ ?_
          clear hK Kk
          refine any_one (fuel := 2) (i := 20) (by kernel_rfl) rfl rfl (fun Kk hK => ?_)
          have HC := lintw_bad b 125 A m c bs 25 8 X5 hBx Hm.out hmc hm8 hc hrx (by omega) (by omega) (by omega)
          go_simp
          refine HC.mono ?_
          rintro e' X6 ⟨rfl, hFy⟩
          exact ⟨rfl, HF0.out.trans (hFx.trans hFy), .inr ⟨by rw [HE.out]; decide, by rw [HE.out]⟩⟩
      · obtain ⟨X2, hY⟩ : ∃ y, X1.alloc (.cells #[.int .u8 0, .int .i64 0, .int .i64 0, .int .i64 0, .int .i64 0, .int .u8 0, .int .i64 0, .int .i64 0, .slice none 0 0, .slice none 0 0, .int .i64 0, .slice none 0 0] 49) = y := ⟨_, rfl⟩
        obtain ⟨g3, hg3⟩ : ∃ y, X1.heap.size = y := ⟨_, rfl⟩
        have hZ : Blk X2 g3 [.int .u8 0, .int .i64 0, .int .i64 0, .int .i64 0, .int .i64 0, .int .u8 0, .int .i64 0, .int .i64 0, .slice none 0 0, .slice none 0 0, .int .i64 0, .slice none 0 0] 49 := by rw [← hY, ← hg3]; exact Blk.new X1 _ _
        have hst : Below X1.heap.size X1 X2 := by rw [← hY]; exact (Below.refl _ _).alloc (Nat.le_refl _) _
        have hgb3 : w0.heap.size ≤ g3 := by rw [← hg3]; exact hFx.size
        replace hrx := hrx.below hst
        replace hBx := hBx.below hst
        replace hFx := hFx.trans (Fr.of_below hst)
        have hz2 := hst.size
        have HY := hide hY
        have Hg3 := hide hg3
        clear hY hg3 hst
        go_simp
        rw [HY.out, Hg3.out]
        refine hK _ _ ?_
        clear hK Kk
        refine any_one (fuel := 5) (i := 8) (by kernel_rfl) rfl rfl (fun Kk hK => ?_)
        have HC := lintw_any b 125 A m c bs 1 8 X2 hBx Hm.out hmc hm8 hc hrx (by omega) (by omega) (by omega)
        rw [Hn1.out] at HC
        go_simp
        refine HC.mono ?_
        rintro e' X3 ⟨rfl, hBy, hFy⟩
        replace hrx := hrx.fr hFy HAb.out
        replace hFx := hFx.trans hFy
        have hz3 := hFy.size
        have hBx : Blk X3 b [.slice A m c, .int .i64 ((9 : Nat) : Int)] 125 := hBy
        replace hZ := hZ.fr hFy (fun h => by have h : g3 = b := h; omega)
        clear HC hFy hBy
        refine hK _ _ ?_
        clear hK Kk
        refine any_one (fuel := 4) (i := 12) (by kernel_rfl) rfl rfl (fun Kk hK => ?_)
        have HC := lintw_any b 125 A m c bs 9 8 X3 hBx Hm.out hmc hm8 hc hrx (by omega) (by omega) (by omega)
        rw [Hn2.out] at HC
        go_simp
        refine HC.mono ?_
        rintro e' X4 ⟨rfl, hBy, hFy⟩
        replace hrx := hrx.fr hFy HAb.out
        replace hFx := hFx.trans hFy
        have hz4 := hFy.size
        have hBx : Blk X4 b [.slice A m c, .int .i64 ((17 : Nat) : Int)] 125 := hBy
        replace hZ := hZ.fr hFy (fun h => by have h : g3 = b := h; omega)
        clear HC hFy hBy
        refine hK _ _ ?_
        clear hK Kk
        refine any_one (fuel := 3) (i := 16) (by kernel_rfl) rfl rfl (fun Kk hK => ?_)
        have HC := lintw_any b 125 A m c bs 17 8 X4 hBx Hm.out hmc hm8 hc hrx (by omega) (by omega) (by omega)
        rw [Hn3.out] at HC
        go_simp
        refine HC.mono ?_
        rintro e' X5 ⟨rfl, hBy, hFy⟩
        replace hrx := hrx.fr hFy HAb.out
        replace hFx := hFx.trans hFy
        have hz5 := hFy.size
        have hBx : Blk X5 b [.slice A m c, .int .i64 ((25 : Nat) : Int)] 125 := hBy
        replace hZ := hZ.fr hFy (fun h => by have h : g3 = b := h; omega)
        clear HC hFy hBy
        refine hK _ _ ?_
        clear hK Kk
        refine any_one (fuel := 2) (i := 20) (by kernel_rfl) rfl rfl (fun Kk hK => ?_)
        have HC := lintw_bad b 125 A m c bs 25 8 X5 hBx Hm.out hmc hm8 hc hrx (by omega) (by omega) (by omega)
        go_simp
        refine HC.mono ?_
        rintro e' X6 ⟨rfl, hFy⟩
        exact ⟨rfl, HF0.out.trans (hFx.trans hFy), .inr ⟨by rw [HE.out]; decide, by rw [HE.out]⟩⟩
    · obtain ⟨X1, hY⟩ : ∃ y, X0.alloc (.cells #[.int .u8 0, .int .i64 0, .int .i64 0, .int .i64 0, .int .i64 0, .int .u8 0, .int .i64 0, .int .i64 0, .slice none 0 0, .slice none 0 0, .int .i64 0, .slice none 0 0] 49) = y := ⟨_, rfl⟩
      obtain ⟨g3, hg3⟩ : ∃ y, X0.heap.size = y := ⟨_, rfl⟩
      have hZ : Blk X1 g3 [.int .u8 0, .int .i64 0, .int .i64 0, .int .i64 0, .int .i64 0, .int .u8 0, .int .i64 0, .int .i64 0, .slice none 0 0, .slice none 0 0, .int .i64 0, .slice none 0 0] 49 := by rw [← hY, ← hg3]; exact Blk.new X0 _ _
      have hst : Below X0.heap.size X0 X1 := by rw [← hY]; exact (Below.refl _ _).alloc (Nat.le_refl _) _
      have hgb3 : w0.heap.size ≤ g3 := by rw [← hg3]; exact hFx.size
      replace hrx := hrx.below hst
      replace hBx := hBx.below hst
      replace hFx := hFx.trans (Fr.of_below hst)
      have hz1 := hst.size
      have HY := hide hY
      have Hg3 := hide hg3
      clear hY hg3 hst
      go_simp
      rw [HY.out, Hg3.out]
      refine hK _ _ ?_
      clear hK Kk
      refine any_one (fuel := 7) (i := 3) (by kernel_rfl) rfl rfl (fun Kk hK => ?_)
      have HC := lnumw_any b 125 A m c bs 0 1 X1 hBx Hm.out hmc hm8 hc hrx (by omega) (by omega) (by omega)
      rw [HK.out] at HC
      go_simp
      refine HC.mono ?_
      rintro e' X2 ⟨rfl, hBy, hFy⟩
      replace hrx := hrx.fr hFy HAb.out
      replace hFx := hFx.trans hFy
      have hz2 := hFy.size
      have hBx : Blk X2 b [.slice A m c, .int .i64 ((1 : Nat) : Int)] 125 := hBy
      replace hZ := hZ.fr hFy (fun h => by have h : g3 = b := h; omega)
      clear HC hFy hBy
      refine hK _ _ ?_
      clear hK Kk
      refine wpAny_take (fuel := 6) (i := 4) (v := .int .u8 (K : Int)) rfl (by kernel_rfl) (by kernel_rfl) (by kernel_rfl) (fun _ _ _ h => h) (Or.inl ⟨by rfl, fun Z => ?_⟩) ?_
      · go_simp
      refine any_one (fuel := 5) (i := 8) (by kernel_rfl) rfl rfl (fun Kk hK => ?_)
      have HC := lintw_any b 125 A m c bs 1 8 X2 hBx Hm.out hmc hm8 hc hrx (by omega) (by omega) (by omega)
      rw [Hn1.out] at HC
      go_simp
      refine HC.mono ?_
      rintro e' X3 ⟨rfl, hBy, hFy⟩
      replace hrx := hrx.fr hFy HAb.out
      replace hFx := hFx.trans hFy
      have hz3 := hFy.size
      have hBx : Blk X3 b [.slice A m c, .int .i64 ((9 : Nat) : Int)] 125 := hBy
      replace hZ := hZ.fr hFy (fun h => by have h : g3 = b := h; omega)
      clear HC hFy hBy
      refine hK _ _ ?_
      clear hK Kk
      refine any_one (fuel := 4) (i := 12) (by kernel_rfl) rfl rfl (fun Kk hK => ?_)
      have HC := lintw_any b 125 A m c bs 9 8 X3 hBx Hm.out hmc hm8 hc hrx (by omega) (by omega) (by omega)
      rw [Hn2.out] at HC
      go_simp
      refine HC.mono ?_
      rintro e' X4 ⟨rfl, hBy, hFy⟩
      replace hrx := hrx.fr hFy HAb.out
      replace hFx := hFx.trans hFy
      have hz4 := hFy.size
      have hBx : Blk X4 b [.slice A m c, .int .i64 ((17 : Nat) : Int)] 125 := hBy
      replace hZ := hZ.fr hFy (fun h => by have h : g3 = b := h; omega)
      clear HC hFy hBy
      refine hK _ _ ?_
      clear hK Kk
      refine any_one (fuel := 3) (i := 16) (by kernel_rfl) rfl rfl (fun Kk hK => ?_)
      have HC := lintw_any b 125 A m c bs 17 8 X4 hBx Hm.out hmc hm8 hc hrx (by omega) (by omega) (by omega)
      rw [Hn3.out] at HC
      go_simp
      refine HC.mono ?_
      rintro e' X5 ⟨rfl, hBy, hFy⟩
      replace hrx := hrx.fr hFy HAb.out
      replace hFx := hFx.trans hFy
      have hz5 := hFy.size
      have hBx : Blk X5 b [.slice A m c, .int .i64 ((25 : Nat) : Int)] 125 := hBy
      replace hZ := hZ.fr hFy (fun h => by have h : g3 = b := h; omega)
      clear HC hFy hBy
      refine hK _ _ ?_
      clear hK Kk
      refine any_one (fuel := 2) (i := 20) (by kernel_rfl) rfl rfl (fun Kk hK => ?_)
      have HC := lintw_bad b 125 A m c bs 25 8 X5 hBx Hm.out hmc hm8 hc hrx (by omega) (by omega) (by omega)
      go_simp
      refine HC.mono ?_
      rintro e' X6 ⟨rfl, hFy⟩
      exact ⟨rfl, HF0.out.trans (hFx.trans hFy), .inr ⟨by rw [HE.out]; decide, by rw [HE.out]⟩⟩
end Go.Proofs.YtkknkdjdneldlaaGreat
