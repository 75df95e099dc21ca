/- The law FrameWrites, walked. -/
import Derived.Test.YtaenoonadodbnaaDoorF03s
import Derived.Test.YtaenoonadodbnaaDoorArr
import Derived.Deep.RegionHeldLaw
import Derived.Deep.Cut
namespace Go.Proofs.YtaenoonadodbnaaDoor
open Go.RowKit Go.Px
set_option linter.unusedVariables false

set_option maxHeartbeats 3200000 in
theorem frameWrites_walk (k s : Nat) (A : Option Addr) (m c : Nat) (bs : List UInt8) (k' s' : Nat) (A1 : Option Addr) (m1 c1 : Nat) (bs1 : List UInt8) (w : World) (hk : k < 256) (hs : s < 18446744073709551616) (hk' : k' < 256) (hs' : s' < 18446744073709551616)
    (hm : bs.length = m) (hmc : m ≤ c) (hc : c ≤ 9223372036854775807) (hr : Rd w A (bys bs)) (hm1 : bs1.length = m1) (hmc1 : m1 ≤ c1) (hc1 : c1 ≤ 9223372036854775807) (hr1 : Rd w A1 (bys bs1)) (ht : Tab w) :
    Calls Tryd.prog 3 #[.agg #[.int .u8 k, .int .u64 s, .slice A m c], .agg #[.int .u8 k', .int .u64 s', .slice A1 m1 c1]] w fun e w' => e = .returned (.bool true) ∧ Below w.heap.size w w' := by
  obtain ⟨hl1, hl2⟩ := lcut_le m
  have Hl := hide (show (bs.take 16384).length = lcut m by rw [lcut_len, hm])
  have hr' := lcut_rd hr
  obtain ⟨q, hq⟩ : ∃ q, lcut m = q := ⟨_, rfl⟩
  rw [hq] at hl1 hl2 Hl
  obtain ⟨hj1, hj2⟩ := lcut_le m1
  have Hj := hide (show (bs1.take 16384).length = lcut m1 by rw [lcut_len, hm1])
  have hr1' := lcut_rd hr1
  obtain ⟨q1, hq1⟩ : ∃ q, lcut m1 = q := ⟨_, rfl⟩
  rw [hq1] at hj1 hj2 Hj
  have Hq := hide hq
  have Hq1 := hide hq1
  clear hq hq1 hm hm1 hr hr1
  generalize bs.take 16384 = b at *
  generalize bs1.take 16384 = b1 at *
  obtain ⟨g, hg⟩ : ∃ g, w.heap.size = g := ⟨_, rfl⟩
  obtain ⟨g1, hg1⟩ : ∃ x, g + 1 = x := ⟨_, rfl⟩
  obtain ⟨w0, hw0⟩ : ∃ w0, (w.alloc (.cells #[.int .u8 k, .int .u64 s, .slice A m c] 25)).alloc (.cells #[.int .u8 k', .int .u64 s', .slice A1 m1 c1] 25) = w0 := ⟨_, rfl⟩
  have hF : Blk w0 g [.int .u8 k, .int .u64 s, .slice A m c] 25 := by rw [← hw0, ← hg]; exact (Blk.new w [.int .u8 k, .int .u64 s, .slice A m c] _).alloc _
  have hG : Blk w0 g1 [.int .u8 k', .int .u64 s', .slice A1 m1 c1] 25 := by
    rw [← hw0, ← hg1, ← hg]
    have := Blk.new (w.alloc (.cells #[.int .u8 k, .int .u64 s, .slice A m c] 25)) [.int .u8 k', .int .u64 s', .slice A1 m1 c1] 25
    rwa [World.size_alloc] at this
  have hb0 : Below g w w0 := by rw [← hw0, ← hg]; exact ((Below.refl _ _).alloc (Nat.le_refl _) _).alloc (by simp) _
  have hF' := hF.set 2 (.slice A q c)
  have hG' := hG.set 2 (.slice A1 q1 c1)
  have x0 := hF.cell (j := 2) rfl
  have x1 := hG.cell (j := 2) rfl
  have fz0 := hF.frozen 2
  have fz1 := hG.frozen 2
  have hne : g ≠ g1 := by omega
  have hne' : g1 ≠ g := by omega
  have x1' := (hG.apart hne' 2 (.slice A q c)).cell (j := 2) rfl
  have x0' := (hF.apart hne 2 (.slice A1 q1 c1)).cell (j := 2) rfl
  have fz1' := (hG.apart hne' 2 (.slice A q c)).frozen 2
  have fz0' := (hF.apart hne 2 (.slice A1 q1 c1)).frozen 2
  go_enter Tryd.func3, Tryd.ntmps3
  have y0 : w0.drew.cell? ⟨g, 2, none⟩ = some (.slice A m c) := x0
  have y1 : w0.drew.cell? ⟨g1, 2, none⟩ = some (.slice A1 m1 c1) := x1
  have hW1 : Below g w ((w0.setCell ⟨g, 2, none⟩ (.slice A q c)).setCell ⟨g1, 2, none⟩ (.slice A1 q1 c1)) := (hb0.setCell (Nat.le_refl _) _).setCell (by show g ≤ g1; omega) _
  have hW2 : Below g w ((w0.setCell ⟨g1, 2, none⟩ (.slice A1 q1 c1)).setCell ⟨g, 2, none⟩ (.slice A q c)) := (hb0.setCell (by show g ≤ g1; omega) _).setCell (Nat.le_refl _) _
  have hFa := hF'.apart hne 2 (.slice A1 q1 c1)
  have hGa := (hG.apart hne' 2 (.slice A q c)).set 2 (.slice A1 q1 c1)
  have hFb := (hF.apart hne 2 (.slice A1 q1 c1)).set 2 (.slice A q c)
  have hGb := hG'.apart hne' 2 (.slice A q c)
  go_upto_region 1 with fail
  go_cut [] from 9 (fun wx => Below g w wx ∧ Blk wx g [.int .u8 k, .int .u64 s, .slice A q c] 25 ∧ Blk wx g1 [.int .u8 k', .int .u64 s', .slice A1 q1 c1] 25)
  case first =>
    go_region_with (first
      | (go_at_call 10; refine (cut_any A m c _ hmc hc).mono ?_; rw [Hq.out]; rintro e wx ⟨rfl, rfl⟩)
      | (go_at_call 10; refine (cut_any A1 m1 c1 _ hmc1 hc1).mono ?_; rw [Hq1.out]; rintro e wx ⟨rfl, rfl⟩))
    all_goals
      go_wp2_with fail
      go_meet
      first | exact ⟨hW1.drew, hFa, hGa⟩ | exact ⟨hW2.drew, hFb, hGb⟩
  case rest =>
    obtain ⟨hWb, hFW, hGW⟩ := hcut
    clear x0 x1 fz0 fz1 x0' x1' fz0' fz1' y0 y1 hW1 hW2 hFa hGa hFb hGb hF' hG'
    have u0 := hFW.cell (j := 0) rfl
    have u1 := hFW.cell (j := 1) rfl
    have u2 := hFW.cell (j := 2) rfl
    rw [← hg] at hWb
    go_wp2_with fail
    refine (fwrite_any k s _ q _ b _ Hl.out hl2 (by omega) (by omega) (hr'.below hWb) hk hs (Rd.below ht hWb)).mono ?_
    rintro e w3 ⟨v3, rfl, ho3, hb3⟩
    obtain ⟨A3, c3, rfl, hx3, hc3, hcm3, hr3, ha3⟩ := own_out ho3
    have hWsz := hWb.size
    have hb03 : Below w.heap.size w w3 := hWb.trans (hb3.mono hWsz)
    have hF3 := hFW.below hb3
    have p0 := hF3.cell (j := 0) rfl
    have p1 := hF3.cell (j := 1) rfl
    have p2 := hF3.cell (j := 2) rfl
    go_wp2_with fail
    refine (rwrite_any k s _ q _ b _ Hl.out hl2 (by omega) (by omega) (hr'.below hb03) hk hs).mono ?_
    rintro e w4 ⟨v4, rfl, ho4, hb4⟩
    obtain ⟨A4, c4, rfl, hx4, hc4, hcm4, hr4, ha4⟩ := own_out ho4
    have hb04 : Below w.heap.size w w4 := hb03.trans (hb4.mono hb03.size)
    have hF4 := hF3.below hb4
    have hG4 := (hGW.below hb3).below hb4
    rw [bys_length, Nat.mul_one] at hx3 hx4
    have hr34 := hr3.below hb4
    have hfl : (frmB k s b).length = q + 20 := by rw [frmB_length, Hl.out]
    have mk : ∀ X, Below w4.heap.size w4 X → (Below w4.heap.size w4 X ∧ (convert 23 9 (.slice A3 (q + 20) c3)).run Tryd.prog X = .ok (.string (strOf (frmB k s b))) X ∧ (convert 23 9 (.slice A4 (q + 20) c4)).run Tryd.prog X = .ok (.string (strOf (frmB k s b))) X ∧ X.cell? ⟨g, 0, none⟩ = some (.int .u8 (k : Int)) ∧ X.cell? ⟨g, 1, none⟩ = some (.int .u64 (s : Int)) ∧ X.cell? ⟨g, 2, none⟩ = some (.slice A q c) ∧ X.cell? ⟨g1, 0, none⟩ = some (.int .u8 (k' : Int)) ∧ X.cell? ⟨g1, 1, none⟩ = some (.int .u64 (s' : Int)) ∧ X.cell? ⟨g1, 2, none⟩ = some (.slice A1 q1 c1)) := fun X hX =>
      ⟨hX, convB c3 hfl (hr34.below hX), convB c4 hfl (hr4.below hX), (hF4.below hX).cell (j := 0) rfl, (hF4.below hX).cell (j := 1) rfl, (hF4.below hX).cell (j := 2) rfl, (hG4.below hX).cell (j := 0) rfl, (hG4.below hX).cell (j := 1) rfl, (hG4.below hX).cell (j := 2) rfl⟩
    obtain ⟨r, hrr⟩ : ∃ r, sameF k s b k' s' b1 = r := ⟨_, rfl⟩
    have hff : sameF k s b k s b = true := by unfold sameF; simp
    have hbX : ∀ X, Below w4.heap.size w4 X → Below w.heap.size w X := fun X h => hb04.trans (h.mono hb04.size)
    have K1 : ∀ X, (Below w4.heap.size w4 X ∧ (convert 23 9 (.slice A3 (q + 20) c3)).run Tryd.prog X = .ok (.string (strOf (frmB k s b))) X ∧ (convert 23 9 (.slice A4 (q + 20) c4)).run Tryd.prog X = .ok (.string (strOf (frmB k s b))) X ∧ X.cell? ⟨g, 0, none⟩ = some (.int .u8 (k : Int)) ∧ X.cell? ⟨g, 1, none⟩ = some (.int .u64 (s : Int)) ∧ X.cell? ⟨g, 2, none⟩ = some (.slice A q c) ∧ X.cell? ⟨g1, 0, none⟩ = some (.int .u8 (k' : Int)) ∧ X.cell? ⟨g1, 1, none⟩ = some (.int .u64 (s' : Int)) ∧ X.cell? ⟨g1, 2, none⟩ = some (.slice A1 q1 c1)) → Calls Tryd.prog 13 #[.agg #[.int .u8 k, .int .u64 s, .slice A q c], .agg #[.int .u8 k', .int .u64 s', .slice A1 q1 c1]] X fun e Y => e = .returned (.bool r) ∧ (Below w4.heap.size w4 Y ∧ (convert 23 9 (.slice A3 (q + 20) c3)).run Tryd.prog Y = .ok (.string (strOf (frmB k s b))) Y ∧ (convert 23 9 (.slice A4 (q + 20) c4)).run Tryd.prog Y = .ok (.string (strOf (frmB k s b))) Y ∧ Y.cell? ⟨g, 0, none⟩ = some (.int .u8 (k : Int)) ∧ Y.cell? ⟨g, 1, none⟩ = some (.int .u64 (s : Int)) ∧ Y.cell? ⟨g, 2, none⟩ = some (.slice A q c) ∧ Y.cell? ⟨g1, 0, none⟩ = some (.int .u8 (k' : Int)) ∧ Y.cell? ⟨g1, 1, none⟩ = some (.int .u64 (s' : Int)) ∧ Y.cell? ⟨g1, 2, none⟩ = some (.slice A1 q1 c1)) := fun X hX => by
      refine (fsame_any k s A q c b k' s' A1 q1 c1 b1 X Hl.out (hr'.below (hbX _ hX.1)) Hj.out (hr1'.below (hbX _ hX.1))).mono ?_
      rintro e Y ⟨rfl, hY⟩
      exact ⟨by rw [hrr], mk _ (hX.1.trans (hY.mono hX.1.size))⟩
    have K2 : ∀ X, (Below w4.heap.size w4 X ∧ (convert 23 9 (.slice A3 (q + 20) c3)).run Tryd.prog X = .ok (.string (strOf (frmB k s b))) X ∧ (convert 23 9 (.slice A4 (q + 20) c4)).run Tryd.prog X = .ok (.string (strOf (frmB k s b))) X ∧ X.cell? ⟨g, 0, none⟩ = some (.int .u8 (k : Int)) ∧ X.cell? ⟨g, 1, none⟩ = some (.int .u64 (s : Int)) ∧ X.cell? ⟨g, 2, none⟩ = some (.slice A q c) ∧ X.cell? ⟨g1, 0, none⟩ = some (.int .u8 (k' : Int)) ∧ X.cell? ⟨g1, 1, none⟩ = some (.int .u64 (s' : Int)) ∧ X.cell? ⟨g1, 2, none⟩ = some (.slice A1 q1 c1)) → Calls Tryd.prog 14 #[.agg #[.int .u8 k, .int .u64 s, .slice A q c], .agg #[.int .u8 k', .int .u64 s', .slice A1 q1 c1]] X fun e Y => e = .returned (.bool r) ∧ (Below w4.heap.size w4 Y ∧ (convert 23 9 (.slice A3 (q + 20) c3)).run Tryd.prog Y = .ok (.string (strOf (frmB k s b))) Y ∧ (convert 23 9 (.slice A4 (q + 20) c4)).run Tryd.prog Y = .ok (.string (strOf (frmB k s b))) Y ∧ Y.cell? ⟨g, 0, none⟩ = some (.int .u8 (k : Int)) ∧ Y.cell? ⟨g, 1, none⟩ = some (.int .u64 (s : Int)) ∧ Y.cell? ⟨g, 2, none⟩ = some (.slice A q c) ∧ Y.cell? ⟨g1, 0, none⟩ = some (.int .u8 (k' : Int)) ∧ Y.cell? ⟨g1, 1, none⟩ = some (.int .u64 (s' : Int)) ∧ Y.cell? ⟨g1, 2, none⟩ = some (.slice A1 q1 c1)) := fun X hX => by
      refine (rsame_any k s A q c b k' s' A1 q1 c1 b1 X Hl.out (hr'.below (hbX _ hX.1)) Hj.out (hr1'.below (hbX _ hX.1))).mono ?_
      rintro e Y ⟨rfl, hY⟩
      exact ⟨by rw [hrr], mk _ (hX.1.trans (hY.mono hX.1.size))⟩
    have K3 : ∀ X, (Below w4.heap.size w4 X ∧ (convert 23 9 (.slice A3 (q + 20) c3)).run Tryd.prog X = .ok (.string (strOf (frmB k s b))) X ∧ (convert 23 9 (.slice A4 (q + 20) c4)).run Tryd.prog X = .ok (.string (strOf (frmB k s b))) X ∧ X.cell? ⟨g, 0, none⟩ = some (.int .u8 (k : Int)) ∧ X.cell? ⟨g, 1, none⟩ = some (.int .u64 (s : Int)) ∧ X.cell? ⟨g, 2, none⟩ = some (.slice A q c) ∧ X.cell? ⟨g1, 0, none⟩ = some (.int .u8 (k' : Int)) ∧ X.cell? ⟨g1, 1, none⟩ = some (.int .u64 (s' : Int)) ∧ X.cell? ⟨g1, 2, none⟩ = some (.slice A1 q1 c1)) → Calls Tryd.prog 13 #[.agg #[.int .u8 k, .int .u64 s, .slice A q c], .agg #[.int .u8 k, .int .u64 s, .slice A q c]] X fun e Y => e = .returned (.bool true) ∧ (Below w4.heap.size w4 Y ∧ (convert 23 9 (.slice A3 (q + 20) c3)).run Tryd.prog Y = .ok (.string (strOf (frmB k s b))) Y ∧ (convert 23 9 (.slice A4 (q + 20) c4)).run Tryd.prog Y = .ok (.string (strOf (frmB k s b))) Y ∧ Y.cell? ⟨g, 0, none⟩ = some (.int .u8 (k : Int)) ∧ Y.cell? ⟨g, 1, none⟩ = some (.int .u64 (s : Int)) ∧ Y.cell? ⟨g, 2, none⟩ = some (.slice A q c) ∧ Y.cell? ⟨g1, 0, none⟩ = some (.int .u8 (k' : Int)) ∧ Y.cell? ⟨g1, 1, none⟩ = some (.int .u64 (s' : Int)) ∧ Y.cell? ⟨g1, 2, none⟩ = some (.slice A1 q1 c1)) := fun X hX => by
      refine (fsame_any k s A q c b k s A q c b X Hl.out (hr'.below (hbX _ hX.1)) Hl.out (hr'.below (hbX _ hX.1))).mono ?_
      rintro e Y ⟨rfl, hY⟩
      exact ⟨by rw [hff], mk _ (hX.1.trans (hY.mono hX.1.size))⟩
    have K4 : ∀ X, (Below w4.heap.size w4 X ∧ (convert 23 9 (.slice A3 (q + 20) c3)).run Tryd.prog X = .ok (.string (strOf (frmB k s b))) X ∧ (convert 23 9 (.slice A4 (q + 20) c4)).run Tryd.prog X = .ok (.string (strOf (frmB k s b))) X ∧ X.cell? ⟨g, 0, none⟩ = some (.int .u8 (k : Int)) ∧ X.cell? ⟨g, 1, none⟩ = some (.int .u64 (s : Int)) ∧ X.cell? ⟨g, 2, none⟩ = some (.slice A q c) ∧ X.cell? ⟨g1, 0, none⟩ = some (.int .u8 (k' : Int)) ∧ X.cell? ⟨g1, 1, none⟩ = some (.int .u64 (s' : Int)) ∧ X.cell? ⟨g1, 2, none⟩ = some (.slice A1 q1 c1)) → Calls Tryd.prog 15 #[] X fun e Y => e = .returned (.bool true) ∧ (Below w4.heap.size w4 Y ∧ (convert 23 9 (.slice A3 (q + 20) c3)).run Tryd.prog Y = .ok (.string (strOf (frmB k s b))) Y ∧ (convert 23 9 (.slice A4 (q + 20) c4)).run Tryd.prog Y = .ok (.string (strOf (frmB k s b))) Y ∧ Y.cell? ⟨g, 0, none⟩ = some (.int .u8 (k : Int)) ∧ Y.cell? ⟨g, 1, none⟩ = some (.int .u64 (s : Int)) ∧ Y.cell? ⟨g, 2, none⟩ = some (.slice A q c) ∧ Y.cell? ⟨g1, 0, none⟩ = some (.int .u8 (k' : Int)) ∧ Y.cell? ⟨g1, 1, none⟩ = some (.int .u64 (s' : Int)) ∧ Y.cell? ⟨g1, 2, none⟩ = some (.slice A1 q1 c1)) := fun X hX => by
      refine (awake03_any X (Rd.below ht (hbX _ hX.1))).mono ?_
      rintro e Y ⟨rfl, hY⟩
      exact ⟨rfl, mk _ (hX.1.trans (hY.mono hX.1.size))⟩
    have S0 := mk w4.drew (Below.refl _ _).drew
    have HX := hide hbX
    have H1 := hide K1
    have H2 := hide K2
    have H3 := hide K3
    have H4 := hide K4
    clear K1 K2 K3 K4 mk hff hfl hbX
    go_wp2
    go_region_held_law (fun W => Below w4.heap.size w4 W ∧ (convert 23 9 (.slice A3 (q + 20) c3)).run Tryd.prog W = .ok (.string (strOf (frmB k s b))) W ∧ (convert 23 9 (.slice A4 (q + 20) c4)).run Tryd.prog W = .ok (.string (strOf (frmB k s b))) W ∧ W.cell? ⟨g, 0, none⟩ = some (.int .u8 (k : Int)) ∧ W.cell? ⟨g, 1, none⟩ = some (.int .u64 (s : Int)) ∧ W.cell? ⟨g, 2, none⟩ = some (.slice A q c) ∧ W.cell? ⟨g1, 0, none⟩ = some (.int .u8 (k' : Int)) ∧ W.cell? ⟨g1, 1, none⟩ = some (.int .u64 (s' : Int)) ∧ W.cell? ⟨g1, 2, none⟩ = some (.slice A1 q1 c1)) (first | exact hs5 | exact S0) (first
      | (go_at_call_of 13 (Value.agg #[.int .u8 (k' : Int), .int .u64 (s' : Int), .slice A1 q1 c1]); refine (H1.out _ (by assumption)).mono ?_; rintro e w5 ⟨rfl, hs5⟩)
      | (go_at_call 13; refine (H3.out _ (by assumption)).mono ?_; rintro e w5 ⟨rfl, hs5⟩)
      | (go_at_call 14; refine (H2.out _ (by assumption)).mono ?_; rintro e w5 ⟨rfl, hs5⟩)
      | (go_at_call 15; refine (H4.out _ (by assumption)).mono ?_; rintro e w5 ⟨rfl, hs5⟩))
    all_goals
      go_wp2
      go_ret
      exact ⟨rfl, HX.out _ hs5.1⟩
end Go.Proofs.YtaenoonadodbnaaDoor
