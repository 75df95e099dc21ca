/- The laws CrcSeals and CrcSpoilt, walked. -/
import Derived.Test.YtejgjkcelmjflaaDoorF02d
import Derived.Test.YtejgjkcelmjflaaDoorF02L
import Derived.Deep.RegionHeldLaw
namespace Go.Proofs.YtejgjkcelmjflaaDoor
open Go.RowKit Go.Px
set_option linter.unusedVariables false

theorem open_sealed (b : List UInt8) : openE (b ++ leB 4 (moreN 0 b)) = 0 ∧ openB (b ++ leB 4 (moreN 0 b)) = b := by
  have hl : (b ++ leB 4 (moreN 0 b)).length = b.length + 4 := by rw [List.length_append, leB_length]
  have h1 : (b ++ leB 4 (moreN 0 b)).drop b.length = leB 4 (moreN 0 b) := List.drop_left
  have h2 : (b ++ leB 4 (moreN 0 b)).take b.length = b := List.take_left
  have hE : openE (b ++ leB 4 (moreN 0 b)) = 0 := by
    unfold openE
    rw [hl, if_neg (by omega), show b.length + 4 - 4 = b.length by omega, h1, h2, if_pos (numN_leB 4 _ (moreN_lt _ _))]
  refine ⟨hE, ?_⟩
  unfold openB
  rw [if_pos hE, hl, show b.length + 4 - 4 = b.length by omega, h2]

set_option maxHeartbeats 1600000 in
theorem crcSeals_walk (A : Option Addr) (m c : Nat) (bs : List UInt8) (w : World) (hm : bs.length = m) (hmc : m ≤ c) (hc : c ≤ 9223372036854775807) (hr : Rd w A (bys bs)) (ht : Tab w) :
    Calls Tryd.prog 5 #[.slice A m c] w fun e w' => e = .returned (.bool true) ∧ Below w.heap.size w w' := by
  obtain ⟨hl1, hl2⟩ := lcut_le m
  have Hl := hide (show (bs.take 16384).length = lcut m by rw [lcut_len, hm])
  have hr' := lcut_rd hr
  obtain ⟨q, hq⟩ : ∃ q, lcut m = q := ⟨_, rfl⟩
  rw [hq] at hl1 hl2 Hl
  have Hq := hide hq
  clear hq hm hr
  generalize bs.take 16384 = b at *
  obtain ⟨sl, hsl⟩ : ∃ x, b ++ leB 4 (moreN 0 b) = x := ⟨_, rfl⟩
  obtain ⟨ol, hol⟩ : ∃ x, openB b = x := ⟨_, rfl⟩
  obtain ⟨oe, hoe⟩ : ∃ x, openE b = x := ⟨_, rfl⟩
  have hos := open_sealed b
  rw [hsl] at hos
  have Hos1 := hide hos.1
  have Hos2 := hide hos.2
  have Hsll := hide (show sl.length = q + 4 by rw [← hsl, List.length_append, leB_length, Hl.out])
  have Hsl := hide hsl
  have Hol := hide hol
  have Hoe := hide hoe
  clear hsl hol hoe hos
  go_enter Tryd.func5, Tryd.ntmps5
  go_wp2_with fail
  refine (cut_any _ _ _ _ hmc hc).mono ?_
  rw [Hq.out]
  rintro e w0 ⟨rfl, rfl⟩
  go_wp2_with fail
  refine (seal_any _ _ _ b _ Hl.out (by omega) (by omega) hc hr' ht).mono ?_
  rw [Hsl.out]
  rintro e w1 ⟨v1, rfl, ho1, hb1⟩
  obtain ⟨A1, c1, rfl, _, hc1, hcm1, hr1, ha1⟩ := own_out ho1
  have ht1 : Tab w1 := Rd.below ht hb1
  go_wp2_with fail
  refine (open_any _ _ _ b _ Hl.out (by omega) (by omega) hc (hr'.below hb1) ht1).mono ?_
  rw [Hol.out, Hoe.out]
  rintro e w2 ⟨v2, rfl, ho2, hb2⟩
  obtain ⟨A2, c2, rfl, _, hc2, hcm2, hr2, ha2⟩ := own_out ho2
  have hb02 : Below w.heap.size w w2 := hb1.trans (hb2.mono hb1.size)
  go_wp2_with fail
  refine (ropen_any _ _ _ b _ Hl.out (by omega) (by omega) hc (hr'.below hb02)).mono ?_
  rw [Hol.out, Hoe.out]
  rintro e w3 ⟨v3, rfl, ho3, hb3⟩
  obtain ⟨A3, c3, rfl, _, hc3, hcm3, hr3, ha3⟩ := own_out ho3
  have hb03 : Below w.heap.size w w3 := hb02.trans (hb3.mono hb02.size)
  have ht3 : Tab w3 := Rd.below ht hb03
  go_wp2_with fail
  refine (open_any _ _ _ sl _ Hsll.out (by omega) hc1 (by unfold maxLen at hcm1; omega) ((hr1.below hb2).below hb3) ht3).mono ?_
  rw [Hos1.out, Hos2.out]
  rintro e w4 ⟨v4, rfl, ho4, hb4⟩
  obtain ⟨A4, c4, rfl, _, hc4, hcm4, hr4, ha4⟩ := own_out ho4
  have hb04 : Below w.heap.size w w4 := hb03.trans (hb4.mono hb03.size)
  have ht4 : Tab w4 := Rd.below ht hb04
  have f1 : ∀ W, Below w4.heap.size w4 W → (convert 22 9 (.slice A1 (q + 4) c1)).run Tryd.prog W = .ok (.string (strOf sl)) W := fun W hb => convB c1 Hsll.out ((((hr1.below hb2).below hb3).below hb4).below hb)
  have f2 : ∀ W, Below w4.heap.size w4 W → (convert 22 9 (.slice A2 ol.length c2)).run Tryd.prog W = .ok (.string (strOf ol)) W := fun W hb => convB c2 rfl (((hr2.below hb3).below hb4).below hb)
  have f3 : ∀ W, Below w4.heap.size w4 W → (convert 22 9 (.slice A3 ol.length c3)).run Tryd.prog W = .ok (.string (strOf ol)) W := fun W hb => convB c3 rfl ((hr3.below hb4).below hb)
  have f4 : ∀ W, Below w4.heap.size w4 W → (convert 22 9 (.slice A4 b.length c4)).run Tryd.prog W = .ok (.string (strOf b)) W := fun W hb => convB c4 rfl (hr4.below hb)
  have f5 : ∀ W, Below w4.heap.size w4 W → (convert 22 9 (.slice A q c)).run Tryd.prog W = .ok (.string (strOf b)) W := fun W hb => convB c Hl.out ((hr'.below hb04).below hb)
  have d0 : Below w4.heap.size w4 w4.drew := (Below.refl _ _).drew
  have e1 := f1 _ d0
  have e2 := f2 _ d0
  have e3 := f3 _ d0
  have e4 := f4 _ d0
  have e5 := f5 _ d0
  have F1 := hide f1
  have F2 := hide f2
  have F3 := hide f3
  have F4 := hide f4
  have F5 := hide f5
  clear f1 f2 f3 f4 f5
  go_wp2
  go_region_held_law (fun W => (convert 22 9 (.slice A1 (q + 4) c1)).run Tryd.prog W = .ok (.string (strOf sl)) W ∧ (convert 22 9 (.slice A2 ol.length c2)).run Tryd.prog W = .ok (.string (strOf ol)) W ∧ (convert 22 9 (.slice A3 ol.length c3)).run Tryd.prog W = .ok (.string (strOf ol)) W ∧ (convert 22 9 (.slice A4 b.length c4)).run Tryd.prog W = .ok (.string (strOf b)) W ∧ (convert 22 9 (.slice A q c)).run Tryd.prog W = .ok (.string (strOf b)) W)
    (first | exact ⟨e1, e2, e3, e4, e5⟩ | exact ⟨e1', e2', e3', e4', e5'⟩ | exact ⟨e1'', e2'', e3'', e4'', e5''⟩) (first
    | (go_at_call 18; refine (rseal_any _ _ _ b _ Hl.out (by omega) (Rd.drew (hr'.below hb04))).mono ?_; rw [Hsl.out]; rintro e w5 ⟨v5, rfl, ho5, hb5⟩; obtain ⟨A5, c5, rfl, _, hc5, hcm5, hr5, ha5⟩ := own_out ho5; have d5 := d0.trans (hb5.mono (by simp)); have e1' := F1.out _ d5; have e2' := F2.out _ d5; have e3' := F3.out _ d5; have e4' := F4.out _ d5; have e5' := F5.out _ d5; have e6' := convB c5 Hsll.out hr5)
    | (go_at_call 13; refine (awake02_any _ (Rd.below ht4 d5)).mono ?_; rintro e w6 ⟨rfl, hb6⟩; have d6 := d5.trans (hb6.mono d5.size); have e1'' := F1.out _ d6; have e2'' := F2.out _ d6; have e3'' := F3.out _ d6; have e4'' := F4.out _ d6; have e5'' := F5.out _ d6))
  all_goals
    go_wp2
    go_ret
    exact ⟨rfl, (hb04.trans (d5.mono hb04.size)).trans (hb6.mono (Nat.le_trans hb04.size d5.size))⟩
end Go.Proofs.YtejgjkcelmjflaaDoor
