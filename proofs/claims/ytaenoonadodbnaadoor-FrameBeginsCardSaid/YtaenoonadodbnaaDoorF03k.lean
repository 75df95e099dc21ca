/- The law FrameScans, walked. -/
import Derived.Test.YtaenoonadodbnaaDoorF03v
import Derived.Test.YtaenoonadodbnaaDoorF03p
namespace Go.Proofs.YtaenoonadodbnaaDoor
open Go.RowKit Go.Px
set_option linter.unusedVariables false
set_option maxHeartbeats 3200000 in
theorem frameScans_walk (A : Option Addr) (m c : Nat) (bs : List UInt8) (w : World) (hm : bs.length = m) (hmc : m ≤ c) (hc : c ≤ 9223372036854775807) (hr : Rd w A (bys bs)) (ht : Tab w) :
    Calls Tryd.prog 5 #[.slice A m c] w fun e w' => e = .returned (.bool true) ∧ Below w.heap.size w w' := by
  obtain ⟨hl1, hl2⟩ := lcut_le m
  have Hl := hide (show (bs.take 16384).length = lcut m by rw [lcut_len, hm])
  have hr' := lcut_rd hr
  obtain ⟨q, hq⟩ : ∃ q, lcut m = q := ⟨_, rfl⟩
  rw [hq] at hl1 hl2 Hl
  have Hq := hide hq
  clear hq hm hr
  generalize bs.take 16384 = b at *
  go_enter Tryd.func5, Tryd.ntmps5
  go_wp2_with fail
  go_fit (cut_any A m c w hmc hc)
  rw [Hq.out]
  rintro e w1 ⟨rfl, rfl⟩
  go_wp2_with fail
  go_fit (fscan_any A q c b w Hl.out (by omega) (by omega) hc hr' ht)
  rintro e w2 ⟨J, o, cs, rfl, hE, ho, hF, hb2⟩
  obtain ⟨A2, c2, rfl, _, hc2, hcm2, hr2, _⟩ := own_out ho
  go_wp2_with fail
  go_fit (rscan_any A q c b w2 Hl.out (by omega) (by omega) hc (hr'.below hb2))
  rintro e w3 ⟨K, o3, cs3, rfl, hE3, ho3, hF3, hb3⟩
  obtain ⟨A3, c3, rfl, _, hc3, hcm3, hr3, _⟩ := own_out ho3
  obtain rfl : J = K := hE.one hE3
  have hb03 := hb2.trans (hb3.mono hb2.size)
  go_wp2_with fail
  go_fit (sameAll_eq A2 J c2 cs A3 c3 cs3 (scF b J) _ _ w3 (scF_length b J) hc2 (by unfold maxLen at hcm2; omega) (hr2.below hb3) hr3 (hF.below hb3) hF3)
  rintro e w4 ⟨rfl, hb4⟩
  have hb04 := hb03.trans (hb4.mono hb03.size)
  go_wp2_with fail
  go_fit (awake03_any w4 (Rd.below ht hb04))
  rintro e w5 ⟨rfl, hb5⟩
  go_wp2
  go_ret
  exact ⟨by simp, hb04.trans (hb5.mono hb04.size)⟩
end Go.Proofs.YtaenoonadodbnaaDoor
