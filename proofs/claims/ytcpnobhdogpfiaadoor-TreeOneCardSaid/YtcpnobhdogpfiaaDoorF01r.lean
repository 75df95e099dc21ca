/- The document's answers for octets. -/
import Derived.Test.YtcpnobhdogpfiaaDoorF01c
namespace Go.Proofs.YtcpnobhdogpfiaaDoor
set_option maxRecDepth 20000
open Go.RowKit Go.Px
set_option linter.unusedVariables false

theorem div_pow_succ (v j : Nat) : v / 256 ^ j / 256 = v / 256 ^ (j + 1) := by rw [Nat.div_div_eq_div_mul, Nat.pow_succ]
theorem rfits_any (v k : Nat) (w : World) (hv : v < 18446744073709551616) (hk : k ≤ 8) :
    Calls Tryd.prog 66 #[.int .u64 v, .int .i64 k] w fun e w' => e = .returned (.bool (decide (v < 256 ^ k))) ∧ w = w' := by
  go_enter Tryd.func66, Tryd.ntmps66
  go_wp2
  go_loop [0, 5] (fun u i => ∃ j : Nat, j ≤ k ∧ i = .int .i64 j ∧ u = .int .u64 ((v / 256 ^ j : Nat) : Int)) (fun _ i => k - (intOf i).toNat)
  case atStart => exact ⟨0, Nat.zero_le _, rfl, by simp⟩
  case round =>
    obtain ⟨j, hj, rfl, rfl⟩ := hrel
    have hle : v / 256 ^ j ≤ v := Nat.div_le_self _ _
    have Hs := hide (div_pow_succ v j)
    obtain ⟨q, hq⟩ : ∃ q, v / 256 ^ j = q := ⟨_, rfl⟩
    rw [hq] at hle ⊢
    have Hq := hide hq
    clear hq
    by_cases hlt : j < k
    · go_wp2
      go_round
      case rel =>
        refine ⟨j + 1, by omega, by go_num, ?_⟩
        rw [← Hs.out, Hq.out]; simp
      case measure => simp [intOf]; omega
    · go_wp2
      go_ret
      have : j = k := by omega
      subst this
      refine ⟨?_, rfl⟩
      have h3 : 0 < 256 ^ j := Nat.pow_pos (by decide)
      have : ((q : Int) == 0) = decide (v < 256 ^ j) := by
        rw [← Hq.out, Bool.eq_iff_iff]
        simp only [beq_iff_eq, Int.natCast_eq_zero, Nat.div_eq_zero_iff, decide_eq_true_eq]
        omega
      simp [this]

end Go.Proofs.YtcpnobhdogpfiaaDoor
