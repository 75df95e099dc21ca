/- Package octets: what its functions answer (numbers). -/
import Derived.Test.YtcpnobhdogpfiaaDoorTypes
import Derived.Test.YtcpnobhdogpfiaaDoorM01
namespace Go.Proofs.YtcpnobhdogpfiaaDoor
set_option maxRecDepth 20000
open Go.RowKit Go.Px
set_option linter.unusedVariables false

theorem isSize_any (n : Int) (w : World) : Calls Tryd.prog 84 #[.int .i64 n] w fun e w' => e = .returned (.bool (decide (1 ≤ n ∧ n ≤ 8))) ∧ w = w' := by
  by_cases h1 : 1 ≤ n <;> by_cases h2 : n ≤ 8
  all_goals
    go_enter Tryd.func84, Tryd.ntmps84
    go_wp2
    go_ret
    exact ⟨by simp; omega, rfl⟩

theorem shr_zero (v k : Nat) : ((v : Int) / 2 ^ (8 * k) != 0) = !decide (v < 256 ^ k) := by
  have h2 : ((v : Int) / 2 ^ (8 * k)) = ((v / 256 ^ k : Nat) : Int) := by
    rw [pow256_two, Int.natCast_ediv, Int.natCast_pow]; rfl
  rw [h2]
  have h3 : 0 < 256 ^ k := Nat.pow_pos (by decide)
  rw [Bool.eq_iff_iff]
  simp only [bne_iff_ne, ne_eq, Bool.not_eq_true', decide_eq_false_iff_not, Int.natCast_eq_zero, Nat.div_eq_zero_iff]
  omega

set_option maxHeartbeats 400000 in
theorem fits_any (v : Nat) (n : Int) (w : World) (hv : v < 18446744073709551616) : Calls Tryd.prog 77 #[.int .u64 v, .int .i64 n] w fun e w' => e = .returned (.int .i64 (fitsE v n)) ∧ w = w' := by
  by_cases hs : 1 ≤ n ∧ n ≤ 8
  · have Hz := hide (show decide (1 ≤ n ∧ n ≤ 8) = true by simp [hs])
    obtain ⟨h1, h2⟩ := hs
    obtain ⟨k, rfl⟩ : ∃ k : Nat, n = k := ⟨n.toNat, by omega⟩
    have hq := shr_zero v k
    have Hfin := hide (show fitsE v k = if v < 256 ^ k then 0 else 5 by unfold fitsE; rw [if_pos ⟨h1, h2⟩, Int.toNat_natCast])
    by_cases h8 : (k : Int) < 8
    · by_cases hf : v < 256 ^ k
      all_goals
        simp only [hf, decide_true, decide_false, Bool.not_true, Bool.not_false, if_true, if_false] at hq Hfin
        clear hf
        go_enter Tryd.func77, Tryd.ntmps77
        go_wp2_with (go_at_call 84; refine (isSize_any _ _).mono ?_; rw [Hz.out]; rintro e w' ⟨rfl, rfl⟩)
        go_ret
        exact ⟨by rw [Hfin.out]; rfl, rfl⟩
    · have hk : v < 256 ^ k := by
        have : k = 8 := by omega
        subst this; omega
      clear hq
      go_enter Tryd.func77, Tryd.ntmps77
      go_wp2_with (go_at_call 84; refine (isSize_any _ _).mono ?_; rw [Hz.out]; rintro e w' ⟨rfl, rfl⟩)
      go_ret
      exact ⟨by rw [Hfin.out, if_pos hk]; rfl, rfl⟩
  · have Hz := hide (show decide (1 ≤ n ∧ n ≤ 8) = false by simp; omega)
    have Hfin := hide (show fitsE v n = 1 by unfold fitsE; rw [if_neg hs])
    clear hs
    go_enter Tryd.func77, Tryd.ntmps77
    go_wp2_with (go_at_call 84; refine (isSize_any _ _).mono ?_; rw [Hz.out]; rintro e w' ⟨rfl, rfl⟩)
    go_ret
    exact ⟨by rw [Hfin.out]; rfl, rfl⟩

/-- Bytes behind a row of the call's own. -/
theorem appendNumber_any (base : Nat) (v : Value) (n : Nat) (xs : List Value) (x k : Nat) (w : World) (hown : w.ownsRow base 5 1 v n xs) (hx : x < 18446744073709551616) (hk : k ≤ 8) (hn : n ≤ 1099511627776) (hb : base ≤ w.heap.size) :
    Calls Tryd.prog 79 #[v, .int .u64 x, .int .i64 k] w fun e w' => ∃ v', e = .returned v' ∧ Grow w v base 5 1 w' v' (n + k) (xs ++ bys (leB k x)) := by
  go_enter Tryd.func79, Tryd.ntmps79
  go_wp2
  go_loopw [0, 9] (fun u i wr => ∃ j : Nat, j ≤ k ∧ i = .int .i64 j ∧ Grow w v base 5 1 wr u (n + j) (xs ++ bys (leB j x))) (fun _ i _ => k - (intOf i).toNat)
  case atStart => exact ⟨0, Nat.zero_le _, rfl, by simpa [leB, bys] using Grow.start hown hb⟩
  case round =>
    obtain ⟨j, hj, rfl, hG⟩ := hrel
    by_cases hlt : j < k
    · go_wp2_with (first | (with_reducible refine stop_append rfl ?_) | (with_reducible refine stop_copy rfl ?_) | (with_reducible refine stop_make rfl ?_))
      refine hG.push rfl rfl rfl tBytes rfl rfl rfl (by omega) (by omega) ?_
      intro u' w1 hG1 _
      go_wp2
      go_roundw
      case rel =>
        refine ⟨j + 1, by omega, by go_num, ?_⟩
        rw [leB_snoc, bys_append, ← List.append_assoc]
        have e : (x : Int) / 2 ^ (8 * j) % 256 = ((UInt8.ofNat (x / 256 ^ j % 256)).toNat : Int) := by
          rw [toNat_ofNat_mod, pow256_two, Int.natCast_emod, Int.natCast_ediv, Int.natCast_pow]; rfl
        rw [e] at hG1
        exact hG1
      case measure => simp [intOf]; omega
    · go_wp2
      go_ret
      have : j = k := by omega
      subst this
      exact ⟨_, rfl, hG⟩
end Go.Proofs.YtcpnobhdogpfiaaDoor
