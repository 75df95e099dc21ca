/- Package octets: what its functions answer (numbers). -/
import Derived.Test.YtaenoonadodbnaaDoorTypes
import Derived.Test.YtaenoonadodbnaaDoorM01
namespace Go.Proofs.YtaenoonadodbnaaDoor
open Go.RowKit Go.Px
set_option linter.unusedVariables false

theorem isSize_any (n : Int) (w : World) : Calls Tryd.prog 40 #[.int .i64 n] w fun e w' => e = .returned (.bool (decide (1 ≤ n ∧ n ≤ 8))) ∧ w = w' := by
  by_cases h1 : 1 ≤ n <;> by_cases h2 : n ≤ 8
  all_goals
    go_enter Tryd.func40, Tryd.ntmps40
    go_wp2
    go_ret
    exact ⟨by simp; omega, rfl⟩

theorem shr_zero (v k : Nat) : ((v : Int) / 2 ^ (8 * k) != 0) = !decide (v < 256 ^ k) := by
  have h2 : ((v : Int) / 2 ^ (8 * k)) = ((v / 256 ^ k : Nat) : Int) := by
    rw [pow256_two, Int.natCast_ediv, Int.natCast_pow]; rfl
  rw [h2]
  have h3 : 0 < 256 ^ k := Nat.pow_pos (by decide)
  rw [Bool.eq_iff_iff]
  simp only [bne_iff_ne, ne_eq, Bool.not_eq_true', decide_eq_false_iff_not, Int.natCast_eq_zero, Nat.div_eq_zero_iff]
  omega

set_option maxHeartbeats 400000 in
theorem fits_any (v : Nat) (n : Int) (w : World) (hv : v < 18446744073709551616) : Calls Tryd.prog 45 #[.int .u64 v, .int .i64 n] w fun e w' => e = .returned (.int .i64 (fitsE v n)) ∧ w = w' := by
  by_cases hs : 1 ≤ n ∧ n ≤ 8
  · have Hz := hide (show decide (1 ≤ n ∧ n ≤ 8) = true by simp [hs])
    obtain ⟨h1, h2⟩ := hs
    obtain ⟨k, rfl⟩ : ∃ k : Nat, n = k := ⟨n.toNat, by omega⟩
    have hq := shr_zero v k
    have Hfin := hide (show fitsE v k = if v < 256 ^ k then 0 else 5 by unfold fitsE; rw [if_pos ⟨h1, h2⟩, Int.toNat_natCast])
    by_cases h8 : (k : Int) < 8
    · by_cases hf : v < 256 ^ k
      all_goals
        simp only [hf, decide_true, decide_false, Bool.not_true, Bool.not_false, if_true, if_false] at hq Hfin
        clear hf
        go_enter Tryd.func45, Tryd.ntmps45
        go_wp2_with (go_at_call 40; refine (isSize_any _ _).mono ?_; rw [Hz.out]; rintro e w' ⟨rfl, rfl⟩)
        go_ret
        exact ⟨by rw [Hfin.out]; rfl, rfl⟩
    · have hk : v < 256 ^ k := by
        have : k = 8 := by omega
        subst this; omega
      clear hq
      go_enter Tryd.func45, Tryd.ntmps45
      go_wp2_with (go_at_call 40; refine (isSize_any _ _).mono ?_; rw [Hz.out]; rintro e w' ⟨rfl, rfl⟩)
      go_ret
      exact ⟨by rw [Hfin.out, if_pos hk]; rfl, rfl⟩
  · have Hz := hide (show decide (1 ≤ n ∧ n ≤ 8) = false by simp; omega)
    have Hfin := hide (show fitsE v n = 1 by unfold fitsE; rw [if_neg hs])
    clear hs
    go_enter Tryd.func45, Tryd.ntmps45
    go_wp2_with (go_at_call 40; refine (isSize_any _ _).mono ?_; rw [Hz.out]; rintro e w' ⟨rfl, rfl⟩)
    go_ret
    exact ⟨by rw [Hfin.out]; rfl, rfl⟩

set_option maxHeartbeats 400000 in
theorem number_any (A : Option Addr) (n c : Nat) (bs : List UInt8) (w : World) (hn : bs.length = n) (h8 : n ≤ 8) (hr : Rd w A (bys bs)) :
    Calls Tryd.prog 41 #[.slice A n c] w fun e w' => e = .returned (.int .u64 (numN bs)) ∧ w = w' := by
  have Hn := hide hn
  clear hn
  go_enter Tryd.func41, Tryd.ntmps41
  go_wp2
  go_loop [3, 7] (fun v i => ∃ k : Nat, k ≤ n ∧ i = .int .i64 k ∧ v = .int .u64 (numN (bs.take k))) (fun _ i => n - (intOf i).toNat)
  case atStart => exact ⟨0, Nat.zero_le _, rfl, rfl⟩
  case round =>
    obtain ⟨k, hk, rfl, rfl⟩ := hrel
    by_cases hlt : k < n
    · have hkb : k < bs.length := by rw [Hn.out]; exact hlt
      obtain ⟨a, rfl, hc⟩ := hr k _ (bys_get hkb)
      have HS := hide (numN_take_succ bs k hkb)
      have HL := hide (numN_lt (bs.take k))
      go_wp2
      go_round
      case rel =>
        refine ⟨k + 1, by omega, by go_num, ?_⟩
        have hl := HL.out
        rw [List.length_take, Nat.min_eq_left (by omega)] at hl
        rw [HS.out, or_shift_u64 _ _ k hl (UInt8.toNat_lt _) (by omega)]
      case measure => simp [intOf]; omega
    · go_wp2
      go_ret
      have : k = n := by omega
      subst this
      exact ⟨by rw [List.take_of_length_le (by rw [Hn.out]; exact Nat.le_refl _)]; rfl, rfl⟩

set_option maxHeartbeats 800000 in
theorem get_any (A : Option Addr) (m c : Nat) (bs : List UInt8) (i n : Int) (w : World) (hm : bs.length = m) (hmc : m ≤ c) (hc63 : c ≤ 9223372036854775807) (hr : Rd w A (bys bs)) (hi : -9223372036854775808 ≤ i) (hi2 : i ≤ 9223372036854775807) :
    Calls Tryd.prog 31 #[.slice A m c, .int .i64 i, .int .i64 n] w fun e w' => e = .returned (.tuple #[.int .u64 (getV bs i n), .int .i64 (getI bs i n), .int .i64 (getE bs i n)]) ∧ w = w' := by
  by_cases hs : 1 ≤ n ∧ n ≤ 8
  · have Hz := hide (show decide (1 ≤ n ∧ n ≤ 8) = true by simp [hs])
    obtain ⟨h1, h2⟩ := hs
    by_cases h0 : 0 ≤ i
    · by_cases h3 : i ≤ m
      · by_cases h4 : m - i < n
        · have He := hide (show getE bs i n = 10 by unfold getE; rw [if_pos ⟨h1, h2⟩, if_pos ⟨h0, by omega⟩, if_pos (by omega)])
          clear hm
          go_enter Tryd.func31, Tryd.ntmps31
          go_wp2_with (go_at_call 40; refine (isSize_any _ _).mono ?_; rw [Hz.out]; rintro e w' ⟨rfl, rfl⟩)
          go_ret3
          exact ⟨by simp [getV, getI, He.out], rfl⟩
        · have He := hide (show getE bs i n = 0 by unfold getE; rw [if_pos ⟨h1, h2⟩, if_pos ⟨h0, by omega⟩, if_neg (by omega)])
          obtain ⟨k, rfl⟩ : ∃ k : Nat, n = k := ⟨n.toNat, by omega⟩
          obtain ⟨j, rfl⟩ : ∃ j : Nat, i = j := ⟨i.toNat, by omega⟩
          have Hm := hide hm
          have Hl := hide (show ((bs.drop j).take k).length = k by rw [List.length_take, List.length_drop]; omega)
          clear hm
          go_enter Tryd.func31, Tryd.ntmps31
          go_wp2_with (go_at_call 40; refine (isSize_any _ _).mono ?_; rw [Hz.out]; rintro e w' ⟨rfl, rfl⟩)
          refine (number_any _ _ _ ((bs.drop j).take k) _ Hl.out (by omega) (by rw [bys_take, bys_drop]; exact (hr.cutA (n := m) (k := j) (by rw [bys_length, Hm.out]; exact Nat.le_refl _) (by omega) hmc).take _)).mono ?_
          rintro e w' ⟨rfl, rfl⟩
          go_wp2
          go_ret3
          exact ⟨by simp [getV, getI, He.out], rfl⟩
      · have He := hide (show getE bs i n = 5 by unfold getE; rw [if_pos ⟨h1, h2⟩, if_neg (by omega)])
        clear hm
        go_enter Tryd.func31, Tryd.ntmps31
        go_wp2_with (go_at_call 40; refine (isSize_any _ _).mono ?_; rw [Hz.out]; rintro e w' ⟨rfl, rfl⟩)
        go_ret3
        exact ⟨by simp [getV, getI, He.out], rfl⟩
    · have He := hide (show getE bs i n = 5 by unfold getE; rw [if_pos ⟨h1, h2⟩, if_neg (by omega)])
      clear hm
      go_enter Tryd.func31, Tryd.ntmps31
      go_wp2_with (go_at_call 40; refine (isSize_any _ _).mono ?_; rw [Hz.out]; rintro e w' ⟨rfl, rfl⟩)
      go_ret3
      exact ⟨by simp [getV, getI, He.out], rfl⟩
  · have Hz := hide (show decide (1 ≤ n ∧ n ≤ 8) = false by simp; omega)
    have He := hide (show getE bs i n = 1 by unfold getE; rw [if_neg hs])
    clear hm hs
    go_enter Tryd.func31, Tryd.ntmps31
    go_wp2_with (go_at_call 40; refine (isSize_any _ _).mono ?_; rw [Hz.out]; rintro e w' ⟨rfl, rfl⟩)
    go_ret3
    exact ⟨by simp [getV, getI, He.out], rfl⟩

/-- Bytes behind a row of the call's own. -/
theorem appendNumber_any (base : Nat) (v : Value) (n : Nat) (xs : List Value) (x k : Nat) (w : World) (hown : w.ownsRow base 5 1 v n xs) (hx : x < 18446744073709551616) (hk : k ≤ 8) (hn : n ≤ 1099511627776) (hb : base ≤ w.heap.size) :
    Calls Tryd.prog 46 #[v, .int .u64 x, .int .i64 k] w fun e w' => ∃ v', e = .returned v' ∧ Grow w v base 5 1 w' v' (n + k) (xs ++ bys (leB k x)) := by
  go_enter Tryd.func46, Tryd.ntmps46
  go_wp2
  go_loopw [0, 9] (fun u i wr => ∃ j : Nat, j ≤ k ∧ i = .int .i64 j ∧ Grow w v base 5 1 wr u (n + j) (xs ++ bys (leB j x))) (fun _ i _ => k - (intOf i).toNat)
  case atStart => exact ⟨0, Nat.zero_le _, rfl, by simpa [leB, bys] using Grow.start hown hb⟩
  case round =>
    obtain ⟨j, hj, rfl, hG⟩ := hrel
    by_cases hlt : j < k
    · go_wp2_with (first | (with_reducible refine stop_append rfl ?_) | (with_reducible refine stop_copy rfl ?_) | (with_reducible refine stop_make rfl ?_))
      refine hG.push rfl rfl rfl tBytes rfl rfl rfl (by omega) (by omega) ?_
      intro u' w1 hG1 _
      go_wp2
      go_roundw
      case rel =>
        refine ⟨j + 1, by omega, by go_num, ?_⟩
        rw [leB_snoc, bys_append, ← List.append_assoc]
        have e : (x : Int) / 2 ^ (8 * j) % 256 = ((UInt8.ofNat (x / 256 ^ j % 256)).toNat : Int) := by
          rw [toNat_ofNat_mod, pow256_two, Int.natCast_emod, Int.natCast_ediv, Int.natCast_pow]; rfl
        rw [e] at hG1
        exact hG1
      case measure => simp [intOf]; omega
    · go_wp2
      go_ret
      have : j = k := by omega
      subst this
      exact ⟨_, rfl, hG⟩
end Go.Proofs.YtaenoonadodbnaaDoor
