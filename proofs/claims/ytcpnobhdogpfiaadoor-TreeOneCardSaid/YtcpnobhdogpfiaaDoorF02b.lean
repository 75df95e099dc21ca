/- Package crc: sums of several rows; the document's; the law's pieces. -/
import Derived.Test.YtcpnobhdogpfiaaDoorF02a
namespace Go.Proofs.YtcpnobhdogpfiaaDoor
set_option maxRecDepth 20000
open Go.RowKit Go.Px
set_option linter.unusedVariables false

theorem sumN_snoc (l : List (List UInt8)) (k : Nat) (h : k < l.length) : sumN (l.take (k + 1)) = moreN (sumN (l.take k)) l[k] := by
  rw [List.take_succ_eq_append_getElem h, sumN, List.foldl_append]; rfl
theorem sumN_lt (l : List (List UInt8)) : sumN l < 4294967296 := by
  unfold sumN
  rw [sumN_flat l 0 (by decide)]; exact moreN_lt _ _

set_option maxHeartbeats 400000 in
theorem sum_any (L : Option Addr) (k d : Nat) (vs : List Value) (bss : List (List UInt8)) (w : World) (hk : bss.length = k) (hk8 : k ≤ 1099511627776) (hL : Rd w L vs) (hv : BRows w vs bss) (ht : Tab w) :
    Calls Tryd.prog 45 #[.slice L k d] w fun e w' => e = .returned (.int .u32 ((sumN bss : Nat) : Int)) ∧ w = w' := by
  have Hk := hide hk
  clear hk
  go_enter Tryd.func45, Tryd.ntmps45
  go_wp2_with fail
  go_loop [3, 8] (fun u i => ∃ j : Nat, j ≤ k ∧ i = .int .i64 j ∧ u = .int .u32 ((sumN (bss.take j) : Nat) : Int)) (fun _ i => k - (intOf i).toNat)
  case atStart => exact ⟨0, Nat.zero_le _, rfl, by simp [sumN]⟩
  case round =>
    obtain ⟨j, hj, rfl, rfl⟩ := hrel
    have hq := sumN_lt (bss.take j)
    by_cases hlt : j < k
    · have hjl : j < bss.length := by rw [Hk.out]; exact hlt
      have HS := hide (sumN_snoc bss j hjl)
      obtain ⟨A, n, c, h1, h2, h3, h4, h5, h6⟩ := hv.get hjl
      obtain ⟨a, rfl, hc⟩ := hL j _ h1
      have H2 := hide h2
      clear h1 h2
      go_wp2_with fail
      refine (more_any _ _ _ _ bss[j] _ hq H2.out h4 h6 ht).mono ?_
      rw [← HS.out]
      rintro e w' ⟨rfl, rfl⟩
      go_wp2
      go_round
      case rel => exact ⟨j + 1, by omega, by go_num, rfl⟩
      case measure => simp [intOf]; omega
    · go_wp2
      go_ret
      have : j = k := by omega
      subst this
      exact ⟨by rw [List.take_of_length_le (by rw [Hk.out]; exact Nat.le_refl _)]; rfl, rfl⟩

set_option maxHeartbeats 400000 in
theorem rsum_any (L : Option Addr) (k d : Nat) (vs : List Value) (bss : List (List UInt8)) (w : World) (hk : bss.length = k) (hk8 : k ≤ 1099511627776) (hL : Rd w L vs) (hv : BRows w vs bss) :
    Calls Tryd.prog 48 #[.slice L k d] w fun e w' => e = .returned (.int .u32 ((sumN bss : Nat) : Int)) ∧ w = w' := by
  have Hk := hide hk
  clear hk
  go_enter Tryd.func48, Tryd.ntmps48
  go_wp2_with fail
  go_loop [3, 4] (fun u i => ∃ j : Nat, j ≤ k ∧ i = .int .i64 j ∧ u = .int .u32 ((sumN (bss.take j) : Nat) : Int)) (fun _ i => k - (intOf i).toNat)
  case atStart => exact ⟨0, Nat.zero_le _, rfl, by simp [sumN]⟩
  case round =>
    obtain ⟨j, hj, rfl, rfl⟩ := hrel
    have hq := sumN_lt (bss.take j)
    by_cases hlt : j < k
    · have hjl : j < bss.length := by rw [Hk.out]; exact hlt
      have HS := hide (sumN_snoc bss j hjl)
      obtain ⟨A, n, c, h1, h2, h3, h4, h5, h6⟩ := hv.get hjl
      obtain ⟨a, rfl, hc⟩ := hL j _ h1
      have H2 := hide h2
      clear h1 h2
      go_wp2_with fail
      refine (rmore_any _ _ _ _ bss[j] _ hq H2.out h4 h6).mono ?_
      rw [← HS.out]
      rintro e w' ⟨rfl, rfl⟩
      go_wp2
      go_round
      case rel => exact ⟨j + 1, by omega, by go_num, rfl⟩
      case measure => simp [intOf]; omega
    · go_wp2
      go_ret
      have : j = k := by omega
      subst this
      exact ⟨by rw [List.take_of_length_le (by rw [Hk.out]; exact Nat.le_refl _)]; rfl, rfl⟩

theorem rof_any (A : Option Addr) (n c : Nat) (bs : List UInt8) (w : World) (hn : bs.length = n) (hn8 : n ≤ 1099511627776) (hr : Rd w A (bys bs)) : Calls Tryd.prog 51 #[.slice A n c] w fun e w' => e = .returned (.int .u32 ((moreN 0 bs : Nat) : Int)) ∧ w = w' := by
  have Hn := hide hn
  clear hn
  go_enter Tryd.func51, Tryd.ntmps51
  go_wp2_with fail
  refine (rmore_any 0 _ _ _ bs _ (by decide) Hn.out hn8 hr).mono ?_
  rintro e w' ⟨rfl, rfl⟩
  go_wp2
  go_ret
  exact ⟨rfl, rfl⟩

end Go.Proofs.YtcpnobhdogpfiaaDoor
