/- Package crc, and the document's answers for it: sums. -/
import Derived.Test.YtcpnobhdogpfiaaDoorTypes
import Derived.Test.YtcpnobhdogpfiaaDoorM02
namespace Go.Proofs.YtcpnobhdogpfiaaDoor
set_option maxRecDepth 20000
open Go.RowKit Go.Px
set_option linter.unusedVariables false

def tabV : List Value := tabN.map fun v : Nat => Value.int .u32 (v : Int)
/-- The package's table holds what its text lays. -/
def Tab (w : World) : Prop := Rd w (some ⟨0, 0, none⟩) tabV
theorem Tab.at_ {w : World} (h : Tab w) {r : Nat} (hr : r < 16) : w.cell? ⟨0, r, none⟩ = some (.int .u32 ((stp4 r : Nat) : Int)) := by
  have h1 : tabV[r]? = some (.int .u32 ((stp4 r : Nat) : Int)) := by simp [tabV, tab_stp4 r hr]
  have := Rd.at_ h h1
  unfold Addr.add at this
  split at this
  · rename_i h0; subst h0; exact this
  · simpa using this

theorem nib_facts {w : World} (ht : Tab w) (c : Nat) (hc : c < 4294967296) : ∃ r t d : Nat, bits .and .u32 (c : Int) 15 = (r : Int) ∧ r < 16 ∧ w.cell? ⟨0, r, none⟩ = some (.int .u32 (t : Int)) ∧
    bits .xor .u32 (t : Int) ((c : Int) / 16) = (d : Int) ∧ d < 4294967296 ∧ Hid (stp4 c = d) := by
  refine ⟨c % 16, stp4 (c % 16), stp4 c, ?_, Nat.mod_lt _ (by decide), ht.at_ (Nat.mod_lt _ (by decide)), ?_, stp4_lt hc, rfl⟩
  · rw [show (15 : Int) = ((15 : Nat) : Int) from rfl, u32_and_nat _ _ hc (by decide)]
    congr 1
    exact Nat.and_two_pow_sub_one_eq_mod c 4
  · rw [show (c : Int) / 16 = ((c / 16 : Nat) : Int) from by rw [Int.natCast_ediv]; rfl, u32_xor_nat _ _ (stp4_lt (by omega)) (by omega), nib_step]

set_option maxHeartbeats 1000000 in
theorem more_any (s : Nat) (A : Option Addr) (n c : Nat) (bs : List UInt8) (w : World) (hs : s < 4294967296) (hn : bs.length = n) (hn8 : n ≤ 1099511627776) (hr : Rd w A (bys bs)) (ht : Tab w) :
    Calls Tryd.prog 50 #[.int .u32 s, .slice A n c] w fun e w' => e = .returned (.int .u32 (moreN s bs)) ∧ w = w' := by
  have Hn := hide hn
  clear hn
  go_enter Tryd.func50, Tryd.ntmps50
  have hx : bits .xor .u32 4294967295 (s : Int) = ((4294967295 - s : Nat) : Int) := by
    rw [show (4294967295 : Int) = ((4294967295 : Nat) : Int) from rfl, u32_xor_nat _ _ (by decide) hs, Nat.xor_comm, not_u32 s hs]
  go_wp2
  go_loop [5, 12] (fun u i => ∃ k : Nat, k ≤ n ∧ i = .int .i64 k ∧ u = .int .u32 ((rawN (4294967295 - s) (bs.take k) : Nat) : Int)) (fun _ i => n - (intOf i).toNat)
  case atStart => exact ⟨0, Nat.zero_le _, rfl, by simp [rawN]⟩
  case round =>
    obtain ⟨k, hk, rfl, rfl⟩ := hrel
    clear hx
    have hq := rawN_lt (bs.take k) (4294967295 - s) (by omega)
    by_cases hlt : k < n
    · have hkb : k < bs.length := by rw [Hn.out]; exact hlt
      have HS := hide (show rawN (4294967295 - s) (bs.take (k + 1)) = stp4 (stp4 (rawN (4294967295 - s) (bs.take k) ^^^ (bs[k]).toNat)) by
        rw [List.take_succ_eq_append_getElem hkb, rawN_append]; rfl)
      obtain ⟨a, rfl, hc⟩ := hr k _ (bys_get hkb)
      obtain ⟨b, hb⟩ : ∃ b, (bs[k]).toNat = b := ⟨_, rfl⟩
      have hb8 : b < 256 := by rw [← hb]; exact (bs[k]).toNat_lt
      rw [hb] at hc HS
      clear hb
      obtain ⟨q, hqq⟩ : ∃ q, rawN (4294967295 - s) (bs.take k) = q := ⟨_, rfl⟩
      rw [hqq] at hq HS ⊢
      clear hqq
      have e0 : IntKind.u32.wrap (b : Int) = b := IntWalk.u32_in _ (by omega)
      have e1 := u32_xor_nat q b hq (by omega)
      have hc1 : q ^^^ b < 4294967296 := xor_lt hq (by omega)
      obtain ⟨c1, hcc1⟩ : ∃ x, q ^^^ b = x := ⟨_, rfl⟩
      rw [hcc1] at e1 hc1 HS
      clear hcc1
      obtain ⟨r1, t1, c2, e2, hr1, g1, e3, hc2, S1⟩ := nib_facts ht c1 hc1
      obtain ⟨r2, t2, c3, e4, hr2, g2, e5, hc3, S2⟩ := nib_facts ht c2 hc2
      go_wp2
      go_round
      case rel => exact ⟨k + 1, by omega, by go_num, by rw [HS.out, S1.out, S2.out]⟩
      case measure => simp [intOf]; omega
    · have hx : bits .xor .u32 4294967295 ((rawN (4294967295 - s) (bs.take k) : Nat) : Int) = ((4294967295 - rawN (4294967295 - s) (bs.take k) : Nat) : Int) := by
        rw [show (4294967295 : Int) = ((4294967295 : Nat) : Int) from rfl, u32_xor_nat _ _ (by decide) hq, Nat.xor_comm, not_u32 _ hq]
      go_wp2
      go_ret
      have : k = n := by omega
      subst this
      exact ⟨by rw [List.take_of_length_le (by rw [Hn.out]; exact Nat.le_refl _)]; rfl, rfl⟩

theorem rstep_any (s : Nat) (w : World) (hs : s < 4294967296) : Calls Tryd.prog 80 #[.int .u32 s] w fun e w' => e = .returned (.int .u32 ((stp s : Nat) : Int)) ∧ w = w' := by
  by_cases h : s % 2 = 1
  · have HS := hide (show stp s = s / 2 ^^^ 2197175160 by unfold stp; rw [if_pos h])
    have e1 : bits .xor .u32 ((s : Int) / 2) 2197175160 = ((s / 2 ^^^ 2197175160 : Nat) : Int) := by
      rw [show (s : Int) / 2 = ((s / 2 : Nat) : Int) from by rw [Int.natCast_ediv]; rfl, show (2197175160 : Int) = ((2197175160 : Nat) : Int) from rfl, u32_xor_nat _ _ (by omega) (by decide)]
    have e2 : (((s : Int) % 2) == 1) = true := by rw [beq_iff_eq]; omega
    have e3 : (s : Int) % 2 = 1 := by omega
    go_enter Tryd.func80, Tryd.ntmps80
    go_wp2
    all_goals go_ret
    all_goals exact ⟨by rw [HS.out]; rfl, rfl⟩
  · have HS := hide (show stp s = s / 2 by unfold stp; rw [if_neg h])
    have e2 : (((s : Int) % 2) == 1) = false := by rw [beq_eq_false_iff_ne]; omega
    go_enter Tryd.func80, Tryd.ntmps80
    go_wp2
    all_goals go_ret
    all_goals exact ⟨by rw [HS.out, Int.natCast_ediv]; rfl, rfl⟩

def itS : Nat → Nat → Nat
  | 0, x => x
  | n + 1, x => stp (itS n x)
theorem itS_lt (n : Nat) {x : Nat} (h : x < 4294967296) : itS n x < 4294967296 := by
  induction n with
  | zero => exact h
  | succ n ih => exact stp_lt ih
theorem itS_eight (x : Nat) : itS 8 x = stp8 x := rfl

set_option maxHeartbeats 1000000 in
theorem rmore_any (s : Nat) (A : Option Addr) (n c : Nat) (bs : List UInt8) (w : World) (hs : s < 4294967296) (hn : bs.length = n) (hn8 : n ≤ 1099511627776) (hr : Rd w A (bys bs)) :
    Calls Tryd.prog 67 #[.int .u32 s, .slice A n c] w fun e w' => e = .returned (.int .u32 (moreN s bs)) ∧ w = w' := by
  have Hn := hide hn
  clear hn
  go_enter Tryd.func67, Tryd.ntmps67
  have hx : bits .xor .u32 4294967295 (s : Int) = ((4294967295 - s : Nat) : Int) := by
    rw [show (4294967295 : Int) = ((4294967295 : Nat) : Int) from rfl, u32_xor_nat _ _ (by decide) hs, Nat.xor_comm, not_u32 s hs]
  go_wp2
  go_loop [5, 6] (fun u i => ∃ k : Nat, k ≤ n ∧ i = .int .i64 k ∧ u = .int .u32 ((rawN (4294967295 - s) (bs.take k) : Nat) : Int)) (fun _ i => n - (intOf i).toNat)
  case atStart => exact ⟨0, Nat.zero_le _, rfl, by simp [rawN]⟩
  case round =>
    obtain ⟨k, hk, rfl, rfl⟩ := hrel
    clear hx
    have hq := rawN_lt (bs.take k) (4294967295 - s) (by omega)
    by_cases hlt : k < n
    · have hkb : k < bs.length := by rw [Hn.out]; exact hlt
      have HS := hide (show rawN (4294967295 - s) (bs.take (k + 1)) = stp8 (rawN (4294967295 - s) (bs.take k) ^^^ (bs[k]).toNat) by
        rw [List.take_succ_eq_append_getElem hkb, rawN_append]; rfl)
      obtain ⟨a, rfl, hc⟩ := hr k _ (bys_get hkb)
      obtain ⟨b, hb⟩ : ∃ b, (bs[k]).toNat = b := ⟨_, rfl⟩
      have hb8 : b < 256 := by rw [← hb]; exact (bs[k]).toNat_lt
      rw [hb] at hc HS
      clear hb
      obtain ⟨q, hqq⟩ : ∃ q, rawN (4294967295 - s) (bs.take k) = q := ⟨_, rfl⟩
      rw [hqq] at hq HS ⊢
      clear hqq
      have e0 : IntKind.u32.wrap (b : Int) = b := IntWalk.u32_in _ (by omega)
      have e1 := u32_xor_nat q b hq (by omega)
      have hc1 : q ^^^ b < 4294967296 := xor_lt hq (by omega)
      obtain ⟨c1, hcc1⟩ : ∃ x, q ^^^ b = x := ⟨_, rfl⟩
      rw [hcc1] at e1 hc1 HS
      clear hcc1
      go_wp2
      go_loop [5, 7] (fun u i => ∃ j : Nat, j ≤ 8 ∧ i = .int .i64 j ∧ u = .int .u32 ((itS j c1 : Nat) : Int)) (fun _ i => 8 - (intOf i).toNat)
      case atStart => exact ⟨0, Nat.zero_le _, rfl, rfl⟩
      case round =>
        obtain ⟨j, hj, rfl, rfl⟩ := hrel
        have hj2 := itS_lt j hc1
        by_cases hlt' : j < 8
        · go_wp2_with fail
          refine (rstep_any _ _ hj2).mono ?_
          rintro e w' ⟨rfl, rfl⟩
          go_wp2
          go_round
          case rel => exact ⟨j + 1, by omega, by go_num, rfl⟩
          case measure => simp [intOf]; omega
        · have : j = 8 := by omega
          subst this
          rw [itS_eight]
          go_wp2
          go_round
          case rel => exact ⟨k + 1, by omega, by go_num, by rw [HS.out]⟩
          case measure => simp [intOf]; omega
    · have hx : bits .xor .u32 4294967295 ((rawN (4294967295 - s) (bs.take k) : Nat) : Int) = ((4294967295 - rawN (4294967295 - s) (bs.take k) : Nat) : Int) := by
        rw [show (4294967295 : Int) = ((4294967295 : Nat) : Int) from rfl, u32_xor_nat _ _ (by decide) hq, Nat.xor_comm, not_u32 _ hq]
      go_wp2
      go_ret
      have : k = n := by omega
      subst this
      exact ⟨by rw [List.take_of_length_le (by rw [Hn.out]; exact Nat.le_refl _)]; rfl, rfl⟩
end Go.Proofs.YtcpnobhdogpfiaaDoor
