/- Digests of rows of any length in reach. -/
import Derived.Test.YtcpnobhdogpfiaaDoorF25b
import Derived.Deep.DeepFit
namespace Go.Proofs.YtcpnobhdogpfiaaDoor
set_option maxRecDepth 20000
open Go.RowKit Go.Px
set_option linter.unusedVariables false
set_option maxHeartbeats 1000000 in
theorem rmore_big (s : Nat) (A : Option Addr) (n c : Nat) (bs : List UInt8) (w : World) (hs : s < 4294967296) (hn : bs.length = n) (hn8 : n ≤ 140737488355328) (hr : Rd w A (bys bs)) :
    Calls Tryd.prog 67 #[.int .u32 s, .slice A n c] w fun e w' => e = .returned (.int .u32 (moreN s bs)) ∧ w = w' := by
  have Hn := hide hn
  clear hn
  go_enter Tryd.func67, Tryd.ntmps67
  have hx : bits .xor .u32 4294967295 (s : Int) = ((4294967295 - s : Nat) : Int) := by
    rw [show (4294967295 : Int) = ((4294967295 : Nat) : Int) from rfl, u32_xor_nat _ _ (by decide) hs, Nat.xor_comm, not_u32 s hs]
  go_wp2
  go_loop [5, 6] (fun u i => ∃ k : Nat, k ≤ n ∧ i = .int .i64 k ∧ u = .int .u32 ((rawN (4294967295 - s) (bs.take k) : Nat) : Int)) (fun _ i => n - (intOf i).toNat)
  case atStart => exact ⟨0, Nat.zero_le _, rfl, by simp [rawN]⟩
  case round =>
    obtain ⟨k, hk, rfl, rfl⟩ := hrel
    clear hx
    have hq := rawN_lt (bs.take k) (4294967295 - s) (by omega)
    by_cases hlt : k < n
    · have hkb : k < bs.length := by rw [Hn.out]; exact hlt
      have HS := hide (show rawN (4294967295 - s) (bs.take (k + 1)) = stp8 (rawN (4294967295 - s) (bs.take k) ^^^ (bs[k]).toNat) by
        rw [List.take_succ_eq_append_getElem hkb, rawN_append]; rfl)
      obtain ⟨a, rfl, hc⟩ := hr k _ (bys_get hkb)
      obtain ⟨b, hb⟩ : ∃ b, (bs[k]).toNat = b := ⟨_, rfl⟩
      have hb8 : b < 256 := by rw [← hb]; exact (bs[k]).toNat_lt
      rw [hb] at hc HS
      clear hb
      obtain ⟨q, hqq⟩ : ∃ q, rawN (4294967295 - s) (bs.take k) = q := ⟨_, rfl⟩
      rw [hqq] at hq HS ⊢
      clear hqq
      have e0 : IntKind.u32.wrap (b : Int) = b := IntWalk.u32_in _ (by omega)
      have e1 := u32_xor_nat q b hq (by omega)
      have hc1 : q ^^^ b < 4294967296 := xor_lt hq (by omega)
      obtain ⟨c1, hcc1⟩ : ∃ x, q ^^^ b = x := ⟨_, rfl⟩
      rw [hcc1] at e1 hc1 HS
      clear hcc1
      go_wp2
      go_loop [5, 7] (fun u i => ∃ j : Nat, j ≤ 8 ∧ i = .int .i64 j ∧ u = .int .u32 ((itS j c1 : Nat) : Int)) (fun _ i => 8 - (intOf i).toNat)
      case atStart => exact ⟨0, Nat.zero_le _, rfl, rfl⟩
      case round =>
        obtain ⟨j, hj, rfl, rfl⟩ := hrel
        have hj2 := itS_lt j hc1
        by_cases hlt' : j < 8
        · go_wp2_with fail
          refine (rstep_any _ _ hj2).mono ?_
          rintro e w' ⟨rfl, rfl⟩
          go_wp2
          go_round
          case rel => exact ⟨j + 1, by omega, by go_num, rfl⟩
          case measure => simp [intOf]; omega
        · have : j = 8 := by omega
          subst this
          rw [itS_eight]
          go_wp2
          go_round
          case rel => exact ⟨k + 1, by omega, by go_num, by rw [HS.out]⟩
          case measure => simp [intOf]; omega
    · have hx : bits .xor .u32 4294967295 ((rawN (4294967295 - s) (bs.take k) : Nat) : Int) = ((4294967295 - rawN (4294967295 - s) (bs.take k) : Nat) : Int) := by
        rw [show (4294967295 : Int) = ((4294967295 : Nat) : Int) from rfl, u32_xor_nat _ _ (by decide) hq, Nat.xor_comm, not_u32 _ hq]
      go_wp2
      go_ret
      have : k = n := by omega
      subst this
      exact ⟨by rw [List.take_of_length_le (by rw [Hn.out]; exact Nat.le_refl _)]; rfl, rfl⟩
theorem rof_big (A : Option Addr) (n c : Nat) (bs : List UInt8) (w : World) (hn : bs.length = n) (hn8 : n ≤ 140737488355328) (hr : Rd w A (bys bs)) : Calls Tryd.prog 51 #[.slice A n c] w fun e w' => e = .returned (.int .u32 ((moreN 0 bs : Nat) : Int)) ∧ w = w' := by
  have Hn := hide hn
  clear hn
  go_enter Tryd.func51, Tryd.ntmps51
  go_wp2_with fail
  refine (rmore_big 0 _ _ _ bs _ (by decide) Hn.out hn8 hr).mono ?_
  rintro e w' ⟨rfl, rfl⟩
  go_wp2
  go_ret
  exact ⟨rfl, rfl⟩

set_option maxHeartbeats 800000 in
theorem row_big (A : Option Addr) (n c : Nat) (l : List Nat) (w : World) (hn : l.length = n) (hn8 : n ≤ 35184372087808) (hr : Rd w A (u32s l)) (hb : ∀ x ∈ l, x < 4294967296) (ht : Tab w) :
    Calls Tryd.prog 17 #[.slice A n c] w fun e w' => e = .returned (.int .u32 ((rowD l : Nat) : Int)) ∧ Below w.heap.size w w' := by
  have Hn := hide hn
  clear hn
  go_enter Tryd.func17, Tryd.ntmps17
  go_wp2_with fail
  go_loopw [3, 10] (fun u i wr => ∃ k : Nat, k ≤ n ∧ i = .int .i64 k ∧ u = .int .u32 ((rowD (l.take k) : Nat) : Int) ∧ Below w.heap.size w wr) (fun _ i _ => n - (intOf i).toNat)
  case atStart => exact ⟨0, Nat.zero_le _, rfl, by rw [List.take_zero, rowD_nil]; rfl, Below.refl _ _⟩
  case round =>
    obtain ⟨k, hk, rfl, rfl, hbl⟩ := hrel
    have hq := rowD_lt (l.take k)
    by_cases hlt : k < n
    · have hkl : k < l.length := by rw [Hn.out]; exact hlt
      have HS := hide (rowD_snoc l k hkl)
      have hd := hb _ (List.getElem_mem hkl)
      obtain ⟨a, rfl, hc⟩ := (hr.below hbl) k _ (u32s_get hkl)
      have ht' : Tab wr := Rd.below ht hbl
      obtain ⟨d, hdd⟩ : ∃ d, l[k] = d := ⟨_, rfl⟩
      rw [hdd] at hc HS hd
      obtain ⟨q, hqq⟩ : ∃ q, rowD (l.take k) = q := ⟨_, rfl⟩
      rw [hqq] at hq HS ⊢
      clear hdd hqq
      have HP := hide (putB_four hd)
      go_wp2_with fail
      go_fit (put_any none 0 0 [] d 4 wr rfl (by omega) Rd.nil (by omega))
      rw [HP.out.1, HP.out.2, leB_length]
      rintro x w2 ⟨u, rfl, ho, hb2⟩
      obtain ⟨B, c2, rfl, _, _, _, hr2, _⟩ := own_out ho
      clear ho
      go_wp2_with fail
      go_fit (more_any q B 4 c2 (leB 4 d) w2 hq (leB_length _ _) (by omega) hr2 (Rd.below ht' hb2))
      rw [← HS.out]
      rintro x w3 ⟨rfl, rfl⟩
      go_wp2
      go_roundw
      case rel => exact ⟨k + 1, by omega, by go_num, rfl, hbl.trans (hb2.mono hbl.size)⟩
      case measure => simp [intOf]; omega
    · go_wp2
      go_ret
      have : k = n := by omega
      subst this
      exact ⟨by rw [List.take_of_length_le (by rw [Hn.out]; exact Nat.le_refl _)]; rfl, hbl⟩
set_option maxRecDepth 100000 in
set_option maxHeartbeats 6400000 in
theorem rrow_big (A : Option Addr) (n c : Nat) (l : List Nat) (w : World) (hn : l.length = n) (hn8 : n ≤ 35184372087808) (hr : Rd w A (u32s l)) (hb : ∀ x ∈ l, x < 4294967296) :
    Calls Tryd.prog 18 #[.slice A n c] w fun e w' => e = .returned (.int .u32 ((rowD l : Nat) : Int)) ∧ Below w.heap.size w w' := by
  have Hn := hide hn
  clear hn
  go_enter Tryd.func18, Tryd.ntmps18
  go_wp2_with fail
  go_loopw [3, 4] (fun u i wr => ∃ k : Nat, k ≤ n ∧ i = .int .i64 k ∧ Grow w (.slice none 0 0) w.heap.size 5 1 wr u (4 * k) (bys (flatB 4 (l.take k)))) (fun _ i _ => n - (intOf i).toNat)
  case atStart => exact ⟨0, Nat.zero_le _, rfl, Grow.nil _ _ _⟩
  case round =>
    obtain ⟨k, hk, rfl, hG⟩ := hrel
    by_cases hlt : k < n
    · have hkl : k < l.length := by rw [Hn.out]; exact hlt
      have HS := hide (flatB_snoc 4 l k hkl)
      have hd := hb _ (List.getElem_mem hkl)
      obtain ⟨a, rfl, hc⟩ := (hr.below hG.all) k _ (u32s_get hkl)
      obtain ⟨d, hdd⟩ : ∃ d, l[k] = d := ⟨_, rfl⟩
      rw [hdd] at hc HS hd
      clear hdd
      have H4 := hide (four_cells hd)
      have hG' := hG.drew.alloc (.cells #[.int .u8 (IntKind.u8.wrap (d : Int)), .int .u8 (IntKind.u8.wrap ((d : Int) / 256)), .int .u8 (IntKind.u8.wrap ((d : Int) / 65536)), .int .u8 (IntKind.u8.wrap ((d : Int) / 16777216))] 5)
      have hN := Rd.newN wr.drew [.int .u8 (IntKind.u8.wrap (d : Int)), .int .u8 (IntKind.u8.wrap ((d : Int) / 256)), .int .u8 (IntKind.u8.wrap ((d : Int) / 65536)), .int .u8 (IntKind.u8.wrap ((d : Int) / 16777216))] 5 (0, 0)
      have hO := hG'.owns
      have hle := hG'.le
      have HG := hide hG'
      clear hG' hG
      go_wp2_with fail
      go_region_law (refine step_own (v := u3) rfl rfl tBytes (by simp [Act.eval]) hO (A := some ⟨wr.heap.size, 0, none⟩) (m := 4) (c := 4) (by simp [Act.eval]) (by rfl) hN (by intro u hu; simp at hu; rcases hu with rfl | rfl | rfl | rfl <;> rfl) (by omega) (by omega) hle ?_; intro v' w' ho' hg' hv'; have HG2 := hide (HG.out.trans ⟨ho', hg', hv'.imp id (fun e g hg => by rw [e] at hg; injection hg with hg; exact Nat.le_of_eq hg), hle⟩); clear ho' hg' hv')
      all_goals
        go_wp2
        go_roundw
        case rel =>
          refine ⟨k + 1, by omega, by go_num, ?_⟩
          rw [HS.out, bys_append, ← H4.out]
          exact HG2.out
        case measure => simp [intOf]; omega
    · have : k = n := by omega
      subst this
      obtain ⟨B, c2, rfl, _, _, _, hr2, _⟩ := own_out hG.owns
      go_wp2_with fail
      go_fit (rof_big B (4 * k) c2 (flatB 4 (l.take k)) wr (by rw [flatB_length, List.length_take, Hn.out]; omega) (by omega) hr2)
      rintro x w3 ⟨rfl, rfl⟩
      go_wp2
      go_ret
      exact ⟨by rw [List.take_of_length_le (by rw [Hn.out]; exact Nat.le_refl _)]; rfl, hG.all⟩
end Go.Proofs.YtcpnobhdogpfiaaDoor
