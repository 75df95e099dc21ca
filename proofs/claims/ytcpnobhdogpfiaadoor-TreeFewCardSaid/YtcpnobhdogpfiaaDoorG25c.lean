/- Two rows of places; the places below some. -/
import Derived.Test.YtcpnobhdogpfiaaDoorF25g
import Derived.Test.YtcpnobhdogpfiaaDoorM25c
import Derived.Deep.DeepFit
namespace Go.Proofs.YtcpnobhdogpfiaaDoor
set_option maxRecDepth 20000
open Go.RowKit Go.Px
set_option linter.unusedVariables false
set_option maxHeartbeats 1600000 in
theorem sameplaces_eq (A : Option Addr) (n c : Nat) (B : Option Addr) (d : Nat) (l : List Nat) (w : World) (hn : l.length = n) (h63 : n ≤ 9223372036854775807) (hr : Rd w A (nis l)) (hs : Rd w B (nis l)) :
    Calls Tryd.prog 40 #[.slice A n c, .slice B n d] w fun e w' => e = .returned (.bool true) ∧ Below w.heap.size w w' := by
  have Hn := hide hn
  clear hn
  go_enter Tryd.func40, Tryd.ntmps40
  go_wp2
  go_loopw [5] (fun i wr => ∃ k : Nat, k ≤ n ∧ i = .int .i64 k ∧ Below w.heap.size w wr) (fun i _ => n - (intOf i).toNat)
  case atStart => exact ⟨0, by omega, rfl, Below.refl _ _⟩
  case round =>
    obtain ⟨k, hk, rfl, hbw⟩ := hrel
    by_cases hlt : k < n
    · have hkl : k < l.length := by rw [Hn.out]; exact hlt
      obtain ⟨a, ha, hc⟩ := hr.below hbw k _ (nis_get hkl)
      obtain ⟨b, hb, hd⟩ := hs.below hbw k _ (nis_get hkl)
      obtain ⟨x, hx⟩ : ∃ x, l[k] = x := ⟨_, rfl⟩
      rw [hx] at hc hd
      subst ha hb
      clear hx hkl
      go_wp2
      go_quiet (fail)
      all_goals
        go_wp2
        go_roundw
        case rel => exact ⟨k + 1, by omega, by go_num, below_drewN hbw _⟩
        case measure => simp [intOf]; omega
    · go_wp2
      go_ret
      exact ⟨rfl, hbw⟩
set_option maxHeartbeats 3200000 in
theorem below_any (A : Option Addr) (n c : Nat) (pl : List Nat) (N : Nat) (w : World) (hn : pl.length = n) (h8 : n ≤ 4096) (hN : N ≤ 4096) (hp : ∀ x ∈ pl, x < 4294967296) (hr : Rd w A (nis pl)) :
    Calls Tryd.prog 59 #[.slice A n c, .int .i64 N] w fun e w' => ∃ v, e = .returned v ∧ w'.ownsRow w.heap.size 3 1 v (belowD pl N).length (nis (belowD pl N)) ∧ Below w.heap.size w w' := by
  have Hn := hide hn
  clear hn
  go_enter Tryd.func59, Tryd.ntmps59
  go_wp2
  go_loopw [5, 12] (fun u i W => ∃ k : Nat, k ≤ n ∧ i = .int .i64 (k : Int) ∧ Grow w (.slice none 0 0) w.heap.size 3 1 W u (belowD (pl.take k) N).length (nis (belowD (pl.take k) N))) (fun _ i _ => n - (intOf i).toNat)
  case atStart => exact ⟨0, by omega, rfl, Grow.nil _ _ _⟩
  case round =>
    obtain ⟨k, hk, rfl, hG⟩ := hrel
    by_cases hlt : k < n
    · have hkl : k < pl.length := by rw [Hn.out]; exact hlt
      obtain ⟨a, rfl, hc⟩ := (hr.below hG.all) k _ (nis_get hkl)
      have HB := hide (belowD_snoc pl N k hkl)
      have hlo := belowD_len (pl.take k) N
      rw [List.length_take, Nat.min_eq_left (by omega)] at hlo
      obtain ⟨x, hx⟩ : ∃ x, pl[k] = x := ⟨_, rfl⟩
      have hx4 : x < 4294967296 := by rw [← hx]; exact hp _ (List.getElem_mem hkl)
      rw [hx] at hc HB
      obtain ⟨L, hL⟩ : ∃ L, belowD (pl.take k) N = L := ⟨_, rfl⟩
      rw [hL] at hG HB hlo
      clear hx hkl hL
      go_wp2_with fail
      go_loopw [5, 16] (fun u i W => ∃ q : Nat, q ≤ 4 ∧ i = .int .i64 (q : Int) ∧ Grow w (.slice none 0 0) w.heap.size 3 1 W u (L ++ belD x N q).length (nis (L ++ belD x N q))) (fun _ i _ => 4 - (intOf i).toNat)
      case atStart => exact ⟨0, by omega, rfl, by simpa [belD] using hG⟩
      case round =>
        obtain ⟨q, hq, rfl, hG2⟩ := hrel
        have hql := belD_len x N q
        by_cases hq4 : q < 4
        · have HS := hide (belD_snoc x N q)
          have hlen : (L ++ belD x N q).length ≤ 16388 := by rw [List.length_append]; omega
          by_cases hat : 4 * x + q < N
          · rw [if_pos hat] at HS
            have HV := hide (show (x : Int) * 4 + (q : Int) = ((4 * x + q : Nat) : Int) by omega)
            have hat2 : (x : Int) * 4 + (q : Int) < (N : Int) := by omega
            go_wp2_with (first | (with_reducible refine stop_append rfl ?_) | (with_reducible refine stop_copy rfl ?_) | (with_reducible refine stop_make rfl ?_))
            refine hG2.push rfl rfl rfl tInts rfl rfl rfl (by omega) (by omega) ?_
            intro u' W4 hG4 _
            go_wp2
            go_roundw
            case rel =>
              refine ⟨q + 1, by omega, by go_num, ?_⟩
              rw [HS.out, ← List.append_assoc, nis_append _ [4 * x + q], show (L ++ belD x N q ++ [4 * x + q]).length = (L ++ belD x N q).length + 1 from by simp only [List.length_append, List.length_singleton]]
              rw [HV.out] at hG4
              exact hG4
            case measure => simp [intOf]; omega
          · rw [if_neg hat, List.append_nil] at HS
            have hat2 : ¬ (x : Int) * 4 + (q : Int) < (N : Int) := by omega
            go_wp2
            go_roundw
            case rel => exact ⟨q + 1, by omega, by go_num, by rw [HS.out]; exact hG2⟩
            case measure => simp [intOf]; omega
        · have hq : q = 4 := by omega
          subst hq
          go_wp2
          go_roundw
          case rel => exact ⟨k + 1, by omega, by go_num, by rw [HB.out]; exact hG2⟩
          case measure => simp [intOf]; omega
    · have hkn : k = n := by omega
      subst hkn
      rw [List.take_of_length_le (by rw [Hn.out]; exact Nat.le_refl _)] at hG
      go_wp2
      go_ret
      exact ⟨_, rfl, hG.owns, hG.all⟩
end Go.Proofs.YtcpnobhdogpfiaaDoor
