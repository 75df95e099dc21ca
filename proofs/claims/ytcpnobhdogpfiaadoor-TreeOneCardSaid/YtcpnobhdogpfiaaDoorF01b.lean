/- Package octets: what its functions answer (bytes). -/
import Derived.Test.YtcpnobhdogpfiaaDoorF01a
import Derived.Test.YtcpnobhdogpfiaaDoorClone
namespace Go.Proofs.YtcpnobhdogpfiaaDoor
set_option maxRecDepth 20000
open Go.RowKit Go.Px
set_option linter.unusedVariables false

def u64s (l : List Nat) : List Value := l.map fun v : Nat => Value.int .u64 (v : Int)
theorem u64s_get {l : List Nat} {k : Nat} (h : k < l.length) : (u64s l)[k]? = some (.int .u64 (l[k] : Int)) := by simp [u64s, List.getElem?_eq_getElem h]
set_option maxHeartbeats 1000000 in
theorem putAll_any (A : Option Addr) (m c : Nat) (bs : List UInt8) (n : Int) (B : Option Addr) (k d : Nat) (l : List Nat) (w : World)
    (hm : bs.length = m) (hm8 : m ≤ 549755813888) (hA : Rd w A (bys bs)) (hk : l.length = k) (hk8 : k ≤ 34359738368) (hB : Rd w B (u64s l)) (hl : ∀ v ∈ l, v < 18446744073709551616) :
    Calls Tryd.prog 65 #[.slice A m c, .int .i64 n, .slice B k d] w fun e w' => ∃ v, e = .returned (.tuple #[v, .int .i64 (allE n l)]) ∧ w'.ownsRow w.heap.size 5 1 v (putAllB bs l n).length (bys (putAllB bs l n)) ∧ Below w.heap.size w w' := by
  have Hm := hide hm
  have Hk := hide hk
  clear hm hk
  go_enter Tryd.func65, Tryd.ntmps65
  go_wp2_with fail
  go_loop [16] (fun i => ∃ j : Nat, j ≤ k ∧ i = .int .i64 j ∧ Hid (allE n (l.take j) = 0)) (fun i => k - (intOf i).toNat)
  case atStart => exact ⟨0, Nat.zero_le _, rfl, hide (by simp [allE])⟩
  case round =>
    obtain ⟨j, hj, rfl, hz⟩ := hrel
    by_cases hlt : j < k
    · have hjl : j < l.length := by rw [Hk.out]; exact hlt
      obtain ⟨b, rfl, hcell⟩ := hB j _ (u64s_get hjl)
      have hlv := hl _ (List.getElem_mem hjl)
      have Hat := hide (allE_at n l j hjl hz.out)
      have Hsn := hide (allE_snoc n l j hjl hz.out)
      rcases fitsE_cases l[j] n with hf | hf | hf
      · have Hf := hide hf
        clear hf
        go_wp2_with (go_at_call 77; refine (fits_any _ _ _ hlv).mono ?_; rw [Hf.out]; rintro e w' ⟨rfl, rfl⟩)
        go_round
        case rel => exact ⟨j + 1, by omega, by go_num, hide (Hsn.out Hf.out)⟩
        case measure => simp [intOf]; omega
      · have Hf := hide hf
        clear hf
        go_wp2_with (go_at_call 77; refine (fits_any _ _ _ hlv).mono ?_; rw [Hf.out]; rintro e w' ⟨rfl, rfl⟩)
        go_ret2
        have e1 := (Hat.out (by rw [Hf.out]; decide)).trans Hf.out
        rw [e1, show putAllB bs l n = [] by unfold putAllB; rw [if_neg (by rw [e1]; decide)]]
        exact ⟨_, rfl, World.ownsRow_nil _ _ _ _, Below.refl _ _⟩
      · have Hf := hide hf
        clear hf
        go_wp2_with (go_at_call 77; refine (fits_any _ _ _ hlv).mono ?_; rw [Hf.out]; rintro e w' ⟨rfl, rfl⟩)
        go_ret2
        have e1 := (Hat.out (by rw [Hf.out]; decide)).trans Hf.out
        rw [e1, show putAllB bs l n = [] by unfold putAllB; rw [if_neg (by rw [e1]; decide)]]
        exact ⟨_, rfl, World.ownsRow_nil _ _ _ _, Below.refl _ _⟩
    · have hjk : j = k := by omega
      subst hjk
      have hz0 := hide (show allE n l = 0 by have := hz.out; rwa [List.take_of_length_le (by rw [Hk.out]; exact Nat.le_refl _)] at this)
      clear hz
      by_cases hk0 : j = 0
      · subst hk0
        have hl0 : l = [] := List.eq_nil_of_length_eq_zero Hk.out
        subst hl0
        go_wp2_with (go_at_call 78; refine (clone_any _ _ _ bs _ Hm.out (by omega) hA).mono ?_; rintro e w' ⟨v, rfl, ho, hb⟩)
        go_ret2
        refine ⟨_, rfl, ?_, hb⟩
        simpa [putAllB, allE, flatB, Hm.out] using ho
      · have hl0 : 0 < l.length := by rw [Hk.out]; omega
        have hf0 := fitsE_zero (allE_mem hz0.out _ (List.getElem_mem hl0))
        obtain ⟨q, rfl⟩ : ∃ q : Nat, n = q := ⟨n.toNat, by omega⟩
        have h1 := hf0.1
        have h2 := hf0.2.1
        clear hf0
        have hqj : 0 ≤ (q : Int) * j ∧ (q : Int) * j ≤ 274877906944 := by
          refine ⟨Int.mul_nonneg (by omega) (by omega), ?_⟩
          have := Int.mul_le_mul_of_nonneg_right h2 (show (0 : Int) ≤ j by omega)
          omega
        obtain ⟨hq0, hq1⟩ := hqj
        have Hqn := hide (show ((q * j : Nat) : Int) = (q : Int) * j from Int.natCast_mul _ _)
        go_wp2_with (first | (with_reducible refine stop_append rfl ?_) | (with_reducible refine stop_copy rfl ?_) | (with_reducible refine stop_make rfl ?_))
        refine go_make rfl rfl tBytes rfl rfl (n := m) (m := m + q * j) rfl (by have := Hqn.out; omega) (by omega) (by have := Hqn.out; omega) (by have := Hqn.out; omega) (Nat.le_refl _) ?_
        intro z w1 hz1 hz2 hw1 ho1 hg1
        have Hw1 := hide hw1
        clear hw1
        go_wp2_with (first | (with_reducible refine stop_append rfl ?_) | (with_reducible refine stop_copy rfl ?_) | (with_reducible refine stop_make rfl ?_))
        refine go_copy rfl rfl tBytes ho1 rfl (off := 0) (by omega) rfl (by rw [bys_length]; exact Hm.out) (hA.below (grown_below (Below.refl _ _) hg1 (Nat.le_refl _) (fun g hg => by cases hg))) (bys_one _) ?_
        intro w2 ho2 hg2
        simp only [List.take_zero, List.nil_append, Nat.min_self, Nat.zero_add] at ho2
        rw [List.take_of_length_le (by rw [bys_length, Hm.out]; exact Nat.le_refl _), List.drop_eq_nil_of_le (by rw [List.length_take]; omega), List.append_nil] at ho2
        go_wp2
        go_loopw [11, 47] (fun u i wr => ∃ j' : Nat, j' ≤ j ∧ i = .int .i64 j' ∧ Grow w2 (.slice (some ⟨w.heap.size, 0, none⟩) m (m + q * j)) w.heap.size 5 1 wr u (m + j' * q) (bys (bs ++ flatB q (l.take j')))) (fun _ i _ => j - (intOf i).toNat)
        case atStart => exact ⟨0, Nat.zero_le _, rfl, by simpa [flatB] using Grow.start ho2 (Nat.le_trans hg1.size hg2.size)⟩
        case round =>
          obtain ⟨j', hj', rfl, hG⟩ := hrel
          have hb1 : Below w.heap.size w w1 := grown_below (Below.refl _ _) hg1 (Nat.le_refl _) (fun g hg => by cases hg)
          have hb2 : Below w.heap.size w w2 := hb1.grown hg2 hg1.size (fun g hg => by injection hg with hg; omega)
          have hb3 : Below w.heap.size w wr := hG.allOf hb2 (Nat.le_trans hg1.size hg2.size) (fun g hg => by simp [Value.ownBlock] at hg; omega)
          by_cases hlt' : j' < j
          · have hjl : j' < l.length := by rw [Hk.out]; exact hlt'
            obtain ⟨b, rfl, hcell⟩ := (hB.below hb3) j' _ (u64s_get hjl)
            have hlv := hl _ (List.getElem_mem hjl)
            have hmj : j' * q ≤ 274877906944 := by
              have : j' * q ≤ j' * 8 := Nat.mul_le_mul_left _ (by omega)
              omega
            go_wp2_with fail
            refine (appendNumber_any w.heap.size _ (m + j' * q) _ l[j'] q _ hG.owns hlv (by omega) (by omega) hG.le).mono ?_
            rintro e w3 ⟨v3, rfl, hG3⟩
            go_wp2
            go_roundw
            case rel =>
              refine ⟨j' + 1, by omega, by go_num, ?_⟩
              have := hG.trans hG3
              rw [← bys_append, List.append_assoc, ← flatB_snoc q l j' hjl] at this
              rw [Nat.succ_mul, ← Nat.add_assoc]
              exact this
            case measure => simp [intOf]; omega
          · have : j' = j := by omega
            subst this
            go_wp2
            go_ret2
            rw [hz0.out]
            refine ⟨_, rfl, ?_, hb3⟩
            have he : putAllB bs l (q : Int) = bs ++ flatB q l := by unfold putAllB; rw [if_pos hz0.out, Int.toNat_natCast]
            have ho := hG.owns
            rw [List.take_of_length_le (by rw [Hk.out]; exact Nat.le_refl _)] at ho
            rw [he, List.length_append, Hm.out, flatB_length, Hk.out]
            exact ho
end Go.Proofs.YtcpnobhdogpfiaaDoor
