/- frame.Pad, plinthref03.Pad, the law FramePads. -/
import Derived.Test.YtaenoonadodbnaaDoorF03c
import Derived.Deep.RegionHeldLaw
namespace Go.Proofs.YtaenoonadodbnaaDoor
open Go.RowKit Go.Px
set_option linter.unusedVariables false

def padN (m n : Nat) : Nat := (m + n - 1) / n * n
theorem padN_le {m n : Nat} (hn : 0 < n) : m ≤ padN m n ∧ padN m n < m + n := by
  unfold padN
  have h1 := Nat.div_add_mod (m + n - 1) n
  have h2 := Nat.mod_lt (m + n - 1) hn
  rw [Nat.mul_comm] at h1
  omega
theorem padN_mod {m n : Nat} : padN m n % n = 0 := by unfold padN; exact Nat.mul_mod_left _ _
theorem pad_not {m n j : Nat} (hn : 0 < n) (h : m ≤ j) (hj : j < padN m n) : j % n ≠ 0 := by
  intro h0
  have h1 := padN_le (m := m) hn
  have h2 := padN_mod (m := m) (n := n)
  obtain ⟨a, ha⟩ := Nat.dvd_of_mod_eq_zero h0
  obtain ⟨b, hb⟩ := Nat.dvd_of_mod_eq_zero h2
  rw [hb] at h1 hj
  rw [ha] at hj h
  have : a < b := Nat.lt_of_mul_lt_mul_left hj
  have h3 : n * (a + 1) ≤ n * b := Nat.mul_le_mul_left n this
  rw [Nat.mul_add] at h3
  omega
def padB (bs : List UInt8) (n : Nat) : List UInt8 := bs ++ List.replicate (padN bs.length n - bs.length) 0

set_option maxHeartbeats 800000 in
theorem fpad_any (A : Option Addr) (m c : Nat) (bs : List UInt8) (n : Nat) (w : World) (hm : bs.length = m) (hm8 : m ≤ 16384) (hmc : m ≤ c) (hr : Rd w A (bys bs)) (hn1 : 1 ≤ n) (hn2 : n ≤ 16384) :
    Calls Tryd.prog 21 #[.slice A m c, .int .i64 n] w fun e w' => ∃ v, e = .returned (.tuple #[v, .int .i64 0]) ∧ w'.ownsRow w.heap.size 5 1 v (padN m n) (bys (padB bs n)) ∧ Below w.heap.size w w' := by
  have hp := padN_le (m := m) (n := n) (by omega)
  obtain ⟨T, hT⟩ : ∃ T, padN m n = T := ⟨_, rfl⟩
  have HB := hide (show padB bs n = bs ++ List.replicate (T - m) 0 by unfold padB; rw [hm, hT])
  rw [hT] at hp
  have hTI : ((m : Int) + (n : Int) - 1) / (n : Int) * (n : Int) = (T : Int) := by
    rw [← hT]; unfold padN
    rw [show (m : Int) + (n : Int) - 1 = ((m + n - 1 : Nat) : Int) by omega]; simp
  have hw : IntKind.i64.wrap (((m : Int) + (n : Int) - 1) / (n : Int) * (n : Int)) = (T : Int) := by rw [hTI]; rw [IntKind.wrap_i64]; omega
  have HT := hide hT
  have Hm := hide hm
  clear hT hm
  go_enter Tryd.func21, Tryd.ntmps21
  go_wp2_with (first | (with_reducible refine stop_append rfl ?_) | (with_reducible refine stop_copy rfl ?_) | (with_reducible refine stop_make rfl ?_))
  refine go_make rfl rfl tBytes rfl rfl (n := T) (m := T) rfl rfl (by omega) (by omega) (by omega) (Nat.le_refl _) ?_
  intro z w1 hz _ hw1 ho1 hg1
  obtain rfl : z = .int .u8 0 := by
    obtain ⟨i, hi1, hi2⟩ := hz
    have h0 : (Tryd.prog.info? 5).map (·.zero) = some (some (.int .u8 0)) := by kernel_rfl
    rw [hi1, Option.map_some, hi2] at h0
    exact Option.some.inj (Option.some.inj h0)
  clear hw1
  rw [show (Value.int .u8 0).cells = #[.int .u8 0] from rfl, Nat.mul_one, toList_madeCells_one, List.take_of_length_le (by simp)] at ho1
  have hb1 : Below w.heap.size w w1 := grown_below (Below.refl _ _) hg1 (Nat.le_refl _) (fun g hg => by cases hg)
  go_wp2_with (first | (with_reducible refine stop_append rfl ?_) | (with_reducible refine stop_copy rfl ?_) | (with_reducible refine stop_make rfl ?_))
  refine go_copy rfl rfl tBytes ho1 rfl (off := 0) (by omega) rfl (by rw [bys_length]; exact Hm.out) (hr.below hb1) (bys_one _) ?_
  intro w2 ho2 hg2
  have hb2 : Below w.heap.size w w2 := hb1.grown hg2 hg1.size (fun g hg => by injection hg with hg; omega)
  go_wp2
  go_ret2
  refine ⟨_, rfl, ?_, hb2⟩
  have hz0 : bys (bs ++ List.replicate (T - m) 0) = List.take 0 (List.replicate T (Value.int .u8 0)) ++ (List.take T (bys bs) ++ List.drop (0 + min m T) (List.replicate T (Value.int .u8 0))) := by
    rw [List.take_zero, List.nil_append, List.take_of_length_le (by rw [bys_length, Hm.out]; omega), List.drop_replicate, show T - (0 + min m T) = T - m by omega, bys_append]
    simp [bys]
  rw [HT.out, HB.out, hz0]
  exact ho2

def lenV : Value → Nat
  | .slice _ n _ => n
  | _ => 0

set_option maxHeartbeats 800000 in
theorem rpad_any (A : Option Addr) (m c : Nat) (bs : List UInt8) (n : Nat) (w : World) (hm : bs.length = m) (hm8 : m ≤ 16384) (hmc : m ≤ c) (hr : Rd w A (bys bs)) (hn1 : 1 ≤ n) (hn2 : n ≤ 16384) :
    Calls Tryd.prog 22 #[.slice A m c, .int .i64 n] w fun e w' => ∃ v, e = .returned (.tuple #[v, .int .i64 0]) ∧ w'.ownsRow w.heap.size 5 1 v (padN m n) (bys (padB bs n)) ∧ Below w.heap.size w w' := by
  have hp := padN_le (m := m) (n := n) (by omega)
  have HB := hide (show padB bs n = bs ++ List.replicate (padN m n - m) 0 by unfold padB; rw [hm])
  have hnot : ∀ j, m ≤ j → j < padN m n → j % n ≠ 0 := fun j h1 h2 => pad_not (by omega) h1 h2
  have hyes := padN_mod (m := m) (n := n)
  obtain ⟨T, hT⟩ : ∃ T, padN m n = T := ⟨_, rfl⟩
  rw [hT] at hp HB hnot hyes ⊢
  have Hnot := hide hnot
  have Hyes := hide hyes
  have Hm := hide hm
  clear hT hm hnot hyes
  go_enter Tryd.func22, Tryd.ntmps22
  go_wp2_with (first | (with_reducible refine stop_append rfl ?_) | (with_reducible refine stop_copy rfl ?_) | (with_reducible refine stop_make rfl ?_))
  refine (Grow.empty w 5 1).append rfl rfl tBytes rfl rfl (by rw [bys_length, Hm.out]; omega) (hr.alloc _) (bys_one _) (by omega) (by omega) ?_
  intro v1 w1 hG1 _
  go_wp2_with fail
  rw [Nat.zero_add, List.nil_append] at hG1
  go_loopw [6] (fun u wr => ∃ l : Nat, m ≤ l ∧ l ≤ T ∧ Grow (w.alloc (.cells #[] 5)) (.slice (some ⟨w.heap.size, 0, none⟩) 0 0) w.heap.size 5 1 wr u l (bys (bs ++ List.replicate (l - m) 0))) (fun u _ => T - lenV u)
  case atStart => exact ⟨m, by omega, by omega, by rw [Nat.sub_self, List.replicate_zero, List.append_nil]; exact hG1⟩
  case round =>
    obtain ⟨l, hl1, hl2, hG⟩ := hrel
    have ho := hG.owns
    obtain ⟨A2, c2, rfl, hl2', hc2, hcm2, hr2, ha2⟩ := own_out ho
    have hnI : (1 : Int) ≤ n := by omega
    by_cases hlt : l < T
    · have hq : ((l : Int) % (n : Int) != 0) = true := by
        have := Hnot.out l hl1 hlt
        have h2 : (l : Int) % (n : Int) = ((l % n : Nat) : Int) := by simp
        rw [h2]; simp; omega
      have HS := hide (show bys (bs ++ List.replicate (l - m) 0) ++ [Value.int .u8 0] = bys (bs ++ List.replicate (l + 1 - m) 0) by
        rw [show l + 1 - m = (l - m) + 1 by omega, List.replicate_succ', ← List.append_assoc, bys_append (bs ++ List.replicate (l - m) 0)]; rfl)
      go_wp2_with (first | (with_reducible refine stop_append rfl ?_) | (with_reducible refine stop_copy rfl ?_) | (with_reducible refine stop_make rfl ?_))
      refine hG.push rfl rfl rfl tBytes rfl rfl rfl (by omega) (by omega) ?_
      intro u2 w2 hG2 _
      rw [HS.out] at hG2
      obtain ⟨A3, c3, rfl, _⟩ := own_out hG2.owns
      go_wp2
      go_roundw
      case rel => exact ⟨l + 1, by omega, by omega, hG2⟩
      case measure => simp [lenV]; omega
    · obtain rfl : l = T := by omega
      have hq : ((l : Int) % (n : Int) != 0) = false := by
        have h2 : (l : Int) % (n : Int) = ((l % n : Nat) : Int) := by simp
        rw [h2, Hyes.out]; rfl
      go_wp2
      go_ret2
      refine ⟨_, rfl, ?_, hG.emptyAll⟩
      rw [HB.out]
      exact ho

theorem fpad_bad (A : Option Addr) (m c : Nat) (n : Int) (w : World) (hn : n < 1 ∨ 16777216 < n) (hi : -9223372036854775808 ≤ n) (hi2 : n ≤ 9223372036854775807) :
    Calls Tryd.prog 21 #[.slice A m c, .int .i64 n] w fun e w' => e = .returned (.tuple #[.slice none 0 0, .int .i64 1]) ∧ w = w' := by
  by_cases h : n < 1
  · go_enter Tryd.func21, Tryd.ntmps21
    go_wp2
    go_ret2
    exact ⟨rfl, rfl⟩
  · have h2 : 16777216 < n := by omega
    go_enter Tryd.func21, Tryd.ntmps21
    go_wp2
    go_ret2
    exact ⟨rfl, rfl⟩
theorem rpad_bad (A : Option Addr) (m c : Nat) (n : Int) (w : World) (hn : n < 1 ∨ 16777216 < n) (hi : -9223372036854775808 ≤ n) (hi2 : n ≤ 9223372036854775807) :
    Calls Tryd.prog 22 #[.slice A m c, .int .i64 n] w fun e w' => e = .returned (.tuple #[.slice none 0 0, .int .i64 1]) ∧ w = w' := by
  by_cases h : n < 1
  · go_enter Tryd.func22, Tryd.ntmps22
    go_wp2
    go_ret2
    exact ⟨rfl, rfl⟩
  · have h2 : 16777216 < n := by omega
    go_enter Tryd.func22, Tryd.ntmps22
    go_wp2
    go_ret2
    exact ⟨rfl, rfl⟩

set_option maxHeartbeats 1600000 in
theorem framePads_walk (A : Option Addr) (m c : Nat) (bs : List UInt8) (n : Int) (w : World) (hm : bs.length = m) (hmc : m ≤ c) (hc : c ≤ 9223372036854775807) (hr : Rd w A (bys bs)) (hi : -9223372036854775808 ≤ n) (hi2 : n ≤ 9223372036854775807) (ht : Tab w) :
    Calls Tryd.prog 6 #[.slice A m c, .int .i64 n] w fun e w' => e = .returned (.bool true) ∧ Below w.heap.size w w' := by
  obtain ⟨hl1, hl2⟩ := lcut_le m
  have Hl := hide (show (bs.take 16384).length = lcut m by rw [lcut_len, hm])
  have hr' := lcut_rd hr
  obtain ⟨q, hq⟩ : ∃ q, lcut m = q := ⟨_, rfl⟩
  rw [hq] at hl1 hl2 Hl
  have Hq := hide hq
  clear hq hm hr
  generalize bs.take 16384 = b at *
  by_cases hbad : n < 1 ∨ 16777216 < n
  · have hno : ¬ (16384 < n ∧ n ≤ 16777216) := by omega
    have e0 : (convert 23 9 (.slice none 0 0)).run Tryd.prog w = .ok (.string (strOf [])) w := convB 0 rfl (by simpa [bys] using (Rd.nil (w := w) (A := none)))
    rcases hbad with h | h
    all_goals
      go_enter Tryd.func6, Tryd.ntmps6
      go_wp2_with fail
      refine (cut_any _ _ _ _ hmc hc).mono ?_
      rw [Hq.out]
      rintro e w0 ⟨rfl, rfl⟩
      go_wp2_with fail
      refine (fpad_bad _ _ _ n _ (by omega) hi hi2).mono ?_
      rintro e w0 ⟨rfl, rfl⟩
      go_wp2_with fail
      refine (rpad_bad _ _ _ n _ (by omega) hi hi2).mono ?_
      rintro e w0 ⟨rfl, rfl⟩
      go_wp2_with fail
      refine (awake03_any _ ht).mono ?_
      rintro e w1 ⟨rfl, hb1⟩
      go_wp2
      go_ret
      exact ⟨rfl, hb1⟩
  · have hgo : ∃ k : Nat, 1 ≤ k ∧ k ≤ 16384 ∧ ((16384 < n ∧ n ≤ 16777216 ∧ k = 16384) ∨ (n ≤ 16384 ∧ n = k)) := by
      by_cases h : 16384 < n
      · exact ⟨16384, by omega, by omega, .inl ⟨h, by omega, rfl⟩⟩
      · exact ⟨n.toNat, by omega, by omega, .inr ⟨by omega, by omega⟩⟩
    obtain ⟨k, hk1, hk2, hk⟩ := hgo
    rcases hk with ⟨h1, h2, rfl⟩ | ⟨h1, rfl⟩
    all_goals
      go_enter Tryd.func6, Tryd.ntmps6
      go_wp2_with fail
      refine (cut_any _ _ _ _ hmc hc).mono ?_
      rw [Hq.out]
      rintro e w0 ⟨rfl, rfl⟩
      go_wp2_with fail
    · refine (fpad_any _ q _ b 16384 _ Hl.out hl2 (by omega) hr' hk1 hk2).mono ?_
      rintro e w1 ⟨v1, rfl, ho1, hb1⟩
      obtain ⟨A1, c1, rfl, hx1, hc1, hcm1, hr1, ha1⟩ := own_out ho1
      go_wp2_with fail
      refine (rpad_any _ q _ b 16384 _ Hl.out hl2 (by omega) (hr'.below hb1) hk1 hk2).mono ?_
      rintro e w2 ⟨v2, rfl, ho2, hb2⟩
      obtain ⟨A2, c2, rfl, hx2, hc2, hcm2, hr2, ha2⟩ := own_out ho2
      have hb02 : Below w.heap.size w w2 := hb1.trans (hb2.mono hb1.size)
      rw [bys_length, Nat.mul_one] at hx1 hx2
      have e1 := convB c1 hx1 (hr1.below hb2)
      have e2 := convB c2 hx2 hr2
      go_wp2_with fail
      refine (awake03_any _ (Rd.below ht hb02)).mono ?_
      rintro e w3 ⟨rfl, hb3⟩
      go_wp2
      go_ret
      exact ⟨rfl, hb02.trans (hb3.mono hb02.size)⟩
    · refine (fpad_any _ q _ b k _ Hl.out hl2 (by omega) hr' hk1 hk2).mono ?_
      rintro e w1 ⟨v1, rfl, ho1, hb1⟩
      obtain ⟨A1, c1, rfl, hx1, hc1, hcm1, hr1, ha1⟩ := own_out ho1
      go_wp2_with fail
      refine (rpad_any _ q _ b k _ Hl.out hl2 (by omega) (hr'.below hb1) hk1 hk2).mono ?_
      rintro e w2 ⟨v2, rfl, ho2, hb2⟩
      obtain ⟨A2, c2, rfl, hx2, hc2, hcm2, hr2, ha2⟩ := own_out ho2
      have hb02 : Below w.heap.size w w2 := hb1.trans (hb2.mono hb1.size)
      rw [bys_length, Nat.mul_one] at hx1 hx2
      have e1 := convB c1 hx1 (hr1.below hb2)
      have e2 := convB c2 hx2 hr2
      go_wp2_with fail
      refine (awake03_any _ (Rd.below ht hb02)).mono ?_
      rintro e w3 ⟨rfl, hb3⟩
      go_wp2
      go_ret
      exact ⟨rfl, hb02.trans (hb3.mono hb02.size)⟩
end Go.Proofs.YtaenoonadodbnaaDoor
