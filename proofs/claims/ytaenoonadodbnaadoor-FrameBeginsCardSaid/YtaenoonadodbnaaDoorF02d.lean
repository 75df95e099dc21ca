/- The document's Open. -/
import Derived.Test.YtaenoonadodbnaaDoorF02c
namespace Go.Proofs.YtaenoonadodbnaaDoor
open Go.RowKit Go.Px
set_option linter.unusedVariables false

theorem seal_eq (bs : List UInt8) (h4 : 4 ≤ bs.length) : (bs.take (bs.length - 4) ++ leB 4 (moreN 0 (bs.take (bs.length - 4))) = bs) ↔ numN (bs.drop (bs.length - 4)) = moreN 0 (bs.take (bs.length - 4)) := by
  have hl : (bs.drop (bs.length - 4)).length = 4 := by rw [List.length_drop]; omega
  have hb := List.take_append_drop (bs.length - 4) bs
  constructor
  · intro h
    have : leB 4 (moreN 0 (bs.take (bs.length - 4))) = bs.drop (bs.length - 4) := by
      conv at h => rhs; rw [← hb]
      exact List.append_cancel_left h
    rw [← this]; exact numN_leB 4 _ (moreN_lt _ _)
  · intro h
    have h2 := leB_numN (bs.drop (bs.length - 4))
    rw [hl] at h2
    rw [← h, h2]; exact hb

set_option maxHeartbeats 800000 in
theorem ropen_any (A : Option Addr) (m c : Nat) (bs : List UInt8) (w : World) (hm : bs.length = m) (hm8 : m ≤ 549755813888) (hmc : m ≤ c) (hc : c ≤ 9223372036854775807) (hr : Rd w A (bys bs)) :
    Calls Tryd.prog 34 #[.slice A m c] w fun e w' => ∃ v, e = .returned (.tuple #[v, .int .i64 (openE bs)]) ∧ w'.ownsRow w.heap.size 5 1 v (openB bs).length (bys (openB bs)) ∧ Below w.heap.size w w' := by
  have Hm := hide hm
  clear hm
  by_cases h4 : m < 4
  · have HE := hide (show openE bs = 10 by unfold openE; rw [if_pos (by rw [Hm.out]; exact h4)])
    have HB := hide (show openB bs = [] by unfold openB; rw [if_neg (by rw [HE.out]; decide)])
    go_enter Tryd.func34, Tryd.ntmps34
    go_wp2
    go_ret2
    rw [HE.out, HB.out]
    exact ⟨_, rfl, World.ownsRow_nil _ _ _ _, Below.refl _ _⟩
  · obtain ⟨n, hn⟩ : ∃ n : Nat, m = n + 4 := ⟨m - 4, by omega⟩
    subst hn
    have hrp : Rd w A (bys (bs.take n)) := by rw [bys_take]; exact hr.take n
    have Hp := hide (show (bs.take n).length = n by rw [List.length_take, Hm.out]; omega)
    have HE := hide (show openE bs = if bs.take n ++ leB 4 (moreN 0 (bs.take n)) = bs then 0 else 31 by
      have := seal_eq bs (by rw [Hm.out]; omega)
      rw [Hm.out, show n + 4 - 4 = n by omega] at this
      unfold openE; rw [if_neg (by rw [Hm.out]; exact h4), Hm.out, show n + 4 - 4 = n by omega]
      by_cases hx : numN (bs.drop n) = moreN 0 (bs.take n)
      · rw [if_pos hx, if_pos (this.2 hx)]
      · rw [if_neg hx, if_neg (fun hh => hx (this.1 hh))])
    have HB := hide (show openB bs = if openE bs = 0 then bs.take n else [] by unfold openB; rw [Hm.out]; rfl)
    generalize bs.take n = pre at *
    have k0 : (0 : Int) ≤ (n : Int) := Int.natCast_nonneg _
    have k1 : (n : Int) ≤ (n : Int) + 4 := by omega
    have k2 : (n : Int) ≤ (c : Int) := by omega
    obtain ⟨sp, hsp⟩ : ∃ x, pre ++ leB 4 (moreN 0 pre) = x := ⟨_, rfl⟩
    rw [hsp] at HE
    have Hsp := hide hsp
    clear hsp
    by_cases hx : sp = bs
    rotate_left
    have q1 : (sp == bs) = false := by simpa using hx
    rotate_left
    have q1 : (sp == bs) = true := by simpa using hx
    all_goals have HX := hide hx
    all_goals clear hx
    all_goals
      go_enter Tryd.func34, Tryd.ntmps34
      go_wp2_with (first | (with_reducible refine stop_append rfl ?_) | (with_reducible refine stop_copy rfl ?_) | (with_reducible refine stop_make rfl ?_))
      refine (Grow.empty w _ _).append rfl rfl tBytes rfl rfl (by rw [bys_length, Hp.out]; omega) (hrp.alloc _) (bys_one _) (by omega) (by omega) ?_
      intro v1 w1 hG1 _
      have hb1 := hG1.emptyAll
      have ho1 := hG1.owns
      rw [Nat.zero_add, List.nil_append] at ho1
      obtain ⟨A1, c1, rfl, _, hc1, hcm1, hr1, ha1⟩ := own_out ho1
      clear hG1
      have hconv : ∀ W, Below w.heap.size w W → (convert 23 9 (.slice A (n + 4) c)).run Tryd.prog W = .ok (.string (strOf bs)) W := fun W hb => convB c Hm.out (hr.below hb)
      have hcv1 := hconv _ hb1.drew
      have Hcv := hide hconv
      clear hconv
      go_wp2
      go_region_with (first | (go_at_call 28; refine (rseal_any _ _ _ pre _ Hp.out (by omega) hr1.drew).mono ?_; rintro e w4 ⟨v4, rfl, ho4, hb4⟩; obtain ⟨A4, c4, rfl, _, hc4, hcm4, hr4, ha4⟩ := own_out ho4; have hcv2 := Hcv.out _ ((hb1.drew).trans (hb4.mono (by have := hb1.size; simpa using this))); have hcv4 := convB c4 (by rw [List.length_append, leB_length, Hp.out]) hr4; rw [Hsp.out] at hcv4))
      all_goals
        go_wp2
        go_ret2
        have hbw := (hb1.drew).trans (hb4.mono (by have := hb1.size; simpa using this))
        first
          | (have HE2 := hide (show openE bs = 0 by rw [HE.out, if_pos HX.out])
             rw [show openB bs = pre by rw [HB.out, if_pos HE2.out], HE2.out, Hp.out]
             exact ⟨_, rfl, own_below (own_below ho1 (Below.refl _ _).drew) hb4, hbw⟩)
          | (have HE2 := hide (show openE bs = 31 by rw [HE.out, if_neg HX.out])
             rw [show openB bs = [] by rw [HB.out, if_neg (by rw [HE2.out]; decide)], HE2.out]
             exact ⟨_, rfl, World.ownsRow_nil _ _ _ _, hbw⟩)
end Go.Proofs.YtaenoonadodbnaaDoor
