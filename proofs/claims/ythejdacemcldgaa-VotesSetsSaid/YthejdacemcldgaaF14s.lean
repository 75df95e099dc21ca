/- Stage 14: laws 14: awake. -/
import Derived.Test.YthejdacemcldgaaF14r
import Derived.Test.YthejdacemcldgaaF14j
import Derived.Test.YthejdacemcldgaaF14o
namespace Go.Proofs.Ythejdacemcldgaa
set_option maxRecDepth 20000
open Go.RowKit Go.Px
set_option linter.unusedVariables false
theorem ack13 : AckOf ([] ++ [(1, 3)]) [(1, 3)] := ⟨by decide, fun x => by simp, fun p hp => by
  rw [List.mem_singleton] at hp; subst hp; decide +kernel⟩
theorem ack05 : AckOf ([(1, 3)] ++ [(0, 5)]) [(0, 5), (1, 3)] := ⟨by decide, fun x => by simp; omega, fun p hp => by
  simp only [List.mem_cons, List.not_mem_nil, or_false] at hp
  rcases hp with rfl | rfl <;> decide +kernel⟩
theorem cm3 : CmIs [0, 1, 2] [(0, 5), (1, 3)] 3 := by
  have n0 : numA [(0, 5), (1, 3)] 0 = (5, true) := by decide +kernel
  have n1 : numA [(0, 5), (1, 3)] 1 = (3, true) := by decide +kernel
  have n2 : numA [(0, 5), (1, 3)] 2 = (0, false) := by decide +kernel
  refine ⟨by decide, [0, 1, 2], ⟨by decide, fun x => Iff.rfl⟩, fun t ht => ?_⟩
  have h : [0, 1, 2].countP (hasT [(0, 5), (1, 3)] t) = (if t ≤ 5 then 1 else 0) + (if t ≤ 3 then 1 else 0) := by
    simp only [List.countP_cons, List.countP_nil, hasT, n0, n1, n2, Bool.true_and, Bool.false_and, decide_eq_true_eq]
    simp; omega
  rw [h]
  by_cases h3 : t ≤ 3
  · rw [if_pos (by omega), if_pos h3]; simp; exact h3
  · rw [if_neg h3]
    by_cases h5 : t ≤ 5
    · rw [if_pos h5]; simp; omega
    · rw [if_neg h5]; simp; omega
theorem add21 {o : List Int} (h : AddOf [2, 1] 2 o) : o.length = 2 := by
  have : o = [1, 2] := h.uniq ⟨by decide, fun x => by simp; omega⟩
  rw [this]; rfl
set_option maxHeartbeats 1600000 in
theorem awake14_any (w : World) : Calls Try.prog 15 #[] w fun e w' => e = .returned (.bool true) ∧ Below w.heap.size w w' := by
  obtain ⟨g, hg⟩ : ∃ g, w.heap.size = g := ⟨_, rfl⟩
  obtain ⟨w0, hw0⟩ : ∃ w0, (w.alloc (.cells #[.int .i64 0, .int .i64 1, .int .i64 2] 3)).alloc (.cells #[.int .i64 0, .slice (some ⟨g, 0, none⟩) 3 3] 34) = w0 := ⟨_, rfl⟩
  have hM : Rd w0 (some ⟨g, 0, none⟩) (ints [0, 1, 2]) := by rw [← hw0, ← hg]; exact (Rd.newN w (ints [0, 1, 2]) _ (0, 0)).alloc _
  have hG : Blk w0 (g + 1) [.int .i64 0, .slice (some ⟨g, 0, none⟩) 3 3] 34 := by
    rw [← hw0, ← hg]
    have := Blk.new (w.alloc (.cells #[.int .i64 0, .int .i64 1, .int .i64 2] 3)) [.int .i64 0, .slice (some ⟨w.heap.size, 0, none⟩) 3 3] 34
    rwa [World.size_alloc] at this
  have hb0 : Below w.heap.size w w0 := by rw [← hw0]; exact ((Below.refl _ _).alloc (Nat.le_refl _) _).alloc (by simp) _
  have HA1 := hide (mack_any none 0 0 [] 1 3 w0 rfl (by omega) Rd.nil)
  have hz0 := hb0.size
  go_enter Try.func15, Try.ntmps15
  go_wp2_with fail
  go_fit HA1.out
  rintro e w1 ⟨o1, B1, d1, rfl, hr1, ha1, _, hd1, hdm1, hb1⟩
  have e1 := ha1.uniq ack13
  subst e1
  have HA2 := hide (mack_any B1 1 d1 [(1, 3)] 0 5 w1 rfl (by omega) hr1)
  have hb01 := hb0.trans (hb1.mono hb0.size)
  have hG1 := hG.below hb1
  have hM1 := hM.below hb1
  clear ha1 hr1 HA1 hb1 hG hM
  go_wp2_with fail
  go_fit HA2.out
  rintro e w2 ⟨o2, B2, d2, rfl, hr2, ha2, _, hd2, hdm2, hb2⟩
  have e2 := ha2.uniq ack05
  subst e2
  have hb02 := hb01.trans (hb2.mono hb01.size)
  have hG2 := hG1.below hb2
  have hM2 := hM1.below hb2
  have HC := hide (commit_any 0 (some ⟨g, 0, none⟩) 3 3 [0, 1, 2] B2 2 d2 [(0, 5), (1, 3)] w2 rfl (by omega) rfl (by omega) hM2 hr2)
  have k0 := hG2.cell (j := 0) rfl
  have k1 := hG2.cell (j := 1) rfl
  clear ha2 HA2 hb2 hG1 hM1 hb01
  go_wp2_with fail
  go_fit HC.out
  rintro e w3 ⟨b, rfl, hcb, hb3⟩
  have e3 := hcb.uniq cm3
  subst e3
  have hb03 := hb02.trans (hb3.mono hb02.size)
  have hG3 := hG2.below hb3
  have hM3 := hM2.below hb3
  have hr3 := hr2.below hb3
  have hbn : Below w3.heap.size w3 (w3.alloc (.cells #[.int .i64 2, .int .i64 1] 3)) := (Below.refl _ _).alloc (Nat.le_refl _) _
  have hbn3 := hb03.trans (hbn.mono hb03.size)
  have HAD := hide (madd_any (some ⟨w3.heap.size, 0, none⟩) 2 2 [2, 1] 2 _ rfl (by omega) (Rd.newN w3 (ints [2, 1]) 3 (0, 0)))
  have hG4 := hG3.below hbn
  have hM4 := hM3.below hbn
  have hr4 := hr3.below hbn
  clear HC hcb hb3 k0 k1 hG2 hM2 hr2 hb02 hG3 hM3 hr3
  go_wp2_with fail
  go_fit HAD.out
  rintro e w4 ⟨o, A4, d4, rfl, hr5, hao, _, hd4, hdm4, hb4⟩
  have e4 := add21 hao
  rw [e4]
  have hb04 := hbn3.trans (hb4.mono hbn3.size)
  have hG5 := hG4.below hb4
  have hM5 := hM4.below hb4
  have hr6 := hr4.below hb4
  have HBE := mbehind_any 0 (some ⟨g, 0, none⟩) 3 3 [0, 1, 2] 0 4 B2 2 d2 [(0, 5), (1, 3)] w4 rfl (by omega) rfl (by omega) hM5 hr6 (by decide)
  rw [show ((oth [0, 1, 2] 0).filter fun v => !toldB [(0, 5), (1, 3)] 4 v).length = 2 by decide +kernel] at HBE
  have HB := hide HBE
  have k0 := hG5.cell (j := 0) rfl
  have k1 := hG5.cell (j := 1) rfl
  clear HAD hao e4 hb4 hG4 hM4 hr4 hr5 HBE
  go_wp2_with fail
  go_fit HB.out
  rintro e w5 ⟨C, k, rfl, hb5⟩
  go_wp2
  go_ret
  exact ⟨rfl, hb04.trans (hb5.mono hb04.size)⟩
end Go.Proofs.Ythejdacemcldgaa
