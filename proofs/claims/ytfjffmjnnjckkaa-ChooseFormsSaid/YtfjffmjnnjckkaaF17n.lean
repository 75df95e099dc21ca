/- Stage 17: awake (written by gen_17j.py). -/
import Derived.Test.YtfjffmjnnjckkaaF17m
import Derived.Test.YtfjffmjnnjckkaaF17h
import Derived.Deep.CutRange
namespace Go.Proofs.Ytfjffmjnnjckkaa
set_option maxRecDepth 20000
open Go.RowKit Go.Px Go.Maps
set_option linter.unusedVariables false
set_option linter.unusedSimpArgs false
set_option maxRecDepth 20000 in
set_option maxHeartbeats 25600000 in
theorem awake17_any (w : World) : Calls Try.prog 7 #[] w fun e w' => e = .returned (.bool true) ∧ Below w.heap.size w w' := by
  go_enter Try.func7, Try.ntmps7
  go_wp2_with fail
  go_fit (flush17_any 1 0 w)
  rintro xx w1 ⟨rfl, hbw1⟩
  go_wp2_with fail
  go_fit (flush17_any 2 0 w1)
  rintro xx w2 ⟨rfl, hbw2⟩
  obtain ⟨g1, hg1⟩ : ∃ g, w2.heap.size = g := ⟨_, rfl⟩
  obtain ⟨v1, hv1⟩ : ∃ x, w2.alloc (.cells #[.int .u8 1, .int .i64 1, .int .i64 0, .int .i64 1, .int .i64 1, .int .u8 4, .int .i64 0, .int .i64 0, .slice none 0 0, .slice none 0 0, .int .i64 0, .slice none 0 0, .int .u8 1, .int .i64 2, .int .i64 0, .int .i64 1, .int .i64 2, .int .u8 4, .int .i64 0, .int .i64 0, .slice none 0 0, .slice none 0 0, .int .i64 0, .slice none 0 0] 58) = x := ⟨_, rfl⟩
  have hes1 := row_new (t := tyEntry) (w := w2) 58 ((Ty.Rows.one (fl17_is (Q := fun _ => True) (num := 1) (view := 0) (by omega) (by omega) (by omega) (by omega))).append (Ty.Rows.one (fl17_is (Q := fun _ => True) (num := 2) (view := 0) (by omega) (by omega) (by omega) (by omega)))) (n := 2) rfl (by omega)
  have hbv1 : Below w2.heap.size w2 v1 := by rw [← hv1]; exact (Below.refl _ _).alloc (Nat.le_refl _) _
  try simp only [List.cons_append, List.nil_append, List.append_eq] at hes1
  rw [hg1] at hes1
  have hes1 : (Ty.row tyEntry).Is v1 (fun _ => True) [fl17 1 0, fl17 2 0] [.slice (some ⟨g1, 0, none⟩) 2 2] := by rw [← hv1]; exact hes1
  try rw [hv1]
  try rw [hg1]
  go_wp2_with fail
  go_fit (tail17_any 0 2 (some ⟨g1, 0, none⟩) 2 2 (w := v1) (by omega) (by omega) (by omega) (by omega) hes1)
  rintro xx w3 ⟨G1, rfl, hTG1, hbw3⟩
  go_wp2_with fail
  go_fit (flush17_any 1 0 w3)
  rintro xx w4 ⟨rfl, hbw4⟩
  obtain ⟨g2, hg2⟩ : ∃ g, w4.heap.size = g := ⟨_, rfl⟩
  obtain ⟨v2, hv2⟩ : ∃ x, w4.alloc (.cells #[.int .u8 1, .int .i64 1, .int .i64 0, .int .i64 1, .int .i64 1, .int .u8 4, .int .i64 0, .int .i64 0, .slice none 0 0, .slice none 0 0, .int .i64 0, .slice none 0 0] 58) = x := ⟨_, rfl⟩
  have hes2 := row_new (t := tyEntry) (w := w4) 58 (Ty.Rows.one (fl17_is (Q := fun _ => True) (num := 1) (view := 0) (by omega) (by omega) (by omega) (by omega))) (n := 1) rfl (by omega)
  have hbv2 : Below w4.heap.size w4 v2 := by rw [← hv2]; exact (Below.refl _ _).alloc (Nat.le_refl _) _
  try simp only [List.cons_append, List.nil_append, List.append_eq] at hes2
  rw [hg2] at hes2
  have hes2 : (Ty.row tyEntry).Is v2 (fun _ => True) [fl17 1 0] [.slice (some ⟨g2, 0, none⟩) 1 1] := by rw [← hv2]; exact hes2
  go_wp2_with fail
  go_fit (tail17_any 1 3 (some ⟨g2, 0, none⟩) 1 1 (w := v2) (by omega) (by omega) (by omega) (by omega) hes2)
  rintro xx w5 ⟨G2, rfl, hTG2, hbw5⟩
  have hTa := hTG1.below (hbw4.trans ((hbv2.trans (hbw5.mono hbv2.size)).mono hbw4.size))
  obtain ⟨g3, hg3⟩ : ∃ g, w5.heap.size = g := ⟨_, rfl⟩
  obtain ⟨v3, hv3⟩ : ∃ x, w5.alloc (.cells #[.int .i64 0, .int .i64 2, .int .i64 0, .int .i64 0, .int .i64 6, .int .i64 2, .slice none 0 0, .slice none 0 0, .int .i64 0, .slice G1 3 3, .slice (some ⟨g1, 0, none⟩) 2 2, .int .i64 1, .int .i64 3, .int .i64 0, .int .i64 0, .int .i64 6, .int .i64 2, .slice none 0 0, .slice none 0 0, .int .i64 0, .slice G2 3 3, .slice (some ⟨g2, 0, none⟩) 1 1] 33) = x := ⟨_, rfl⟩
  have hes3 := row_new (t := tyTail) (w := w5) 33 ((Ty.Rows.one hTa).append (Ty.Rows.one hTG2)) (n := 2) rfl (by omega)
  have hbv3 : Below w5.heap.size w5 v3 := by rw [← hv3]; exact (Below.refl _ _).alloc (Nat.le_refl _) _
  try simp only [List.cons_append, List.nil_append, List.append_eq] at hes3
  rw [hg3] at hes3
  have hes3 : (Ty.row tyTail).Is v3 (fun _ => True) [(0, 2, 0, st17, [fl17 1 0, fl17 2 0]), (1, 3, 0, st17, [fl17 1 0])] [.slice (some ⟨g3, 0, none⟩) 2 2] := by rw [← hv3]; exact hes3
  obtain ⟨rs, r1, r2, r3, r4, r5, r6⟩ := row_out hes3
  have hbest := best_any (c := 2) (rowAt_of (t := tyTail) (by decide) r1 r4 r6) (Nat.le_refl _) (by omega)
  rw [show bestE [(0, 2, 0, st17, [fl17 1 0, fl17 2 0]), (1, 3, 0, st17, [fl17 1 0])] = (1, 0) by decide +kernel] at hbest
  have HBest := hide hbest
  clear hbest r4 r6
  go_wp2_with fail
  go_fit HBest.out
  rintro xx w6 ⟨rfl, hbw6⟩
  go_wp2_with fail
  go_fit (tail17_any 0 1 none 0 0 (w := w6) (by omega) (by omega) (by omega) (by omega) (row_mk (t := tyEntry) (xs := []) (w := w6) (Q := fun _ => True) rfl (by omega) (by omega) Rd.nil (fun _ _ _ => trivial) Ty.Rows.nil))
  rintro xx w7 ⟨G3, rfl, hTG3, hbw7⟩
  have hck := mtail_any hTG3
  rw [show tailE (0, 1, 0, st17, []) = 0 by decide +kernel] at hck
  have HCk := hide hck
  clear hck
  go_wp2_with fail
  go_fit HCk.out
  rintro xx w8 ⟨rfl, hbw8⟩
  go_wp2_with fail
  go_fit (flush17_any 1 0 w8)
  rintro xx w9 ⟨rfl, hbw9⟩
  obtain ⟨g4, hg4⟩ : ∃ g, w9.heap.size = g := ⟨_, rfl⟩
  obtain ⟨v4, hv4⟩ : ∃ x, w9.alloc (.cells #[.int .u8 1, .int .i64 1, .int .i64 0, .int .i64 1, .int .i64 1, .int .u8 4, .int .i64 0, .int .i64 0, .slice none 0 0, .slice none 0 0, .int .i64 0, .slice none 0 0] 58) = x := ⟨_, rfl⟩
  have hes4 := row_new (t := tyEntry) (w := w9) 58 (Ty.Rows.one (fl17_is (Q := fun _ => True) (num := 1) (view := 0) (by omega) (by omega) (by omega) (by omega))) (n := 1) rfl (by omega)
  have hbv4 : Below w9.heap.size w9 v4 := by rw [← hv4]; exact (Below.refl _ _).alloc (Nat.le_refl _) _
  try simp only [List.cons_append, List.nil_append, List.append_eq] at hes4
  rw [hg4] at hes4
  have hes4 : (Ty.row tyEntry).Is v4 (fun _ => True) [fl17 1 0] [.slice (some ⟨g4, 0, none⟩) 1 1] := by rw [← hv4]; exact hes4
  go_wp2_with fail
  go_fit (tail17_any 0 2 (some ⟨g4, 0, none⟩) 1 1 (w := v4) (by omega) (by omega) (by omega) (by omega) hes4)
  rintro xx w10 ⟨G4, rfl, hTG4, hbw10⟩
  go_wp2_with fail
  go_fit (tail17_any 0 2 none 0 0 (w := w10) (by omega) (by omega) (by omega) (by omega) (row_mk (t := tyEntry) (xs := []) (w := w10) (Q := fun _ => True) rfl (by omega) (by omega) Rd.nil (fun _ _ _ => trivial) Ty.Rows.nil))
  rintro xx w11 ⟨G5, rfl, hTG5, hbw11⟩
  have hbt := mbetter_any (hTG4.below hbw11) hTG5
  rw [show betB (0, 2, 0, st17, [fl17 1 0]) (0, 2, 0, st17, []) = true by decide +kernel] at hbt
  have HBt := hide hbt
  clear hbt
  go_wp2_with fail
  go_fit HBt.out
  rintro xx w12 ⟨rfl, hbw12⟩
  go_wp2
  go_ret
  have a1 := hbw1
  have a2 := a1.trans (hbw2.mono a1.size)
  have a3 := a2.trans (hbv1.mono a2.size)
  have a4 := a3.trans (hbw3.mono a3.size)
  have a5 := a4.trans (hbw4.mono a4.size)
  have a6 := a5.trans (hbv2.mono a5.size)
  have a7 := a6.trans (hbw5.mono a6.size)
  have a8 := a7.trans (hbv3.mono a7.size)
  have a9 := a8.trans (hbw6.mono a8.size)
  have a10 := a9.trans (hbw7.mono a9.size)
  have a11 := a10.trans (hbw8.mono a10.size)
  have a12 := a11.trans (hbw9.mono a11.size)
  have a13 := a12.trans (hbv4.mono a12.size)
  have a14 := a13.trans (hbw10.mono a13.size)
  have a15 := a14.trans (hbw11.mono a14.size)
  have a16 := a15.trans (hbw12.mono a15.size)
  exact ⟨rfl, a16⟩
end Go.Proofs.Ytfjffmjnnjckkaa
