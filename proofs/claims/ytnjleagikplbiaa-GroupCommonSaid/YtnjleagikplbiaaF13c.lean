/- Check twice, Primary twice, Quorum twice, few, cut. -/
import Derived.Test.YtnjleagikplbiaaF13b
namespace Go.Proofs.Ytnjleagikplbiaa
open Go.RowKit Go.Px
set_option linter.unusedVariables false

set_option maxHeartbeats 400000 in
theorem gcheck_any (e : Int) (A : Option Addr) (n c : Nat) (ms : List Int) (w : World) (hn : ms.length = n) (hr : Rd w A (ints ms)) :
    Calls Try.prog 9 #[grp e A n c] w fun x w' => x = .returned (.int .i64 (chkE e ms)) ∧ Below w.heap.size w w' := by
  have hb0 : Below w.heap.size w (w.alloc (.cells #[.int .i64 e, .slice A n c] 24)) := (Below.refl _ _).alloc (Nat.le_refl _) _
  have Hn := hide hn
  clear hn
  rcases bool_two (grpOk e ms) with hg | hg
  · have HE := hide (chk_ok hg)
    have Hg := hide hg
    clear hg
    go_enter Try.func9, Try.ntmps9
    go_wp2_with fail
    go_fit (mgroup_any e A n c ms _ Hn.out (hr.below hb0))
    rw [Hg.out]
    rintro x w1 ⟨rfl, hb1⟩
    go_wp2
    go_ret
    exact ⟨by rw [HE.out]; rfl, hb0.trans (hb1.mono hb0.size)⟩
  · have HE := hide (chk_bad hg)
    have Hg := hide hg
    clear hg
    go_enter Try.func9, Try.ntmps9
    go_wp2_with fail
    go_fit (mgroup_any e A n c ms _ Hn.out (hr.below hb0))
    rw [Hg.out]
    rintro x w1 ⟨rfl, hb1⟩
    go_wp2
    go_ret
    exact ⟨by rw [HE.out]; rfl, hb0.trans (hb1.mono hb0.size)⟩
set_option maxHeartbeats 400000 in
theorem rcheck_any (e : Int) (A : Option Addr) (n c : Nat) (ms : List Int) (w : World) (hn : ms.length = n) (hr : Rd w A (ints ms)) :
    Calls Try.prog 10 #[grp e A n c] w fun x w' => x = .returned (.int .i64 (chkE e ms)) ∧ Below w.heap.size w w' := by
  have hb0 : Below w.heap.size w (w.alloc (.cells #[.int .i64 e, .slice A n c] 24)) := (Below.refl _ _).alloc (Nat.le_refl _) _
  have Hn := hide hn
  clear hn
  rcases bool_two (grpOk e ms) with hg | hg
  · have HE := hide (chk_ok hg)
    have Hg := hide (gE_ok hg)
    clear hg
    go_enter Try.func10, Try.ntmps10
    go_wp2_with fail
    go_fit (rgroup_any e A n c ms _ Hn.out (hr.below hb0))
    rw [Hg.out]
    rintro x w1 ⟨rfl, hb1⟩
    go_wp2
    go_ret
    exact ⟨by rw [HE.out]; rfl, hb0.trans (hb1.mono hb0.size)⟩
  · have HE := hide (chk_bad hg)
    have Hg := hide (gE_bad hg)
    clear hg
    go_enter Try.func10, Try.ntmps10
    go_wp2_with fail
    go_fit (rgroup_any e A n c ms _ Hn.out (hr.below hb0))
    rw [Hg.out]
    rintro x w1 ⟨rfl, hb1⟩
    go_wp2
    go_ret
    exact ⟨by rw [HE.out]; rfl, hb0.trans (hb1.mono hb0.size)⟩
theorem quorum_any (e : Int) (A : Option Addr) (n c : Nat) (w : World) (hn : n ≤ 9223372036854775806) :
    Calls Try.prog 11 #[grp e A n c] w fun x w' => x = .returned (.int .i64 ((n / 2 + 1 : Nat) : Int)) ∧ Below w.heap.size w w' := by
  have hb0 : Below w.heap.size w (w.alloc (.cells #[.int .i64 e, .slice A n c] 24)) := (Below.refl _ _).alloc (Nat.le_refl _) _
  go_enter Try.func11, Try.ntmps11
  go_wp2
  go_ret
  exact ⟨by simp, hb0⟩
theorem rquorum_any (e : Int) (A : Option Addr) (n c : Nat) (w : World) (hn : n ≤ 9223372036854775806) :
    Calls Try.prog 12 #[grp e A n c] w fun x w' => x = .returned (.int .i64 ((n / 2 + 1 : Nat) : Int)) ∧ Below w.heap.size w w' := by
  have hb0 : Below w.heap.size w (w.alloc (.cells #[.int .i64 e, .slice A n c] 24)) := (Below.refl _ _).alloc (Nat.le_refl _) _
  go_enter Try.func12, Try.ntmps12
  go_wp2
  go_ret
  exact ⟨by simp, hb0⟩

def lfew (n : Nat) : Nat := if n ≤ 100 then n else 100
theorem lfew_le (n : Nat) : lfew n ≤ n ∧ lfew n ≤ 100 := by unfold lfew; split <;> omega
theorem lfew_len (ms : List Int) : (ms.take 100).length = lfew ms.length := by unfold lfew; rw [List.length_take]; split <;> omega
theorem ints_take (l : List Int) (k : Nat) : ints (l.take k) = (ints l).take k := by simp [ints]
theorem lfew_rd {w : World} {A : Option Addr} {ms : List Int} (h : Rd w A (ints ms)) : Rd w A (ints (ms.take 100)) := by rw [ints_take]; exact h.take _
theorem few_any (A : Option Addr) (n c : Nat) (w : World) (hnc : n ≤ c) (hc : c ≤ 9223372036854775807) : Calls Try.prog 23 #[.slice A n c] w fun e w' => e = .returned (.slice A (lfew n) c) ∧ w = w' := by
  by_cases h : n ≤ 100
  · have HL := hide (show lfew n = n by unfold lfew; rw [if_pos h])
    go_enter Try.func23, Try.ntmps23
    go_wp2
    go_ret
    exact ⟨by rw [HL.out]; rfl, rfl⟩
  · have HL := hide (show lfew n = 100 by unfold lfew; rw [if_neg h])
    go_enter Try.func23, Try.ntmps23
    go_wp2
    go_ret
    exact ⟨by rw [HL.out]; rfl, rfl⟩
set_option maxHeartbeats 400000 in
theorem cut_any (e : Int) (A : Option Addr) (n c : Nat) (w : World) (hnc : n ≤ c) (hc : c ≤ 9223372036854775807) : Calls Try.prog 8 #[grp e A n c] w fun x w' => x = .returned (grp e A (lfew n) c) ∧ Below w.heap.size w w' := by
  go_enter Try.func8, Try.ntmps8
  go_wp2_with fail
  go_fit (few_any A n c _ hnc hc)
  rintro x w' ⟨rfl, rfl⟩
  go_wp2
  have hB2 : Blk ((w.alloc (.cells #[.int .i64 e, .slice A (lfew n) c] 24)).alloc (.cells #[.int .i64 e, .slice A (lfew n) c] 24)) (w.heap.size + 1) [.int .i64 e, .slice A (lfew n) c] 24 := by
    have := Blk.new (w.alloc (.cells #[.int .i64 e, .slice A (lfew n) c] 24)) [.int .i64 e, .slice A (lfew n) c] 24
    rwa [World.size_alloc] at this
  refine bodyPost_ret (results_cell rfl rfl hB2 Try.underlying24 rfl (by kernel_rfl)) rfl ⟨rfl, ?_⟩
  exact ((Below.refl _ _).alloc (Nat.le_refl _) _).alloc (by simp) _
set_option maxHeartbeats 800000 in
theorem prim_any (e : Int) (A : Option Addr) (n c : Nat) (ms : List Int) (v : Int) (w : World) (hn : ms.length = n) (hr : Rd w A (ints ms)) :
    Calls Try.prog 18 #[grp e A n c, .int .i64 v] w fun x w' => x = .returned (.tuple #[.int .i64 (primN e ms v), .int .i64 (primE e ms v)]) ∧ Below w.heap.size w w' := by
  have hB := Blk.new w [.int .i64 e, .slice A n c] 24
  have hb0 : Below w.heap.size w (w.alloc (.cells #[.int .i64 e, .slice A n c] 24)) := (Below.refl _ _).alloc (Nat.le_refl _) _
  have Hn := hide hn
  clear hn
  rcases bool_two (grpOk e ms) with hg | hg
  · have HC := hide (chk_ok hg)
    have hl := grpOk_len hg
    rw [Hn.out] at hl
    by_cases hv : 0 ≤ v ∧ v ≤ 4611686018427387904
    · obtain ⟨hv1, hv2⟩ := hv
      have hE : primE e ms v = 0 := by unfold primE; rw [if_pos hg, if_pos ⟨hv1, hv2⟩]
      have HV := hide (show numB v = true from decide_eq_true ⟨hv1, hv2⟩)
      obtain ⟨j, hj⟩ : ∃ j, v.toNat % n = j := ⟨_, rfl⟩
      have hjn : j < n := by rw [← hj]; exact Nat.mod_lt _ (by omega)
      have hjI : v % (n : Int) = (j : Int) := by rw [← hj, Int.natCast_emod, Int.toNat_of_nonneg hv1]
      have hkl : j < ms.length := by rw [Hn.out]; exact hjn
      obtain ⟨a, rfl, hc⟩ := hr j _ (ints_get hkl)
      obtain ⟨y, hy⟩ : ∃ y, ms[j] = y := ⟨_, rfl⟩
      have HN := hide (show primN e ms v = y by
        unfold primN; rw [if_pos hE, Hn.out, hj, List.getD_eq_getElem?_getD, List.getElem?_eq_getElem hkl, hy]; rfl)
      rw [hy] at hc
      have HE := hide hE
      have HJ := hide hjI
      clear hg hE hy hj hjI
      go_enter Try.func18, Try.ntmps18
      go_wp2_with fail
      go_fit (gcheck_any e _ n c ms _ Hn.out (hr.below hb0))
      rw [HC.out]
      rintro x w1 ⟨rfl, hb1⟩
      have hB1 := hB.below hb1
      have g0 := hB1.cell (j := 0) rfl
      have g1 := hB1.cell (j := 1) rfl
      have hb01 := hb0.trans (hb1.mono hb0.size)
      go_wp2_with fail
      go_fit (number_any v _)
      rw [HV.out]
      rintro x w2 ⟨rfl, rfl⟩
      have hc1 : w1.cell? (a.add j) = some (.int .i64 y) := (hb01.cell (p := a.add j) (World.block_lt_of_cell? w _ hc)).trans hc
      have hjI := HJ.out
      clear hc
      go_wp2
      go_quiet (fail)
      all_goals
        go_wp2
        go_ret2
        exact ⟨by rw [HN.out, HE.out]; rfl, below_drewN hb01 _⟩
    · have hE : primE e ms v = 1 := by unfold primE; rw [if_pos hg, if_neg hv]
      have HV := hide (show numB v = false from decide_eq_false hv)
      have HN := hide (primN_bad (show primE e ms v ≠ 0 by rw [hE]; decide))
      have HE := hide hE
      clear hg hE hv
      go_enter Try.func18, Try.ntmps18
      go_wp2_with fail
      go_fit (gcheck_any e _ n c ms _ Hn.out (hr.below hb0))
      rw [HC.out]
      rintro x w1 ⟨rfl, hb1⟩
      go_wp2_with fail
      go_fit (number_any v _)
      rw [HV.out]
      rintro x w2 ⟨rfl, rfl⟩
      go_wp2
      go_ret2
      exact ⟨by rw [HN.out, HE.out]; rfl, hb0.trans (hb1.mono hb0.size)⟩
  · have HC := hide (chk_bad hg)
    have hE : primE e ms v = 130 := by unfold primE; rw [if_neg (by rw [hg]; decide)]
    have HN := hide (primN_bad (show primE e ms v ≠ 0 by rw [hE]; decide))
    have HE := hide hE
    clear hg hE
    go_enter Try.func18, Try.ntmps18
    go_wp2_with fail
    go_fit (gcheck_any e _ n c ms _ Hn.out (hr.below hb0))
    rw [HC.out]
    rintro x w1 ⟨rfl, hb1⟩
    go_wp2
    go_ret2
    exact ⟨by rw [HN.out, HE.out]; rfl, hb0.trans (hb1.mono hb0.size)⟩
set_option maxHeartbeats 800000 in
theorem rprim_any (e : Int) (A : Option Addr) (n c : Nat) (ms : List Int) (v : Int) (w : World) (hn : ms.length = n) (hr : Rd w A (ints ms)) :
    Calls Try.prog 19 #[grp e A n c, .int .i64 v] w fun x w' => x = .returned (.tuple #[.int .i64 (primN e ms v), .int .i64 (primE e ms v)]) ∧ Below w.heap.size w w' := by
  have hB := Blk.new w [.int .i64 e, .slice A n c] 24
  have hb0 : Below w.heap.size w (w.alloc (.cells #[.int .i64 e, .slice A n c] 24)) := (Below.refl _ _).alloc (Nat.le_refl _) _
  have Hn := hide hn
  clear hn
  rcases bool_two (grpOk e ms) with hg | hg
  · have HC := hide (chk_ok hg)
    have hl := grpOk_len hg
    rw [Hn.out] at hl
    by_cases hv : 0 ≤ v ∧ v ≤ 4611686018427387904
    · obtain ⟨hv1, hv2⟩ := hv
      have hE : primE e ms v = 0 := by unfold primE; rw [if_pos hg, if_pos ⟨hv1, hv2⟩]
      have HV := hide (show numB v = true from decide_eq_true ⟨hv1, hv2⟩)
      obtain ⟨j, hj⟩ : ∃ j, v.toNat % n = j := ⟨_, rfl⟩
      have hjn : j < n := by rw [← hj]; exact Nat.mod_lt _ (by omega)
      have hjI : v % (n : Int) = (j : Int) := by rw [← hj, Int.natCast_emod, Int.toNat_of_nonneg hv1]
      have hkl : j < ms.length := by rw [Hn.out]; exact hjn
      obtain ⟨a, rfl, hc⟩ := hr j _ (ints_get hkl)
      obtain ⟨y, hy⟩ : ∃ y, ms[j] = y := ⟨_, rfl⟩
      have HN := hide (show primN e ms v = y by
        unfold primN; rw [if_pos hE, Hn.out, hj, List.getD_eq_getElem?_getD, List.getElem?_eq_getElem hkl, hy]; rfl)
      rw [hy] at hc
      have HE := hide hE
      have HJ := hide hjI
      clear hg hE hy hj hjI
      go_enter Try.func19, Try.ntmps19
      go_wp2_with fail
      go_fit (rcheck_any e _ n c ms _ Hn.out (hr.below hb0))
      rw [HC.out]
      rintro x w1 ⟨rfl, hb1⟩
      have hB1 := hB.below hb1
      have g0 := hB1.cell (j := 0) rfl
      have g1 := hB1.cell (j := 1) rfl
      have hb01 := hb0.trans (hb1.mono hb0.size)
      have hc1 : w1.cell? (a.add j) = some (.int .i64 y) := (hb01.cell (p := a.add j) (World.block_lt_of_cell? w _ hc)).trans hc
      have hjI := HJ.out
      clear hc
      go_wp2
      go_quiet (fail)
      all_goals
        go_wp2
        go_ret2
        exact ⟨by rw [HN.out, HE.out]; rfl, below_drewN hb01 _⟩
    · have hE : primE e ms v = 1 := by unfold primE; rw [if_pos hg, if_neg hv]
      have HN := hide (primN_bad (show primE e ms v ≠ 0 by rw [hE]; decide))
      have HE := hide hE
      have hv' : v < 0 ∨ 4611686018427387904 < v := by omega
      clear hg hE hv
      go_enter Try.func19, Try.ntmps19
      go_wp2_with fail
      go_fit (rcheck_any e _ n c ms _ Hn.out (hr.below hb0))
      rw [HC.out]
      rintro x w1 ⟨rfl, hb1⟩
      by_cases h0 : v < 0
      · go_wp2
        go_ret2
        exact ⟨by rw [HN.out, HE.out]; rfl, hb0.trans (hb1.mono hb0.size)⟩
      · have h1 : 4611686018427387904 < v := by omega
        clear hv'
        go_wp2
        go_ret2
        exact ⟨by rw [HN.out, HE.out]; rfl, hb0.trans (hb1.mono hb0.size)⟩
  · have HC := hide (chk_bad hg)
    have hE : primE e ms v = 130 := by unfold primE; rw [if_neg (by rw [hg]; decide)]
    have HN := hide (primN_bad (show primE e ms v ≠ 0 by rw [hE]; decide))
    have HE := hide hE
    clear hg hE
    go_enter Try.func19, Try.ntmps19
    go_wp2_with fail
    go_fit (rcheck_any e _ n c ms _ Hn.out (hr.below hb0))
    rw [HC.out]
    rintro x w1 ⟨rfl, hb1⟩
    go_wp2
    go_ret2
    exact ⟨by rw [HN.out, HE.out]; rfl, hb0.trans (hb1.mono hb0.size)⟩
end Go.Proofs.Ytnjleagikplbiaa
