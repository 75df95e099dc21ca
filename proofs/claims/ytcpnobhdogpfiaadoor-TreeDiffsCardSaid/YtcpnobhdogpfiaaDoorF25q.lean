/- The laws' cut. -/
import Derived.Test.YtcpnobhdogpfiaaDoorF25o
import Derived.Deep.DeepFit
namespace Go.Proofs.YtcpnobhdogpfiaaDoor
set_option maxRecDepth 20000
open Go.RowKit Go.Px
set_option linter.unusedVariables false
set_option maxHeartbeats 1600000 in
theorem cut_any (A : Option Addr) (n c : Nat) (ls : List (List Nat)) (w : World) {Q : Nat → Prop} (hT : tyTree.Is w Q ls [.slice A n c]) :
    Calls Tryd.prog 24 #[.agg #[.slice A n c]] w fun e w' => ∃ A' n' c' ls', e = .returned (.agg #[.slice A' n' c']) ∧ tyTree.Is w' Q ls' [.slice A' n' c'] ∧ Below w.heap.size w w' := by
  have hT0 := hT.here
  have hn63 : n ≤ c ∧ c ≤ 9223372036854775807 := by
    obtain ⟨p, pA, pn, pc, pv, rfl, hpe, hl1, hc1, hm1, _⟩ := Tree_out hT0
    simp only [List.cons.injEq, Value.slice.injEq, and_true] at hpe
    obtain ⟨rfl, rfl, rfl⟩ := hpe
    exact ⟨hc1, hm1⟩
  obtain ⟨hnc, hc63⟩ := hn63
  clear hT
  by_cases h12 : 12 < n
  · have hTc : tyTree.Is w (fun b => Q b ∧ b < w.heap.size) (ls.take 12) [.slice A 12 c] := by
      obtain ⟨p, pA, pn, pc, pv, rfl, hpe, hl1, hc1, hm1, hr1, hq1, he1⟩ := Tree_out hT0
      simp only [List.cons.injEq, Value.slice.injEq, and_true] at hpe
      obtain ⟨rfl, rfl, rfl⟩ := hpe
      exact Tree_mk (by rw [List.length_take, hl1]; omega) (by omega) hm1 (hr1.take 12) (fun hne a ha => hq1 (fun e => hne (by rw [e]; rfl)) a ha) (he1.take 12)
    obtain ⟨w1, hw1⟩ : ∃ x, (w.alloc (.cells #[.slice A 12 c] 29)).alloc (.cells #[.slice none 0 0] 29) = x := ⟨_, rfl⟩
    have hb1 : Below w.heap.size w w1 := by rw [← hw1]; exact ((Below.refl _ _).alloc (Nat.le_refl _) _).alloc (by simp) _
    have B1 : Blk w1 w.heap.size [.slice A 12 c] 29 := by rw [← hw1]; exact (Blk.new w [.slice A 12 c] 29).alloc _
    have B2 : Blk w1 (w.heap.size + 1) [.slice none 0 0] 29 := by
      rw [← hw1]
      have := Blk.new (w.alloc (.cells #[.slice A 12 c] 29)) [.slice none 0 0] 29
      rwa [World.size_alloc] at this
    have hT1 := hTc.below hb1
    have Hw1 := hide hw1
    have HT := hide hT1
    obtain ⟨p, pA, pn, pc, pv, rfl', hpe, hl1, hc1, hm1, hr1, _, he1⟩ := Tree_out hT1
    simp only [List.cons.injEq, Value.slice.injEq, and_true] at hpe
    obtain ⟨rfl, rfl, rfl⟩ := hpe
    subst rfl'
    have HL : Hid ((ls.take 12).length = 12) := hide hl1
    clear hw1 hT0 hTc hT1 hl1
    go_enter Tryd.func24, Tryd.ntmps24
    go_wp2_with fail
    rw [Hw1.out]
    go_loopw [3] (fun i wr => ∃ k : Nat, k ≤ 12 ∧ i = .int .i64 k ∧ Below w1.heap.size w1 wr) (fun i _ => 12 - (intOf i).toNat)
    case atStart => exact ⟨0, by omega, rfl, Below.refl _ _⟩
    case round =>
      obtain ⟨k, hk, rfl, hbw⟩ := hrel
      have E1 := B1.below hbw
      have E2 := B2.below hbw
      have d1 := E1.cell (j := 0) rfl
      have d2 := E2.cell (j := 0) rfl
      have f2 := E2.frozen 0
      have hbf := hb1.trans (hbw.mono hb1.size)
      by_cases hlt : k < 12
      · have hkl : k < (ls.take 12).length := by rw [HL.out]; exact hlt
        obtain ⟨P, p, hv1, hp1, hp2, hpr, _, _⟩ := rows32_at (he1.below hbw) hkl
        obtain ⟨a, ha, hc⟩ := hr1.below hbw k _ hv1
        subst ha
        obtain ⟨m, hm⟩ : ∃ m, (ls.take 12)[k].length = m := ⟨_, rfl⟩
        rw [hm] at hc hp1
        clear hv1 hpr hm
        by_cases hbig : 4097 < m
        · go_wp2
          refine bodyPost_ret (results_cell rfl rfl (E2.set 0 _) Tryd.underlying29 rfl (by kernel_rfl)) rfl ?_
          exact ⟨none, 0, 0, [], rfl, tree_nil, hbf.setCell (by show w.heap.size ≤ w.heap.size + 1; omega) _⟩
        · have hbig' : m ≤ 4097 := by omega
          clear hbig
          go_wp2
          go_roundw
          case rel => exact ⟨k + 1, by omega, by go_num, hbw⟩
          case measure => simp [intOf]; omega
      · go_wp2
        refine bodyPost_ret (results_cell rfl rfl (E2.set 0 _) Tryd.underlying29 rfl (by kernel_rfl)) rfl ?_
        refine ⟨_, _, _, ls.take 12, rfl, ?_, hbf.setCell (by show w.heap.size ≤ w.heap.size + 1; omega) _⟩
        exact ((HT.out.below hbw).grown (setCell_grown _ _ _ _) (fun b hb e => by injection e with e; have h1 := hb.2; have h2 : b = w.heap.size + 1 := e; omega)).mono (fun b hb => hb.1)
  · have h12' : n ≤ 12 := by omega
    obtain ⟨w1, hw1⟩ : ∃ x, (w.alloc (.cells #[.slice A n c] 29)).alloc (.cells #[.slice none 0 0] 29) = x := ⟨_, rfl⟩
    have hb1 : Below w.heap.size w w1 := by rw [← hw1]; exact ((Below.refl _ _).alloc (Nat.le_refl _) _).alloc (by simp) _
    have B1 : Blk w1 w.heap.size [.slice A n c] 29 := by rw [← hw1]; exact (Blk.new w [.slice A n c] 29).alloc _
    have B2 : Blk w1 (w.heap.size + 1) [.slice none 0 0] 29 := by
      rw [← hw1]
      have := Blk.new (w.alloc (.cells #[.slice A n c] 29)) [.slice none 0 0] 29
      rwa [World.size_alloc] at this
    have hT1 := hT0.below hb1
    have Hw1 := hide hw1
    have HT := hide hT1
    obtain ⟨p, pA, pn, pc, pv, rfl', hpe, hl1, hc1, hm1, hr1, _, he1⟩ := Tree_out hT1
    simp only [List.cons.injEq, Value.slice.injEq, and_true] at hpe
    obtain ⟨rfl, rfl, rfl⟩ := hpe
    subst rfl'
    have HL : Hid (ls.length = n) := hide hl1
    clear hw1 hT0 hT1 hl1 h12
    go_enter Tryd.func24, Tryd.ntmps24
    go_wp2_with fail
    rw [Hw1.out]
    go_loopw [3] (fun i wr => ∃ k : Nat, k ≤ n ∧ i = .int .i64 k ∧ Below w1.heap.size w1 wr) (fun i _ => n - (intOf i).toNat)
    case atStart => exact ⟨0, by omega, rfl, Below.refl _ _⟩
    case round =>
      obtain ⟨k, hk, rfl, hbw⟩ := hrel
      have E1 := B1.below hbw
      have E2 := B2.below hbw
      have d1 := E1.cell (j := 0) rfl
      have d2 := E2.cell (j := 0) rfl
      have f2 := E2.frozen 0
      have hbf := hb1.trans (hbw.mono hb1.size)
      by_cases hlt : k < n
      · have hkl : k < (ls).length := by rw [HL.out]; exact hlt
        obtain ⟨P, p, hv1, hp1, hp2, hpr, _, _⟩ := rows32_at (he1.below hbw) hkl
        obtain ⟨a, ha, hc⟩ := hr1.below hbw k _ hv1
        subst ha
        obtain ⟨m, hm⟩ : ∃ m, (ls)[k].length = m := ⟨_, rfl⟩
        rw [hm] at hc hp1
        clear hv1 hpr hm
        by_cases hbig : 4097 < m
        · go_wp2
          refine bodyPost_ret (results_cell rfl rfl (E2.set 0 _) Tryd.underlying29 rfl (by kernel_rfl)) rfl ?_
          exact ⟨none, 0, 0, [], rfl, tree_nil, hbf.setCell (by show w.heap.size ≤ w.heap.size + 1; omega) _⟩
        · have hbig' : m ≤ 4097 := by omega
          clear hbig
          go_wp2
          go_roundw
          case rel => exact ⟨k + 1, by omega, by go_num, hbw⟩
          case measure => simp [intOf]; omega
      · go_wp2
        refine bodyPost_ret (results_cell rfl rfl (E2.set 0 _) Tryd.underlying29 rfl (by kernel_rfl)) rfl ?_
        refine ⟨_, _, _, ls, rfl, ?_, hbf.setCell (by show w.heap.size ≤ w.heap.size + 1; omega) _⟩
        exact ((HT.out.below hbw).grown (setCell_grown _ _ _ _) (fun b hb e => by injection e with e; have h1 := hb.2; have h2 : b = w.heap.size + 1 := e; omega)).mono (fun b hb => hb.1)
end Go.Proofs.YtcpnobhdogpfiaaDoor
