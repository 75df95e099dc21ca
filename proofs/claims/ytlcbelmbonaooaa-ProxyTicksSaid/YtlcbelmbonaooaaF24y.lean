/- Stage 24: rows of messages that are alike (written by gen_24x.py). -/
import Derived.Test.YtlcbelmbonaooaaF24x
import Derived.Test.YtlcbelmbonaooaaAtL
namespace Go.Proofs.Ytlcbelmbonaooaa
set_option maxRecDepth 20000
open Go.RowKit Go.Px Go.Maps Go.Deep
set_option linter.unusedVariables false
set_option linter.unusedSimpArgs false
set_option maxRecDepth 20000 in
set_option maxHeartbeats 12800000 in
theorem sameAll_is {w : World} {Q Q' : Nat → Prop} {x : List MsgD} {a b : Value} (h : (Ty.row tyMsg).Is w Q x [a]) (h' : (Ty.row tyMsg).Is w Q' x [b]) : Calls Try.prog 20 #[a, b] w fun e w' => e = .returned (.bool true) ∧ Below w.heap.size w w' := by
  obtain ⟨A, n, c, vs, rfl, l1, l2, l3, l4, l5, l6⟩ := Row_cell h
  obtain ⟨B, m, c', us, rfl, m1, m2, m3, m4, m5, m6⟩ := Row_cell h'
  have hnm : m = n := by omega
  subst hnm
  have hA := rowAt_of (Ty.n_pos _) l1 l4 l6
  have hB := rowAt_of (Ty.n_pos _) m1 m4 m6
  have Hl := hide l1
  clear h h' l1 l4 l5 l6 m1 m4 m5 m6
  go_enter Try.func20, Try.ntmps20
  go_wp2
  go_loopw [5] (fun i wr => ∃ (k : Nat), k ≤ m ∧ i = .int .i64 k ∧ Below w.heap.size w wr) (fun i _ => m - (intOf i).toNat)
  case atStart => exact ⟨0, by omega, rfl, Below.refl _ _⟩
  case round =>
    obtain ⟨k, hk, rfl, hb⟩ := hrel
    by_cases hlt : k < m
    · have hkI : (k : Int) < (m : Int) := by omega
      obtain ⟨x1, p, ds1, hx, hAp, hI, hat, hc⟩ := hA.at_ (by decide) hb hlt
      obtain ⟨x2, q, ds2, hy, hAq, hJ, hat', hc'⟩ := hB.at_ (by decide) hb hlt
      subst hAp
      subst hAq
      obtain rfl : x2 = x1 := by rw [hx] at hy; injection hy with hy; exact hy.symm
      obtain ⟨c0, c1, c2, c3, c4, c5, c6, c7, c8, c9, c10, c11, c12, c13, c14, c15, c16, c17, c18, c19, c20, c21, c22, c23, c24, c25, c26, c27, rfl⟩ := list_28 (hI.len : ds1.length = 28)
      obtain ⟨d0, d1, d2, d3, d4, d5, d6, d7, d8, d9, d10, d11, d12, d13, d14, d15, d16, d17, d18, d19, d20, d21, d22, d23, d24, d25, d26, d27, rfl⟩ := list_28 (hJ.len : ds2.length = 28)
      have hE := elem_at (n := 28) hat hc
      have hE' := elem_at (n := 28) hat' hc'
      clear hat hc hat' hc' hx hy hA hB
      go_wp2_with fail
      refine wp_region_held_drew (S := fun Z => Below wr.heap.size wr Z) (by kernel_rfl) (Below.refl _ _).drew (fun hS0 => ?_)
      refine wpAnyH_take (fuel := 9) (i := 0) (v := .slice (some p) m c) rfl (by kernel_rfl) (by kernel_rfl) (by kernel_rfl) (fun _ _ _ h => h) (Or.inl ⟨by rfl, fun Z hZ => ?_⟩) hS0 ?_
      · go_simp
      refine wpAnyH_take (fuel := 8) (i := 1) (v := .int .i64 (k : Int)) rfl (by kernel_rfl) (by kernel_rfl) (by kernel_rfl) (fun _ _ _ h => h) (Or.inl ⟨by rfl, fun Z hZ => ?_⟩) hS0 ?_
      · go_simp
      refine wpAnyH_take (fuel := 7) (i := 2) (v := .pointer (some (p.add (k * 28)))) rfl (by kernel_rfl) (by kernel_rfl) (by kernel_rfl) (fun _ _ _ h => h) (Or.inl ⟨by rfl, fun Z hZ => ?_⟩) hS0 ?_
      · go_simp
      refine wpAnyH_take (fuel := 6) (i := 3) (v := .agg #[c0, c1, c2, c3, c4, c5, c6, c7, c8, c9, c10, c11, c12, c13, c14, c15, c16, c17, c18, c19, c20, c21, c22, c23, c24, c25, c26, c27]) rfl (by kernel_rfl) (by kernel_rfl) (by kernel_rfl) (fun _ _ _ h => h) (yieldsIf_load_at rfl 58 _ rfl (p.add (k * 28)) rfl [c0, c1, c2, c3, c4, c5, c6, c7, c8, c9, c10, c11, c12, c13, c14, c15, c16, c17, c18, c19, c20, c21, c22, c23, c24, c25, c26, c27] _ (fun Z hZ j v hv => below_cell hZ (hE j v hv)) Try.underlying58 rfl (by kernel_rfl)) hS0 ?_
      refine wpAnyH_take (fuel := 5) (i := 4) (v := .slice (some q) m c') rfl (by kernel_rfl) (by kernel_rfl) (by kernel_rfl) (fun _ _ _ h => h) (Or.inl ⟨by rfl, fun Z hZ => ?_⟩) hS0 ?_
      · go_simp
      refine wpAnyH_take (fuel := 4) (i := 5) (v := .int .i64 (k : Int)) rfl (by kernel_rfl) (by kernel_rfl) (by kernel_rfl) (fun _ _ _ h => h) (Or.inl ⟨by rfl, fun Z hZ => ?_⟩) hS0 ?_
      · go_simp
      refine wpAnyH_take (fuel := 3) (i := 6) (v := .pointer (some (q.add (k * 28)))) rfl (by kernel_rfl) (by kernel_rfl) (by kernel_rfl) (fun _ _ _ h => h) (Or.inl ⟨by rfl, fun Z hZ => ?_⟩) hS0 ?_
      · go_simp
      refine wpAnyH_take (fuel := 2) (i := 7) (v := .agg #[d0, d1, d2, d3, d4, d5, d6, d7, d8, d9, d10, d11, d12, d13, d14, d15, d16, d17, d18, d19, d20, d21, d22, d23, d24, d25, d26, d27]) rfl (by kernel_rfl) (by kernel_rfl) (by kernel_rfl) (fun _ _ _ h => h) (yieldsIf_load_at rfl 58 _ rfl (q.add (k * 28)) rfl [d0, d1, d2, d3, d4, d5, d6, d7, d8, d9, d10, d11, d12, d13, d14, d15, d16, d17, d18, d19, d20, d21, d22, d23, d24, d25, d26, d27] _ (fun Z hZ j v hv => below_cell hZ (hE' j v hv)) Try.underlying58 rfl (by kernel_rfl)) hS0 ?_
      obtain ⟨Z0, hZ0⟩ : ∃ y, wr.drew = y := ⟨_, rfl⟩
      rw [hZ0] at hS0
      rw [hZ0]
      clear hZ0
      refine all_one (fuel := 1) (i := 8) (by kernel_rfl) rfl rfl (fun Kk hK => ?_)
      go_simp
      go_fit (sameM_is (hI.below hS0) (hJ.below hS0))
      rintro e' Z1 ⟨rfl, hd⟩
      have hS1 := hS0.trans (hd.mono hS0.size)
      clear hd
      refine hK _ _ ⟨hS1, ?_⟩
      clear hK Kk
      refine wpAnyH_take (fuel := 0) (i := 9) (v := .bool false) rfl (by kernel_rfl) (by kernel_rfl) (by kernel_rfl) (fun _ _ _ h => h) (Or.inl ⟨by rfl, fun Z hZ => ?_⟩) hS1 ?_
      · go_simp
      refine wpAnyH_done (by kernel_rfl) ?_ _
      try simp only [Act.put, List.setIfInBounds_toArray, List.set_cons_zero, List.set_cons_succ, List.getElem_toArray, List.getElem_cons_zero, List.getElem_cons_succ]
      go_wp2
      go_roundw
      case rel => exact ⟨k + 1, by omega, by go_num, hb.trans (hS1.mono hb.size)⟩
      case measure => simp [intOf]; omega
    · obtain rfl : k = m := by omega
      go_wp2
      go_ret
      exact ⟨rfl, hb⟩
end Go.Proofs.Ytlcbelmbonaooaa
