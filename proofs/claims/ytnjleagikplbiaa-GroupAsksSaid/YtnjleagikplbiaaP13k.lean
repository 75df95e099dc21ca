/- For every input the law GroupAsks returns true, and each argument reads afterwards as it read before. No condition. -/
import Derived.Test.YtnjleagikplbiaaRows
import Derived.Test.YtnjleagikplbiaaF13k
import Derived.Test.YtnjleagikplbiaaGrp
namespace Go.Proofs.Ytnjleagikplbiaa
open Go.ChangeShapes Go.WideShapes Go.ChangeAt Go.RowKit Go.Px Go.Joins
set_option linter.unusedVariables false
theorem cellsGroup : Try.prog.cellsOf 24 = 2 := by kernel_rfl

set_option maxRecDepth 100000 in
theorem groupAsks_lifted (os : Os) (started : os.Started) (H : Type) (enc : TypeId × Value → H) :
    ReturnsInHanded {} Try.checked os 3 .any (Rows.groupAsksSpec.pre6 enc Try.prog Try.f3 Rows.groupAsksRow.domain false) (Rows.groupAsksSpec.post enc Try.prog Try.f3 false true false false) := by
  refine returnsInHanded_of_change (C := Try.checked) own started (by kernel_rfl) Try.func3
    (ChangeSpec.witness6 (enc := enc) (C := Try.checked) false ⟨#[], #[.agg #[.int .i64 0, .slice none 0 0], .agg #[.int .i64 0, .slice none 0 0], .int .i64 0], []⟩ 8 (by kernel_rfl) (by kernel_rfl) (by kernel_rfl) (by kernel_rfl)) ?_
  intro W base args ds gs before hval0 hW _ hweigh
  have hval : ∀ (j : Nat) t v, Try.f3.params[j]? = some t → args[j]? = some v → Value.okWide Try.prog W .any base t v := hval0
  have hW' := hW
  obtain ⟨p, q, hA0, hV, rfl, hfz, hnd⟩ := hW
  have hA : DataW.TrodAll enc Try.prog W 0 (fun _ => true) true Try.f3.params.toList args.toList ds p := hA0
  rw [Try.params3] at hA hval
  obtain ⟨v0, l0, d0, e0, p0, q0, ha0, rfl, rfl, h0, r0⟩ := trodAll_cons hA
  obtain ⟨v1, l1, d1, e1, p1, q1, rfl, rfl, rfl, h1, r1⟩ := trodAll_cons r0
  obtain ⟨v2, l2, d2, e2, p2, q2, rfl, rfl, rfl, h2, r2⟩ := trodAll_cons r1
  obtain ⟨rfl, rfl, rfl⟩ := trodAll_nil r2
  obtain rfl : args = #[v0, v1, v2] := by cases args; simp_all
  obtain ⟨rfl, rfl⟩ := trodVars_none hV
  obtain ⟨u0, u1, y0, y1, fm, rfl, _, _, hy0, hy1⟩ := open_agg2 Try.underlying24 (by kernel_rfl) cellsGroup (hval 0 24 v0 rfl rfl) h0
  obtain ⟨ep, rfl, hp1, hp2⟩ := open_i64F Try.underlying3 hy0
  obtain ⟨A, n, c, ms, rfl, hn, hnc, hc, hr⟩ := open_intsF Try.underlying22 Try.underlying3 (by kernel_rfl) hy1
  obtain ⟨u2, u3, y2, y3, fm', rfl, _, _, hy2, hy3⟩ := open_agg2 Try.underlying24 (by kernel_rfl) cellsGroup (hval 1 24 v1 rfl rfl) h1
  obtain ⟨ep', rfl, hp1', hp2'⟩ := open_i64F Try.underlying3 hy2
  obtain ⟨A', n', c', ms', rfl, hn', hnc', hc', hr'⟩ := open_intsF Try.underlying22 Try.underlying3 (by kernel_rfl) hy3
  obtain ⟨i, rfl, rfl, rfl, w2⟩ := open_int Try.underlying3 (hval 2 3 v2 rfl rfl) h2
  have hi2 := wf_i64 w2
  refine (groupAsks_walk ep A n c ms ep' A' n' c' ms' i W hn hnc hc hr hn' hnc' hc' hr').mono fun e W' ⟨he, hb⟩ => ?_
  subst he
  exact ⟨_, rfl, law_post laidOut rfl rfl Try.underlying4 (fun t ht => (show ∀ t ∈ Try.f3.params.toList, Try.prog.readableRec t = true ∧ t < Try.prog.types.size from by decide +kernel) t ht) hW' rfl hb⟩

theorem groupAsks_holds : Rows.GroupAsksSaid :=
  OpenClaim.holds_of_wide 3 Try.f3 rfl rfl rfl rfl rfl rfl rfl ⟨rfl, rfl, rfl, rfl, rfl⟩ rfl rfl rfl rfl rfl (by kernel_rfl) Try.func3 (by kernel_rfl)
    (of_decide_eq_true (by kernel_rfl)) (by unfold Func.isWrapper; first | (rw [if_pos (by decide +kernel)]; kernel_rfl) | (rw [if_neg (by decide +kernel)]; exact ⟨rfl, rfl⟩))
    (fun os started H enc _ => groupAsks_lifted os started H enc)
end Go.Proofs.Ytnjleagikplbiaa
