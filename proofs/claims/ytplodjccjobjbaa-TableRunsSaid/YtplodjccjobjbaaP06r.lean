/- For every input the law TableRuns returns true, and each argument reads afterwards as it read before. No condition. -/
import Derived.Test.YtplodjccjobjbaaRows
import Derived.Test.YtplodjccjobjbaaG06d
import Derived.Test.YtplodjccjobjbaaArg
import Derived.Test.YtplodjccjobjbaaCll
import Derived.Test.YtplodjccjobjbaaAgg
import Derived.Test.YtplodjccjobjbaaGrp
import Derived.Test.YtplodjccjobjbaaFrm
namespace Go.Proofs.Ytplodjccjobjbaa
open Go.ChangeShapes Go.WideShapes Go.ChangeAt Go.RowKit Go.Px Go.Joins
set_option linter.unusedVariables false

set_option maxRecDepth 100000 in
theorem tableRuns_lifted (os : Os) (started : os.Started) (H : Type) (enc : TypeId × Value → H) :
    ReturnsInHanded {} Try.checked os 3 .any (Rows.tableRunsSpec.pre6 enc Try.prog Try.f3 Rows.tableRunsRow.domain false) (Rows.tableRunsSpec.post enc Try.prog Try.f3 false true false false) := by
  refine returnsInHanded_of_change (C := Try.checked) own started (by kernel_rfl) Try.func3
    (ChangeSpec.witness6 (enc := enc) (C := Try.checked) false ⟨#[], #[.slice none 0 0, .slice none 0 0], []⟩ 8 (by kernel_rfl) (by kernel_rfl) (by kernel_rfl) (by kernel_rfl)) ?_
  intro W base args ds gs before hval0 hW _ hweigh
  have hval : ∀ (j : Nat) t v, Try.f3.params[j]? = some t → args[j]? = some v → Value.okWide Try.prog W .any base t v := hval0
  have hW' := hW
  obtain ⟨p, q, hA0, hV, rfl, hfz, hnd⟩ := hW
  have hA : DataW.TrodAll enc Try.prog W 0 (fun _ => true) true Try.f3.params.toList args.toList ds p := hA0
  rw [Try.params3] at hA hval
  obtain ⟨v0, l0, d0, e0, p0, q0, ha0, rfl, rfl, h0, r0⟩ := trodAll_cons hA
  obtain ⟨v1, l1, d1, e1, p1, q1, rfl, rfl, rfl, h1, r1⟩ := trodAll_cons r0
  obtain ⟨rfl, rfl, rfl⟩ := trodAll_nil r1
  obtain rfl : args = #[v0, v1] := by cases args; simp_all
  obtain ⟨rfl, rfl⟩ := trodVars_none hV
  obtain ⟨A0, n0, c0, cs0, es0, rfl, hn0, hnc0, hc0, hr0, hE0⟩ := open_rows (hval 0 22 v0 rfl rfl) h0
  obtain ⟨A1, n1, c1, rfl, hn1, hc1, hcl⟩ := open_calls (hval 1 23 v1 rfl rfl) h1
  have hcr := open_callsR (hval 1 23 _ rfl rfl) h1
  refine (tableRuns_walk A0 n0 c0 cs0 es0 _ A1 n1 c1 W hn0 hr0 hE0 hn1 hc1 hcl hcr).mono fun e W' ⟨he, hb⟩ => ?_
  subst he
  exact ⟨_, rfl, law_post laidOut rfl rfl Try.underlying4 (fun t ht => (show ∀ t ∈ Try.f3.params.toList, Try.prog.readableRec t = true ∧ t < Try.prog.types.size from by decide +kernel) t ht) hW' rfl hb⟩

theorem tableRuns_holds : Rows.TableRunsSaid :=
  OpenClaim.holds_of_wide 3 Try.f3 rfl rfl rfl rfl rfl rfl rfl ⟨rfl, rfl, rfl, rfl, rfl⟩ rfl rfl rfl rfl rfl (by kernel_rfl) Try.func3 (by kernel_rfl)
    (of_decide_eq_true (by kernel_rfl)) (by unfold Func.isWrapper; first | (rw [if_pos (by decide +kernel)]; kernel_rfl) | (rw [if_neg (by decide +kernel)]; exact ⟨rfl, rfl⟩))
    (fun os started H enc _ => tableRuns_lifted os started H enc)
end Go.Proofs.Ytplodjccjobjbaa
