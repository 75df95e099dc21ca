/- For every input the law SectorNobody returns true, and each argument reads afterwards as it read before. No condition. -/
import Derived.Test.YtdianokikhggnaaRows
import Derived.Test.YtdianokikhggnaaW08n
import Derived.Test.YtdianokikhggnaaTy8
import Derived.Test.YtdianokikhggnaaArg
import Derived.Test.YtdianokikhggnaaAgg
import Derived.Test.YtdianokikhggnaaGrp
import Derived.Test.YtdianokikhggnaaFrm
namespace Go.Proofs.Ytdianokikhggnaa
set_option maxRecDepth 20000
open Go.ChangeShapes Go.WideShapes Go.ChangeAt Go.RowKit Go.Px Go.Joins Go.Deep
set_option linter.unusedVariables false

set_option maxRecDepth 100000 in
theorem sectorNobody_lifted (os : Os) (started : os.Started) (H : Type) (enc : TypeId × Value → H) :
    ReturnsInHanded {} Try.checked os 7 .any (Rows.sectorNobodySpec.pre6 enc Try.prog Try.f7 Rows.sectorNobodyRow.domain false) (Rows.sectorNobodySpec.post enc Try.prog Try.f7 false true false false) := by
  refine returnsInHanded_of_change (C := Try.checked) own started (by kernel_rfl) Try.func7
    (ChangeSpec.witness6 (enc := enc) (C := Try.checked) false ⟨#[], #[.agg #[.int .i64 0, .int .i64 0, .int .i64 0, .slice none 0 0, .slice none 0 0, .int .i64 0, .int .i64 0]], []⟩ 8 (by kernel_rfl) (by kernel_rfl) (by kernel_rfl) (by kernel_rfl)) ?_
  intro W base args ds gs before hval0 hW _ hweigh
  have hval : ∀ (j : Nat) t v, Try.f7.params[j]? = some t → args[j]? = some v → Value.okWide Try.prog W .any base t v := hval0
  have hW' := hW
  obtain ⟨p, q, hA0, hV, rfl, hfz, hnd⟩ := hW
  have hA : DataW.TrodAll enc Try.prog W 0 (fun _ => true) true Try.f7.params.toList args.toList ds p := hA0
  rw [Try.params7] at hA hval
  obtain ⟨v0, l0, d0, e0, p0, q0, ha0, rfl, rfl, h0, r0⟩ := trodAll_cons hA
  obtain ⟨rfl, rfl, rfl⟩ := trodAll_nil r0
  obtain rfl : args = #[v0] := by cases args; simp_all
  obtain ⟨rfl, rfl⟩ := trodVars_none hV
  obtain ⟨⟨lo⟩, rfl, _⟩ := okWide_struct Try.underlying34 (hval 0 34 v0 rfl rfl); obtain ⟨o, hx0⟩ := open_any (t := tyOp08) (T := 34) (by kernel_rfl) h0; have hy0 : tyOp08.Is _ _ o lo := hx0
  obtain ⟨kd, i, n, b, bA, bn, bc, ke, kA, kn, kc, kv, torn, cut, rfl, rfl, _⟩ := Op08_out hy0
  refine (sectorNobody_walk kd i n bA bn bc kA kn kc torn cut W).mono fun e W' ⟨he, hb⟩ => ?_
  subst he
  exact ⟨_, rfl, law_post laidOut rfl rfl Try.underlying4 (fun t ht => (show ∀ t ∈ Try.f7.params.toList, Try.prog.readableRec t = true ∧ t < Try.prog.types.size from by decide +kernel) t ht) hW' rfl hb⟩

theorem sectorNobody_holds : Rows.SectorNobodySaid :=
  OpenClaim.holds_of_wide 7 Try.f7 rfl rfl rfl rfl rfl rfl rfl ⟨rfl, rfl, rfl, rfl, rfl⟩ rfl rfl rfl rfl rfl (by kernel_rfl) Try.func7 (by kernel_rfl)
    (of_decide_eq_true (by kernel_rfl)) (by unfold Func.isWrapper; first | (rw [if_pos (by decide +kernel)]; kernel_rfl) | (rw [if_neg (by decide +kernel)]; exact ⟨rfl, rfl⟩))
    (fun os started H enc _ => sectorNobody_lifted os started H enc)
end Go.Proofs.Ytdianokikhggnaa
