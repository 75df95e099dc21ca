/- For every input within the form's reach the law ChooseKeeps returns true, and each argument reads afterwards as it read before. -/
import Derived.Test.YtfjffmjnnjckkaaRows
import Derived.Test.YtfjffmjnnjckkaaW17k
import Derived.Test.YtfjffmjnnjckkaaSup19
namespace Go.Proofs.Ytfjffmjnnjckkaa
set_option maxRecDepth 20000
open Go.ChangeShapes Go.WideShapes Go.ChangeAt Go.RowKit Go.Px Go.Joins Go.Deep
set_option linter.unusedVariables false

set_option maxRecDepth 100000 in
theorem chooseKeeps_lifted (os : Os) (started : os.Started) (H : Type) (enc : TypeId × Value → H) :
    ReturnsInHanded {} Try.checked os 5 .any (Rows.chooseKeepsSpec.pre6 enc Try.prog Try.f5 Rows.chooseKeepsRow.domain false) (Rows.chooseKeepsSpec.post enc Try.prog Try.f5 false true false false) := by
  refine returnsInHanded_of_change_sized (C := Try.checked) own started (by kernel_rfl) Try.func5
    (ChangeSpec.witness6 (enc := enc) (C := Try.checked) false ⟨#[], #[.agg #[.int .i64 0, .slice none 0 0], .slice none 0 0, .slice none 0 0, .agg #[.int .u8 0, .int .i64 0, .int .i64 0, .int .i64 0, .int .i64 0, .int .u8 0, .int .i64 0, .int .i64 0, .slice none 0 0, .slice none 0 0, .int .i64 0, .slice none 0 0]], []⟩ 8 (by kernel_rfl) (by kernel_rfl) (by kernel_rfl) (by kernel_rfl)) ?_
  intro W base args ds gs before hval0 hW _ hsz _
  have hval : ∀ (j : Nat) t v, Try.f5.params[j]? = some t → args[j]? = some v → Value.okWide Try.prog W .any base t v := hval0
  have hW' := hW
  obtain ⟨p, q, hA0, hV, rfl, hfz, hnd⟩ := hW
  have hA : DataW.TrodAll enc Try.prog W 0 (fun _ => true) true Try.f5.params.toList args.toList ds p := hA0
  rw [Try.params5] at hA hval
  obtain ⟨v0, l0, d0, e0, p0, q0, ha0, rfl, rfl, h0, r0⟩ := trodAll_cons hA
  obtain ⟨v1, l1, d1, e1, p1, q1, rfl, rfl, rfl, h1, r1⟩ := trodAll_cons r0
  obtain ⟨v2, l2, d2, e2, p2, q2, rfl, rfl, rfl, h2, r2⟩ := trodAll_cons r1
  obtain ⟨v3, l3, d3, e3, p3, q3, rfl, rfl, rfl, h3, r3⟩ := trodAll_cons r2
  obtain ⟨rfl, rfl, rfl⟩ := trodAll_nil r3
  obtain rfl : args = #[v0, v1, v2, v3] := by cases args; simp_all
  obtain ⟨rfl, rfl⟩ := trodVars_none hV
  obtain ⟨⟨lg⟩, rfl, _⟩ := okWide_struct Try.underlying28 (hval 0 28 v0 rfl rfl); obtain ⟨g, hx0⟩ := open_any (t := tyGroup) (T := 28) (by kernel_rfl) h0; have hy0 : tyGroup.Is _ _ g lg := hx0
  obtain ⟨gEpoch, gMembers, gMembersA, gMembersn, gMembersc, gMembersv, rfl, rfl, h1_gEpoch, h2_gEpoch, hl_gMembers, hc_gMembers, hm_gMembers, hr_gMembers, hq_gMembers, he_gMembers⟩ := Group_out hy0
  obtain ⟨tA, tn, tc, rfl⟩ := okWide_slice Try.underlying35 (hval 1 35 v1 rfl rfl); obtain ⟨t, hx1⟩ := open_any (t := (.row tyTail)) (T := 35) (by kernel_rfl) h1; obtain ⟨tv, hl_t, hc_t, hm_t, hr_t, hq_t, he_t⟩ := row_out hx1
  obtain ⟨fA, fn, fc, rfl⟩ := okWide_slice Try.underlying26 (hval 2 26 v2 rfl rfl); obtain ⟨f, hx2⟩ := open_any (t := (.row .i64)) (T := 26) (by kernel_rfl) h2; obtain ⟨fv, hl_f, hc_f, hm_f, hr_f, hq_f, he_f⟩ := row_out hx2
  obtain ⟨⟨le⟩, rfl, _⟩ := okWide_struct Try.underlying58 (hval 3 58 v3 rfl rfl); obtain ⟨e, hx3⟩ := open_any (t := tyEntry) (T := 58) (by kernel_rfl) h3; have hy3 : tyEntry.Is _ _ e le := hx3
  obtain ⟨hgi, _⟩ := i64rows he_gMembers
  subst hgi
  obtain ⟨hfi, _⟩ := i64rows he_f
  subst hfi
  have hz := rows_reach Try.underlying35 (b := 152) (by kernel_rfl) h1 (weights_at hsz (j := 1) rfl rfl)
  refine (chooseKeeps_walk gEpoch gMembersA gMembersn gMembersc gMembers fA fn fc f hl_gMembers hr_gMembers (rowAt_of (by decide) hl_t hr_t he_t) (by omega) hl_f (by omega) hr_f hy3).mono fun e W' ⟨he, hb⟩ => ?_
  subst he
  exact ⟨_, rfl, law_post laidOut rfl rfl Try.underlying4 (fun t ht => (show ∀ t ∈ Try.f5.params.toList, Try.prog.readableRec t = true ∧ t < Try.prog.types.size from by decide +kernel) t ht) hW' rfl hb⟩

theorem chooseKeeps_holds : Rows.ChooseKeepsSaid :=
  OpenClaim.holds_of_wide 5 Try.f5 rfl rfl rfl rfl rfl rfl rfl ⟨rfl, rfl, rfl, rfl, rfl⟩ rfl rfl rfl rfl rfl (by kernel_rfl) Try.func5 (by kernel_rfl)
    (of_decide_eq_true (by kernel_rfl)) (by unfold Func.isWrapper; first | (rw [if_pos (by decide +kernel)]; kernel_rfl) | (rw [if_neg (by decide +kernel)]; exact ⟨rfl, rfl⟩))
    (fun os started H enc _ => chooseKeeps_lifted os started H enc)
end Go.Proofs.Ytfjffmjnnjckkaa
