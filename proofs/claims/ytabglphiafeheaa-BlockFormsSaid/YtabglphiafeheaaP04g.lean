/- For every input the law BlockForms returns true, and each argument reads afterwards as it read before. No condition. -/
import Derived.Test.YtabglphiafeheaaRows
import Derived.Test.YtabglphiafeheaaF04p
import Derived.Test.YtabglphiafeheaaAgg
import Derived.Test.YtabglphiafeheaaGrp
import Derived.Test.YtabglphiafeheaaFrm
namespace Go.Proofs.Ytabglphiafeheaa
open Go.ChangeShapes Go.WideShapes Go.ChangeAt Go.RowKit Go.Px Go.Joins
set_option linter.unusedVariables false

set_option maxRecDepth 100000 in
theorem blockForms_lifted (os : Os) (started : os.Started) (H : Type) (enc : TypeId × Value → H) :
    ReturnsInHanded {} Try.checked os 3 .any (Rows.blockFormsSpec.pre6 enc Try.prog Try.f3 Rows.blockFormsRow.domain false) (Rows.blockFormsSpec.post enc Try.prog Try.f3 false true false false) := by
  refine returnsInHanded_of_change (C := Try.checked) own started (by kernel_rfl) Try.func3
    (ChangeSpec.witness6 (enc := enc) (C := Try.checked) false ⟨#[], #[.agg #[.int .i64 0, .int .i64 0], .agg #[.int .u8 0, .int .i64 0, .int .i64 0, .slice none 0 0, .slice none 0 0], .agg #[.int .u8 0, .int .i64 0, .int .i64 0, .slice none 0 0, .slice none 0 0], .agg #[.int .u8 0, .slice none 0 0]], []⟩ 8 (by kernel_rfl) (by kernel_rfl) (by kernel_rfl) (by kernel_rfl)) ?_
  intro W base args ds gs before hval0 hW _ hweigh
  have hval : ∀ (j : Nat) t v, Try.f3.params[j]? = some t → args[j]? = some v → Value.okWide Try.prog W .any base t v := hval0
  have hW' := hW
  obtain ⟨p, q, hA0, hV, rfl, hfz, hnd⟩ := hW
  have hA : DataW.TrodAll enc Try.prog W 0 (fun _ => true) true Try.f3.params.toList args.toList ds p := hA0
  rw [Try.params3] at hA hval
  obtain ⟨v0, l0, d0, e0, p0, q0, ha0, rfl, rfl, h0, r0⟩ := trodAll_cons hA
  obtain ⟨v1, l1, d1, e1, p1, q1, rfl, rfl, rfl, h1, r1⟩ := trodAll_cons r0
  obtain ⟨v2, l2, d2, e2, p2, q2, rfl, rfl, rfl, h2, r2⟩ := trodAll_cons r1
  obtain ⟨v3, l3, d3, e3, p3, q3, rfl, rfl, rfl, h3, r3⟩ := trodAll_cons r2
  obtain ⟨rfl, rfl, rfl⟩ := trodAll_nil r3
  obtain rfl : args = #[v0, v1, v2, v3] := by cases args; simp_all
  obtain ⟨rfl, rfl⟩ := trodVars_none hV
  obtain ⟨cs0, rfl, hcs0, nn0, hf0⟩ := open_byfields Try.underlying23 (by kernel_rfl) (by kernel_rfl) (hval 0 23 v0 rfl rfl) h0
  obtain ⟨c00, t00, q00, k00⟩ := hf0 0 _ rfl
  obtain ⟨c01, t01, q01, k01⟩ := hf0 1 _ rfl
  obtain rfl := arr2 hcs0 q00 q01
  obtain ⟨b, rfl, h1_b, h2_b⟩ := open_i64F Try.underlying3 k00
  obtain ⟨z, rfl, h1_z, h2_z⟩ := open_i64F Try.underlying3 k01
  obtain ⟨cs1, rfl, hcs1, nn1, hf1⟩ := open_byfields Try.underlying27 (by kernel_rfl) (by kernel_rfl) (hval 1 27 v1 rfl rfl) h1
  obtain ⟨c10, t10, q10, k10⟩ := hf1 0 _ rfl
  obtain ⟨c11, t11, q11, k11⟩ := hf1 1 _ rfl
  obtain ⟨c12, t12, q12, k12⟩ := hf1 2 _ rfl
  obtain ⟨c13, t13, q13, k13⟩ := hf1 3 _ rfl
  obtain ⟨c14, t14, q14, k14⟩ := hf1 4 _ rfl
  obtain rfl := arr5 hcs1 q10 q11 q12 q13 q14
  obtain ⟨k, rfl, hu_k⟩ := open_u8F Try.underlying24 k10
  obtain ⟨p, rfl, h1_p, h2_p⟩ := open_i64F Try.underlying3 k11
  obtain ⟨n, rfl, h1_n, h2_n⟩ := open_i64F Try.underlying3 k12
  obtain ⟨D, d, dc, ds, rfl, hl_D, hc_D, hm_D, hr_D⟩ := open_bytesF Try.underlying25 Try.underlying5 (by kernel_rfl) k13
  obtain ⟨O, o, oc, xs, rfl, hl_O, hc_O, hm_O, hr_O⟩ := open_bytesF Try.underlying25 Try.underlying5 (by kernel_rfl) k14
  obtain ⟨cs2, rfl, hcs2, nn2, hf2⟩ := open_byfields Try.underlying27 (by kernel_rfl) (by kernel_rfl) (hval 2 27 v2 rfl rfl) h2
  obtain ⟨c20, t20, q20, k20⟩ := hf2 0 _ rfl
  obtain ⟨c21, t21, q21, k21⟩ := hf2 1 _ rfl
  obtain ⟨c22, t22, q22, k22⟩ := hf2 2 _ rfl
  obtain ⟨c23, t23, q23, k23⟩ := hf2 3 _ rfl
  obtain ⟨c24, t24, q24, k24⟩ := hf2 4 _ rfl
  obtain rfl := arr5 hcs2 q20 q21 q22 q23 q24
  obtain ⟨k', rfl, hu_k'⟩ := open_u8F Try.underlying24 k20
  obtain ⟨p', rfl, h1_p', h2_p'⟩ := open_i64F Try.underlying3 k21
  obtain ⟨n', rfl, h1_n', h2_n'⟩ := open_i64F Try.underlying3 k22
  obtain ⟨D', d', dc', ds', rfl, hl_D', hc_D', hm_D', hr_D'⟩ := open_bytesF Try.underlying25 Try.underlying5 (by kernel_rfl) k23
  obtain ⟨O', o', oc', xs', rfl, hl_O', hc_O', hm_O', hr_O'⟩ := open_bytesF Try.underlying25 Try.underlying5 (by kernel_rfl) k24
  obtain ⟨cs3, rfl, hcs3, nn3, hf3⟩ := open_byfields Try.underlying30 (by kernel_rfl) (by kernel_rfl) (hval 3 30 v3 rfl rfl) h3
  obtain ⟨c30, t30, q30, k30⟩ := hf3 0 _ rfl
  obtain ⟨c31, t31, q31, k31⟩ := hf3 1 _ rfl
  obtain rfl := arr2 hcs3 q30 q31
  obtain ⟨rk, rfl, hu_rk⟩ := open_u8F Try.underlying28 k30
  obtain ⟨R, rd, rc, rs, rfl, hl_R, hc_R, hm_R, hr_R⟩ := open_bytesF Try.underlying25 Try.underlying5 (by kernel_rfl) k31
  refine (blockForms_walk b z k p n D d dc ds O o oc xs k' p' n' D' d' dc' ds' O' o' oc' xs' rk R rd rc W hu_k hu_k' hu_rk hl_D hl_O hl_D' hl_O' hr_D hr_O hr_D' hr_O').mono fun e W' ⟨he, hb⟩ => ?_
  subst he
  exact ⟨_, rfl, law_post laidOut rfl rfl Try.underlying4 (fun t ht => (show ∀ t ∈ Try.f3.params.toList, Try.prog.readableRec t = true ∧ t < Try.prog.types.size from by decide +kernel) t ht) hW' rfl hb⟩

theorem blockForms_holds : Rows.BlockFormsSaid :=
  OpenClaim.holds_of_wide 3 Try.f3 rfl rfl rfl rfl rfl rfl rfl ⟨rfl, rfl, rfl, rfl, rfl⟩ rfl rfl rfl rfl rfl (by kernel_rfl) Try.func3 (by kernel_rfl)
    (of_decide_eq_true (by kernel_rfl)) (by unfold Func.isWrapper; first | (rw [if_pos (by decide +kernel)]; kernel_rfl) | (rw [if_neg (by decide +kernel)]; exact ⟨rfl, rfl⟩))
    (fun os started H enc _ => blockForms_lifted os started H enc)
end Go.Proofs.Ytabglphiafeheaa
