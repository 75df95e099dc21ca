/- For every input the law BlockResults returns true, and each argument reads afterwards as it read before. No condition. -/
import Derived.Test.YtabglphiafeheaaRows
import Derived.Test.YtabglphiafeheaaF04x
import Derived.Test.YtabglphiafeheaaArg
import Derived.Test.YtabglphiafeheaaGrp
import Derived.Test.YtabglphiafeheaaFrm
namespace Go.Proofs.Ytabglphiafeheaa
open Go.ChangeShapes Go.WideShapes Go.ChangeAt Go.RowKit Go.Px Go.Joins
set_option linter.unusedVariables false

set_option maxRecDepth 100000 in
theorem blockResults_lifted (os : Os) (started : os.Started) (H : Type) (enc : TypeId × Value → H) :
    ReturnsInHanded {} Try.checked os 6 .any (Rows.blockResultsSpec.pre6 enc Try.prog Try.f6 Rows.blockResultsRow.domain false) (Rows.blockResultsSpec.post enc Try.prog Try.f6 false true false false) := by
  refine returnsInHanded_of_change_sized (C := Try.checked) own started (by kernel_rfl) Try.func6
    (ChangeSpec.witness6 (enc := enc) (C := Try.checked) false ⟨#[], #[.agg #[.int .u8 0, .slice none 0 0], .slice none 0 0], []⟩ 8 (by kernel_rfl) (by kernel_rfl) (by kernel_rfl) (by kernel_rfl)) ?_
  intro W base args ds gs before hval0 hW _ hsz _
  have hval : ∀ (j : Nat) t v, Try.f6.params[j]? = some t → args[j]? = some v → Value.okWide Try.prog W .any base t v := hval0
  have hW' := hW
  obtain ⟨p, q, hA0, hV, rfl, hfz, hnd⟩ := hW
  have hA : DataW.TrodAll enc Try.prog W 0 (fun _ => true) true Try.f6.params.toList args.toList ds p := hA0
  rw [Try.params6] at hA hval
  obtain ⟨v0, l0, d0, e0, p0, q0, ha0, rfl, rfl, h0, r0⟩ := trodAll_cons hA
  obtain ⟨v1, l1, d1, e1, p1, q1, rfl, rfl, rfl, h1, r1⟩ := trodAll_cons r0
  obtain ⟨rfl, rfl, rfl⟩ := trodAll_nil r1
  obtain rfl : args = #[v0, v1] := by cases args; simp_all
  obtain ⟨rfl, rfl⟩ := trodVars_none hV
  obtain ⟨cs0, rfl, hcs0, nn0, hf0⟩ := open_byfields Try.underlying30 (by kernel_rfl) (by kernel_rfl) (hval 0 30 v0 rfl rfl) h0
  obtain ⟨c00, t00, q00, k00⟩ := hf0 0 _ rfl
  obtain ⟨c01, t01, q01, k01⟩ := hf0 1 _ rfl
  obtain rfl := arr2 hcs0 q00 q01
  obtain ⟨k, rfl, hu_k⟩ := open_u8F Try.underlying28 k00
  obtain ⟨D, d, dc, ds, rfl, hl_D, hc_D, hm_D, hr_D⟩ := open_bytesF Try.underlying25 Try.underlying5 (by kernel_rfl) k01
  obtain ⟨A, m, c, bs, rfl, hn1, hnc1, hc1, hr1⟩ := open_bytes Try.underlying25 Try.underlying5 (by kernel_rfl) (hval 1 25 v1 rfl rfl) h1
  have hl1 := lo_of_ok Try.underlying25 (hval 1 25 _ rfl rfl)
  have hz1 := bytes_reach Try.underlying25 Try.underlying5 (by kernel_rfl) (by kernel_rfl) h1 (weights_at hsz (j := 1) rfl rfl)
  refine (blockResults_walk k D d dc ds A m c bs W hu_k hl_D hr_D hn1 hnc1 (by omega) hc1 hr1 hl1).mono fun e W' ⟨he, hb⟩ => ?_
  subst he
  exact ⟨_, rfl, law_post laidOut rfl rfl Try.underlying4 (fun t ht => (show ∀ t ∈ Try.f6.params.toList, Try.prog.readableRec t = true ∧ t < Try.prog.types.size from by decide +kernel) t ht) hW' rfl hb⟩

theorem blockResults_holds : Rows.BlockResultsSaid :=
  OpenClaim.holds_of_wide 6 Try.f6 rfl rfl rfl rfl rfl rfl rfl ⟨rfl, rfl, rfl, rfl, rfl⟩ rfl rfl rfl rfl rfl (by kernel_rfl) Try.func6 (by kernel_rfl)
    (of_decide_eq_true (by kernel_rfl)) (by unfold Func.isWrapper; first | (rw [if_pos (by decide +kernel)]; kernel_rfl) | (rw [if_neg (by decide +kernel)]; exact ⟨rfl, rfl⟩))
    (fun os started H enc _ => blockResults_lifted os started H enc)
end Go.Proofs.Ytabglphiafeheaa
