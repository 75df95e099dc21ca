/- For every input the law BlockOps returns true, and each argument reads afterwards as it read before. No condition. -/
import Derived.Test.YtabglphiafeheaaRows
import Derived.Test.YtabglphiafeheaaF04t
import Derived.Test.YtabglphiafeheaaArg
import Derived.Test.YtabglphiafeheaaGrp
import Derived.Test.YtabglphiafeheaaFrm
namespace Go.Proofs.Ytabglphiafeheaa
open Go.ChangeShapes Go.WideShapes Go.ChangeAt Go.RowKit Go.Px Go.Joins
set_option linter.unusedVariables false

set_option maxRecDepth 100000 in
theorem blockOps_lifted (os : Os) (started : os.Started) (H : Type) (enc : TypeId × Value → H) :
    ReturnsInHanded {} Try.checked os 5 .any (Rows.blockOpsSpec.pre6 enc Try.prog Try.f5 Rows.blockOpsRow.domain false) (Rows.blockOpsSpec.post enc Try.prog Try.f5 false true false false) := by
  refine returnsInHanded_of_change_sized (C := Try.checked) own started (by kernel_rfl) Try.func5
    (ChangeSpec.witness6 (enc := enc) (C := Try.checked) false ⟨#[], #[.agg #[.int .u8 0, .int .i64 0, .int .i64 0, .slice none 0 0, .slice none 0 0], .slice none 0 0], []⟩ 8 (by kernel_rfl) (by kernel_rfl) (by kernel_rfl) (by kernel_rfl)) ?_
  intro W base args ds gs before hval0 hW _ hsz _
  have hval : ∀ (j : Nat) t v, Try.f5.params[j]? = some t → args[j]? = some v → Value.okWide Try.prog W .any base t v := hval0
  have hW' := hW
  obtain ⟨p, q, hA0, hV, rfl, hfz, hnd⟩ := hW
  have hA : DataW.TrodAll enc Try.prog W 0 (fun _ => true) true Try.f5.params.toList args.toList ds p := hA0
  rw [Try.params5] at hA hval
  obtain ⟨v0, l0, d0, e0, p0, q0, ha0, rfl, rfl, h0, r0⟩ := trodAll_cons hA
  obtain ⟨v1, l1, d1, e1, p1, q1, rfl, rfl, rfl, h1, r1⟩ := trodAll_cons r0
  obtain ⟨rfl, rfl, rfl⟩ := trodAll_nil r1
  obtain rfl : args = #[v0, v1] := by cases args; simp_all
  obtain ⟨rfl, rfl⟩ := trodVars_none hV
  obtain ⟨cs0, rfl, hcs0, nn0, hf0⟩ := open_byfields Try.underlying27 (by kernel_rfl) (by kernel_rfl) (hval 0 27 v0 rfl rfl) h0
  obtain ⟨c00, t00, q00, k00⟩ := hf0 0 _ rfl
  obtain ⟨c01, t01, q01, k01⟩ := hf0 1 _ rfl
  obtain ⟨c02, t02, q02, k02⟩ := hf0 2 _ rfl
  obtain ⟨c03, t03, q03, k03⟩ := hf0 3 _ rfl
  obtain ⟨c04, t04, q04, k04⟩ := hf0 4 _ rfl
  obtain rfl := arr5 hcs0 q00 q01 q02 q03 q04
  obtain ⟨k, rfl, hu_k⟩ := open_u8F Try.underlying24 k00
  obtain ⟨p, rfl, h1_p, h2_p⟩ := open_i64F Try.underlying3 k01
  obtain ⟨n, rfl, h1_n, h2_n⟩ := open_i64F Try.underlying3 k02
  obtain ⟨D, d, dc, ds, rfl, hl_D, hc_D, hm_D, hr_D⟩ := open_bytesF Try.underlying25 Try.underlying5 (by kernel_rfl) k03
  obtain ⟨O, o, oc, xs, rfl, hl_O, hc_O, hm_O, hr_O⟩ := open_bytesF Try.underlying25 Try.underlying5 (by kernel_rfl) k04
  obtain ⟨A, m, c, bs, rfl, hn1, hnc1, hc1, hr1⟩ := open_bytes Try.underlying25 Try.underlying5 (by kernel_rfl) (hval 1 25 v1 rfl rfl) h1
  have hl1 := lo_of_ok Try.underlying25 (hval 1 25 _ rfl rfl)
  have hz1 := bytes_reach Try.underlying25 Try.underlying5 (by kernel_rfl) (by kernel_rfl) h1 (weights_at hsz (j := 1) rfl rfl)
  refine (blockOps_walk k p n D d dc ds O o oc xs A m c bs W hu_k hl_D hl_O hr_D hr_O hn1 hnc1 (by omega) hc1 hr1 hl1).mono fun e W' ⟨he, hb⟩ => ?_
  subst he
  exact ⟨_, rfl, law_post laidOut rfl rfl Try.underlying4 (fun t ht => (show ∀ t ∈ Try.f5.params.toList, Try.prog.readableRec t = true ∧ t < Try.prog.types.size from by decide +kernel) t ht) hW' rfl hb⟩

theorem blockOps_holds : Rows.BlockOpsSaid :=
  OpenClaim.holds_of_wide 5 Try.f5 rfl rfl rfl rfl rfl rfl rfl ⟨rfl, rfl, rfl, rfl, rfl⟩ rfl rfl rfl rfl rfl (by kernel_rfl) Try.func5 (by kernel_rfl)
    (of_decide_eq_true (by kernel_rfl)) (by unfold Func.isWrapper; first | (rw [if_pos (by decide +kernel)]; kernel_rfl) | (rw [if_neg (by decide +kernel)]; exact ⟨rfl, rfl⟩))
    (fun os started H enc _ => blockOps_lifted os started H enc)
end Go.Proofs.Ytabglphiafeheaa
