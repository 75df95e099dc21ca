/- For every input within the form's reach the law ProxyAsks returns true, and each argument reads afterwards as it read before. -/
import Derived.Test.YtlcbelmbonaooaaRows
import Derived.Test.YtlcbelmbonaooaaW24a
import Derived.Test.YtlcbelmbonaooaaR24
namespace Go.Proofs.Ytlcbelmbonaooaa
set_option maxRecDepth 20000
open Go.ChangeShapes Go.WideShapes Go.ChangeAt Go.RowKit Go.Px Go.Joins Go.Deep
set_option linter.unusedVariables false

set_option maxRecDepth 100000 in
theorem proxyAsks_lifted (os : Os) (started : os.Started) (H : Type) (enc : TypeId × Value → H) :
    ReturnsInHanded {} Try.checked os 4 .any (Rows.proxyAsksSpec.pre6 enc Try.prog Try.f4 Rows.proxyAsksRow.domain false) (Rows.proxyAsksSpec.post enc Try.prog Try.f4 false true false false) := by
  refine returnsInHanded_of_change_sized (C := Try.checked) own started (by kernel_rfl) Try.func4
    (ChangeSpec.witness6 (enc := enc) (C := Try.checked) false ⟨#[], #[.agg #[.int .i64 0, .int .i64 0, .slice none 0 0, .int .i64 0, .int .i64 0, .bool false, .int .u8 0, .int .i64 0, .int .i64 0, .slice none 0 0, .slice none 0 0, .int .i64 0, .slice none 0 0, .int .i64 0], .agg #[.int .u8 0, .int .i64 0, .int .i64 0, .slice none 0 0, .slice none 0 0], .agg #[.int .i64 0, .slice none 0 0]], []⟩ 8 (by kernel_rfl) (by kernel_rfl) (by kernel_rfl) (by kernel_rfl)) ?_
  intro W base args ds gs before hval0 hW _ hsz _
  have hval : ∀ (j : Nat) t v, Try.f4.params[j]? = some t → args[j]? = some v → Value.okWide Try.prog W .any base t v := hval0
  have hW' := hW
  obtain ⟨p, q, hA0, hV, rfl, hfz, hnd⟩ := hW
  have hA : DataW.TrodAll enc Try.prog W 0 (fun _ => true) true Try.f4.params.toList args.toList ds p := hA0
  rw [Try.params4] at hA hval
  obtain ⟨v0, l0, d0, e0, p0, q0, ha0, rfl, rfl, h0, r0⟩ := trodAll_cons hA
  obtain ⟨v1, l1, d1, e1, p1, q1, rfl, rfl, rfl, h1, r1⟩ := trodAll_cons r0
  obtain ⟨v2, l2, d2, e2, p2, q2, rfl, rfl, rfl, h2, r2⟩ := trodAll_cons r1
  obtain ⟨rfl, rfl, rfl⟩ := trodAll_nil r2
  obtain rfl : args = #[v0, v1, v2] := by cases args; simp_all
  obtain ⟨rfl, rfl⟩ := trodVars_none hV
  have L0 := light_any (t := tyProxy) (T := 30) (by kernel_rfl) (by kernel_rfl) h0 (weights_at hsz (j := 0) rfl rfl)
  have L1 := light_any (t := tyOp) (T := 28) (by kernel_rfl) (by kernel_rfl) h1 (weights_at hsz (j := 1) rfl rfl)
  have L2 := light_any (t := tyGroup) (T := 24) (by kernel_rfl) (by kernel_rfl) h2 (weights_at hsz (j := 2) rfl rfl)
  obtain ⟨⟨lpa⟩, rfl, _⟩ := okWide_struct Try.underlying30 (hval 0 30 v0 rfl rfl); obtain ⟨pa, hx0⟩ := open_any (t := tyProxy) (T := 30) (by kernel_rfl) h0; have hy0 : tyProxy.Is _ _ pa lpa := hx0
  obtain ⟨⟨loq⟩, rfl, _⟩ := okWide_struct Try.underlying28 (hval 1 28 v1 rfl rfl); obtain ⟨oq, hx1⟩ := open_any (t := tyOp) (T := 28) (by kernel_rfl) h1; have hy1 : tyOp.Is _ _ oq loq := hx1
  obtain ⟨⟨lgr⟩, rfl, _⟩ := okWide_struct Try.underlying24 (hval 2 24 v2 rfl rfl); obtain ⟨gr, hx2⟩ := open_any (t := tyGroup) (T := 24) (by kernel_rfl) h2; have hy2 : tyGroup.Is _ _ gr lgr := hx2
  refine (proxyAsks_walk hy0 hy1 hy2 (rchP_of hy0 L0) (rch_two (opLen_of hy1 L1) (grLen_of hy2 L2))).mono fun e W' ⟨he, hb⟩ => ?_
  subst he
  exact ⟨_, rfl, law_post laidOut rfl rfl Try.underlying4 (fun t ht => (show ∀ t ∈ Try.f4.params.toList, Try.prog.readableRec t = true ∧ t < Try.prog.types.size from by decide +kernel) t ht) hW' rfl hb⟩

theorem proxyAsks_holds : Rows.ProxyAsksSaid :=
  OpenClaim.holds_of_wide 4 Try.f4 rfl rfl rfl rfl rfl rfl rfl ⟨rfl, rfl, rfl, rfl, rfl⟩ rfl rfl rfl rfl rfl (by kernel_rfl) Try.func4 (by kernel_rfl)
    (of_decide_eq_true (by kernel_rfl)) (by unfold Func.isWrapper; first | (rw [if_pos (by decide +kernel)]; kernel_rfl) | (rw [if_neg (by decide +kernel)]; exact ⟨rfl, rfl⟩))
    (fun os started H enc _ => proxyAsks_lifted os started H enc)
end Go.Proofs.Ytlcbelmbonaooaa
