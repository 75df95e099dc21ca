/- For every input the law SectorFast returns true, and each argument reads afterwards as it read before. No condition. -/
import Derived.Test.YtdianokikhggnaaRows
import Derived.Test.YtdianokikhggnaaW08f
import Derived.Test.YtdianokikhggnaaArg
import Derived.Test.YtdianokikhggnaaAgg
import Derived.Test.YtdianokikhggnaaGrp
import Derived.Test.YtdianokikhggnaaFrm
namespace Go.Proofs.Ytdianokikhggnaa
set_option maxRecDepth 20000
open Go.ChangeShapes Go.WideShapes Go.ChangeAt Go.RowKit Go.Px Go.Joins Go.Deep
set_option linter.unusedVariables false

set_option maxRecDepth 100000 in
theorem sectorFast_lifted (os : Os) (started : os.Started) (H : Type) (enc : TypeId × Value → H) :
    ReturnsInHanded {} Try.checked os 4 .any (Rows.sectorFastSpec.pre6 enc Try.prog Try.f4 Rows.sectorFastRow.domain false) (Rows.sectorFastSpec.post enc Try.prog Try.f4 false true false false) := by
  refine returnsInHanded_of_change (C := Try.checked) own started (by kernel_rfl) Try.func4
    (ChangeSpec.witness6 (enc := enc) (C := Try.checked) false ⟨#[], #[.int .i64 0, .int .i64 0, .slice none 0 0, .slice none 0 0, .agg #[.slice none 0 0, .int .i64 0, .int .i64 0]], []⟩ 8 (by kernel_rfl) (by kernel_rfl) (by kernel_rfl) (by kernel_rfl)) ?_
  intro W base args ds gs before hval0 hW _ hweigh
  have hval : ∀ (j : Nat) t v, Try.f4.params[j]? = some t → args[j]? = some v → Value.okWide Try.prog W .any base t v := hval0
  have hW' := hW
  obtain ⟨p, q, hA0, hV, rfl, hfz, hnd⟩ := hW
  have hA : DataW.TrodAll enc Try.prog W 0 (fun _ => true) true Try.f4.params.toList args.toList ds p := hA0
  rw [Try.params4] at hA hval
  obtain ⟨v0, l0, d0, e0, p0, q0, ha0, rfl, rfl, h0, r0⟩ := trodAll_cons hA
  obtain ⟨v1, l1, d1, e1, p1, q1, rfl, rfl, rfl, h1, r1⟩ := trodAll_cons r0
  obtain ⟨v2, l2, d2, e2, p2, q2, rfl, rfl, rfl, h2, r2⟩ := trodAll_cons r1
  obtain ⟨v3, l3, d3, e3, p3, q3, rfl, rfl, rfl, h3, r3⟩ := trodAll_cons r2
  obtain ⟨v4, l4, d4, e4, p4, q4, rfl, rfl, rfl, h4, r4⟩ := trodAll_cons r3
  obtain ⟨rfl, rfl, rfl⟩ := trodAll_nil r4
  obtain rfl : args = #[v0, v1, v2, v3, v4] := by cases args; simp_all
  obtain ⟨rfl, rfl⟩ := trodVars_none hV
  obtain ⟨n, rfl, rfl, rfl, w0⟩ := open_int Try.underlying3 (hval 0 3 v0 rfl rfl) h0
  have hi0 := wf_i64 w0
  obtain ⟨s, rfl, rfl, rfl, w1⟩ := open_int Try.underlying3 (hval 1 3 v1 rfl rfl) h1
  have hi1 := wf_i64 w1
  obtain ⟨oA, on, oc, rfl⟩ := okWide_slice Try.underlying22 (hval 2 22 v2 rfl rfl); obtain ⟨o, hx2⟩ := open_any (t := (.row tyOp08)) (T := 22) (by kernel_rfl) h2; obtain ⟨ov, hl_o, hc_o, hm_o, hr_o, hq_o, he_o⟩ := row_out hx2
  obtain ⟨qA, qn, qc, rfl⟩ := okWide_slice Try.underlying22 (hval 3 22 v3 rfl rfl); obtain ⟨q, hx3⟩ := open_any (t := (.row tyOp08)) (T := 22) (by kernel_rfl) h3; obtain ⟨qv, hl_q, hc_q, hm_q, hr_q, hq_q, he_q⟩ := row_out hx3
  obtain ⟨⟨lc⟩, rfl, _⟩ := okWide_struct Try.underlying32 (hval 4 32 v4 rfl rfl); obtain ⟨c, hx4⟩ := open_any (t := tyCrash) (T := 32) (by kernel_rfl) h4; have hy4 : tyCrash.Is _ _ c lc := hx4
  obtain ⟨cKeep, cKeepA, cKeepn, cKeepc, cKeepv, cTorn, cCut, rfl, rfl, hl_cKeep, hc_cKeep, hm_cKeep, hr_cKeep, hq_cKeep, he_cKeep, h1_cTorn, h2_cTorn, h1_cCut, h2_cCut⟩ := Crash_out hy4
  obtain rfl := blsrows he_cKeep
  refine (sectorFast_walk n s oA on oc o ov qA qn qc q qv cKeepA cKeepn cKeepc cKeep cTorn cCut W (rowAt_of (by decide) hl_o hr_o he_o) (rowAt_of (by decide) hl_q hr_q he_q) h1_cCut h2_cCut hl_cKeep (by omega) hr_cKeep (fun hne a ha => hq_cKeep (fun e => hne (by rw [e]; rfl)) a ha)).mono fun e W' ⟨he, hb⟩ => ?_
  subst he
  exact ⟨_, rfl, law_post laidOut rfl rfl Try.underlying4 (fun t ht => (show ∀ t ∈ Try.f4.params.toList, Try.prog.readableRec t = true ∧ t < Try.prog.types.size from by decide +kernel) t ht) hW' rfl hb⟩

theorem sectorFast_holds : Rows.SectorFastSaid :=
  OpenClaim.holds_of_wide 4 Try.f4 rfl rfl rfl rfl rfl rfl rfl ⟨rfl, rfl, rfl, rfl, rfl⟩ rfl rfl rfl rfl rfl (by kernel_rfl) Try.func4 (by kernel_rfl)
    (of_decide_eq_true (by kernel_rfl)) (by unfold Func.isWrapper; first | (rw [if_pos (by decide +kernel)]; kernel_rfl) | (rw [if_neg (by decide +kernel)]; exact ⟨rfl, rfl⟩))
    (fun os started H enc _ => sectorFast_lifted os started H enc)
end Go.Proofs.Ytdianokikhggnaa
