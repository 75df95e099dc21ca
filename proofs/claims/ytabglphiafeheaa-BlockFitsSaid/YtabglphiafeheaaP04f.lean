/- For every input the law BlockFits returns true, and each argument reads afterwards as it read before. No condition. -/
import Derived.Test.YtabglphiafeheaaRows
import Derived.Test.YtabglphiafeheaaF04o
import Derived.Test.YtabglphiafeheaaAgg
import Derived.Test.YtabglphiafeheaaGrp
import Derived.Test.YtabglphiafeheaaFrm
namespace Go.Proofs.Ytabglphiafeheaa
open Go.ChangeShapes Go.WideShapes Go.ChangeAt Go.RowKit Go.Px Go.Joins
set_option linter.unusedVariables false
theorem cellsShape : Try.prog.cellsOf 23 = 2 := by kernel_rfl
theorem cellsOp : Try.prog.cellsOf 27 = 5 := by kernel_rfl

set_option maxRecDepth 100000 in
theorem blockFits_lifted (os : Os) (started : os.Started) (H : Type) (enc : TypeId × Value → H) :
    ReturnsInHanded {} Try.checked os 4 .any (Rows.blockFitsSpec.pre6 enc Try.prog Try.f4 Rows.blockFitsRow.domain false) (Rows.blockFitsSpec.post enc Try.prog Try.f4 false true false false) := by
  refine returnsInHanded_of_change (C := Try.checked) own started (by kernel_rfl) Try.func4
    (ChangeSpec.witness6 (enc := enc) (C := Try.checked) false ⟨#[], #[.agg #[.int .i64 0, .int .i64 0], .agg #[.int .u8 0, .int .i64 0, .int .i64 0, .slice none 0 0, .slice none 0 0]], []⟩ 8 (by kernel_rfl) (by kernel_rfl) (by kernel_rfl) (by kernel_rfl)) ?_
  intro W base args ds gs before hval0 hW _ hweigh
  have hval : ∀ (j : Nat) t v, Try.f4.params[j]? = some t → args[j]? = some v → Value.okWide Try.prog W .any base t v := hval0
  have hW' := hW
  obtain ⟨p, q, hA0, hV, rfl, hfz, hnd⟩ := hW
  have hA : DataW.TrodAll enc Try.prog W 0 (fun _ => true) true Try.f4.params.toList args.toList ds p := hA0
  rw [Try.params4] at hA hval
  obtain ⟨v0, l0, d0, e0, p0, q0, ha0, rfl, rfl, h0, r0⟩ := trodAll_cons hA
  obtain ⟨v1, l1, d1, e1, p1, q1, rfl, rfl, rfl, h1, r1⟩ := trodAll_cons r0
  obtain ⟨rfl, rfl, rfl⟩ := trodAll_nil r1
  obtain rfl : args = #[v0, v1] := by cases args; simp_all
  obtain ⟨rfl, rfl⟩ := trodVars_none hV
  obtain ⟨u0, u1, y0, y1, fm, rfl, _, _, hy0, hy1⟩ := open_agg2 Try.underlying23 (by kernel_rfl) cellsShape (hval 0 23 v0 rfl rfl) h0
  obtain ⟨b, rfl, hb1, hb2⟩ := open_i64F Try.underlying3 hy0
  obtain ⟨z, rfl, hz1, hz2⟩ := open_i64F Try.underlying3 hy1
  obtain ⟨cs, rfl, hcs, nn, hf⟩ := open_byfields Try.underlying27 (by kernel_rfl) cellsOp (hval 1 27 v1 rfl rfl) h1
  obtain ⟨c0, t0, q0, k0⟩ := hf 0 _ rfl
  obtain ⟨c1, t1, q1, k1⟩ := hf 1 _ rfl
  obtain ⟨c2, t2, q2, k2⟩ := hf 2 _ rfl
  obtain ⟨c3, t3, q3, k3⟩ := hf 3 _ rfl
  obtain ⟨c4, t4, q4, k4⟩ := hf 4 _ rfl
  obtain rfl := arr5 hcs q0 q1 q2 q3 q4
  obtain ⟨k, rfl, hk⟩ := open_u8F Try.underlying24 k0
  obtain ⟨p, rfl, hp1, hp2⟩ := open_i64F Try.underlying3 k1
  obtain ⟨n, rfl, hn1, hn2⟩ := open_i64F Try.underlying3 k2
  obtain ⟨D, d, dc, ds, rfl, hd, hdc, hdc2, hrD⟩ := open_bytesF Try.underlying25 Try.underlying5 (by kernel_rfl) k3
  obtain ⟨O, o, oc, os', rfl, ho, hoc, hoc2, hrO⟩ := open_bytesF Try.underlying25 Try.underlying5 (by kernel_rfl) k4
  refine (blockFits_walk b z k p n D d dc O o oc W hk).mono fun e W' ⟨he, hb⟩ => ?_
  subst he
  exact ⟨_, rfl, law_post laidOut rfl rfl Try.underlying4 (fun t ht => (show ∀ t ∈ Try.f4.params.toList, Try.prog.readableRec t = true ∧ t < Try.prog.types.size from by decide +kernel) t ht) hW' rfl hb⟩

theorem blockFits_holds : Rows.BlockFitsSaid :=
  OpenClaim.holds_of_wide 4 Try.f4 rfl rfl rfl rfl rfl rfl rfl ⟨rfl, rfl, rfl, rfl, rfl⟩ rfl rfl rfl rfl rfl (by kernel_rfl) Try.func4 (by kernel_rfl)
    (of_decide_eq_true (by kernel_rfl)) (by unfold Func.isWrapper; first | (rw [if_pos (by decide +kernel)]; kernel_rfl) | (rw [if_neg (by decide +kernel)]; exact ⟨rfl, rfl⟩))
    (fun os started H enc _ => blockFits_lifted os started H enc)
end Go.Proofs.Ytabglphiafeheaa
