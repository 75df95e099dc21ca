/- For every input of bulk at most 1048576 the law BlockBack returns true, and each argument reads afterwards as it read before. -/
import Derived.Test.YtabglphiafeheaaRows
import Derived.Test.YtabglphiafeheaaF04z
import Derived.Test.YtabglphiafeheaaBulk
import Derived.Test.YtabglphiafeheaaGrp
import Derived.Test.YtabglphiafeheaaFrm
namespace Go.Proofs.Ytabglphiafeheaa
open Go.ChangeShapes Go.WideShapes Go.ChangeAt Go.RowKit Go.Px Go.Joins
set_option linter.unusedVariables false

set_option maxRecDepth 100000 in
theorem blockBack_upto (os : Os) (started : os.Started) (H : Type) (enc : TypeId × Value → H) (G : Stop.Interp) :
    ReturnsInHanded {} Try.checked os 7 .any ((Rows.OpenSpec.upto Rows.blockBackSpec).pre6 enc Try.prog Try.f7 Rows.blockBackUptoRow.domain false) (((Rows.OpenSpec.upto Rows.blockBackSpec).at G).post enc Try.prog Try.f7 false true false false) := by
  refine returnsInHanded_of_cond (C := Try.checked) (s := Rows.OpenSpec.upto Rows.blockBackSpec) (k := Rows.uptoSmall) rfl own started (by kernel_rfl) Try.func7
    (OpenSpec.witness (enc := enc) (C := Try.checked) (s := Rows.OpenSpec.upto Rows.blockBackSpec) (k := Rows.uptoSmall) rfl false ⟨#[], #[.agg #[.int .u8 0, .int .i64 0, .int .i64 0, .slice none 0 0, .slice none 0 0], .agg #[.int .u8 0, .slice none 0 0], .slice none 0 0], []⟩ 8 (by kernel_rfl) (by kernel_rfl) (by kernel_rfl)
      (x := ([.agg [.lit (.int .u8 0), .lit (.int .i64 0), .lit (.int .i64 0), .nil, .nil], .agg [.lit (.int .u8 0), .nil], .nil], [], [])) (by kernel_rfl) rfl (by kernel_rfl)) ?_
  intro W base args ds gs before hval0 hW _ hsmall _
  have hval : ∀ (j : Nat) t v, Try.f7.params[j]? = some t → args[j]? = some v → Value.okWide Try.prog W .any base t v := hval0
  have hW' := hW
  obtain ⟨p, q, hA0, hV, rfl, hfz, hnd⟩ := hW
  have hA : DataW.TrodAll enc Try.prog W 0 (fun _ => true) true Try.f7.params.toList args.toList ds p := hA0
  rw [Try.params7] at hA hval
  obtain ⟨v0, l0, d0, e0, p0, q0, ha0, rfl, rfl, h0, r0⟩ := trodAll_cons hA
  obtain ⟨v1, l1, d1, e1, p1, q1, rfl, rfl, rfl, h1, r1⟩ := trodAll_cons r0
  obtain ⟨v2, l2, d2, e2, p2, q2, rfl, rfl, rfl, h2, r2⟩ := trodAll_cons r1
  obtain ⟨rfl, rfl, rfl⟩ := trodAll_nil r2
  obtain rfl : args = #[v0, v1, v2] := by cases args; simp_all
  obtain ⟨rfl, rfl⟩ := trodVars_none hV
  obtain ⟨cs0, rfl, hcs0, nn0, hf0⟩ := open_byfields Try.underlying27 (by kernel_rfl) (by kernel_rfl) (hval 0 27 v0 rfl rfl) h0
  obtain ⟨c00, t00, q00, k00⟩ := hf0 0 _ rfl
  obtain ⟨c01, t01, q01, k01⟩ := hf0 1 _ rfl
  obtain ⟨c02, t02, q02, k02⟩ := hf0 2 _ rfl
  obtain ⟨c03, t03, q03, k03⟩ := hf0 3 _ rfl
  obtain ⟨c04, t04, q04, k04⟩ := hf0 4 _ rfl
  obtain rfl := arr5 hcs0 q00 q01 q02 q03 q04
  obtain ⟨k, rfl, hu_k⟩ := open_u8F Try.underlying24 k00
  obtain ⟨p, rfl, h1_p, h2_p⟩ := open_i64F Try.underlying3 k01
  obtain ⟨n, rfl, h1_n, h2_n⟩ := open_i64F Try.underlying3 k02
  obtain ⟨D, d, dc, ds, rfl, hl_D, hc_D, hm_D, hr_D⟩ := open_bytesF Try.underlying25 Try.underlying5 (by kernel_rfl) k03
  obtain ⟨O, o, oc, xs, rfl, hl_O, hc_O, hm_O, hr_O⟩ := open_bytesF Try.underlying25 Try.underlying5 (by kernel_rfl) k04
  obtain ⟨cs1, rfl, hcs1, nn1, hf1⟩ := open_byfields Try.underlying30 (by kernel_rfl) (by kernel_rfl) (hval 1 30 v1 rfl rfl) h1
  obtain ⟨c10, t10, q10, k10⟩ := hf1 0 _ rfl
  obtain ⟨c11, t11, q11, k11⟩ := hf1 1 _ rfl
  obtain rfl := arr2 hcs1 q10 q11
  obtain ⟨rk, rfl, hu_rk⟩ := open_u8F Try.underlying28 k10
  obtain ⟨R, rd, rc, rs, rfl, hl_R, hc_R, hm_R, hr_R⟩ := open_bytesF Try.underlying25 Try.underlying5 (by kernel_rfl) k11
  obtain ⟨Q, q, qc, ts, rfl, hn2, hnc2, hc2, hr2⟩ := open_bytes Try.underlying25 Try.underlying5 (by kernel_rfl) (hval 2 25 v2 rfl rfl) h2
  have hq := bytes_bulk Try.underlying25 Try.underlying5 (by kernel_rfl) h2
  have hq2 := bulk_at hsmall (j := 2) rfl
  refine (blockBack_walk k p n D d dc ds O o oc xs rk R rd rc rs Q q qc ts W hu_k hu_rk hl_D hl_O hl_R hn2 (by omega) hr_D hr_O hr_R hr2).mono fun e W' ⟨he, hb⟩ => ?_
  subst he
  exact ⟨_, rfl, law_post laidOut rfl rfl Try.underlying4 (fun t ht => (show ∀ t ∈ Try.f7.params.toList, Try.prog.readableRec t = true ∧ t < Try.prog.types.size from by decide +kernel) t ht) hW' rfl hb⟩

theorem blockBack_uptoHolds : Rows.BlockBackUptoSaid :=
  OpenClaim.holds_of_cond 7 Try.f7 rfl rfl rfl rfl rfl rfl rfl ⟨rfl, rfl, rfl, rfl, rfl⟩ rfl rfl rfl rfl rfl (by kernel_rfl) Try.func7 (by kernel_rfl)
    (of_decide_eq_true (by kernel_rfl)) (by unfold Func.isWrapper; first | (rw [if_pos (by decide +kernel)]; kernel_rfl) | (rw [if_neg (by decide +kernel)]; exact ⟨rfl, rfl⟩))
    (fun os started H enc _ G => blockBack_upto os started H enc G)
end Go.Proofs.Ytabglphiafeheaa
