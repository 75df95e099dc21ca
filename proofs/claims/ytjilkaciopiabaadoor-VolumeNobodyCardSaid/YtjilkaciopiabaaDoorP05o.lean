/- For every input the law VolumeNobody returns true, and each argument reads afterwards as it read before. No condition; the package's table is as its text lays it. -/
import Derived.Test.YtjilkaciopiabaaDoorP02t
import Derived.Test.YtjilkaciopiabaaDoorF05m
import Derived.Test.YtjilkaciopiabaaDoorArg
import Derived.Test.YtjilkaciopiabaaDoorGrp
import Derived.Test.YtjilkaciopiabaaDoorFrm
namespace Go.Proofs.YtjilkaciopiabaaDoor
open Go.ChangeShapes Go.WideShapes Go.ChangeAt Go.RowKit Go.Px Go.Joins
set_option linter.unusedVariables false

theorem volumeNobody_met (os : Os) : laidMet Tryd.prog Rows.volumeNobodyRow.laid ((tabWorld os).forCall (fun _ _ => 0) ⟨#[], #[.agg #[.int .u8 0, .int .i64 0, .int .i64 0, .slice none 0 0, .slice none 0 0], .int .i64 0], []⟩).memory :=
  laidMet_of_run' 8 (by kernel_rfl) (by kernel_rfl)
theorem volumeNobody_reads (os : Os) {H : Type} (enc : TypeId × Value → H) : ∃ places, DataW.whole enc Tryd.prog ((tabWorld os).forCall (fun _ _ => 0) ⟨#[], #[.agg #[.int .u8 0, .int .i64 0, .int .i64 0, .slice none 0 0, .slice none 0 0], .int .i64 0], []⟩).memory Tryd.f4.params.toList Rows.volumeNobodySpec.vars false (#[.agg #[.int .u8 0, .int .i64 0, .int .i64 0, .slice none 0 0, .slice none 0 0], .int .i64 0] : Array Value).toList 8 = some ([.agg [.lit (.int .u8 0), .lit (.int .i64 0), .lit (.int .i64 0), .nil, .nil], .lit (.int .i64 0)], [], places) :=
  ⟨[], by kernel_rfl⟩
theorem volumeNobody_contract (H : Type) (enc : TypeId × Value → H) (W : World) (base : Nat) (args : Array Value) (ds gs : List (DataW H)) (before : List MemPlace)
    (hval0 : ∀ (j : Nat) t v, Tryd.f4.params[j]? = some t → args[j]? = some v → Value.okWide Tryd.prog W .any base t v)
    (hW : DataW.Whole enc Tryd.prog Tryd.f4.params.toList Rows.volumeNobodySpec.vars false W args.toList ds gs before) (hL : laidMetH Tryd.prog Rows.volumeNobodyRow.laid W) :
    Calls Tryd.prog 4 args W fun e W' => ∃ v, e = .returned v ∧ Rows.volumeNobodySpec.post enc Tryd.prog Tryd.f4 false true false false W args v W' := by
  have hT : Tab W := tab_of_laid hL
  have hval : ∀ (j : Nat) t v, Tryd.f4.params[j]? = some t → args[j]? = some v → Value.okWide Tryd.prog W .any base t v := hval0
  have hW' := hW
  obtain ⟨p, q, hA0, hV, rfl, hfz, hnd⟩ := hW
  have hA : DataW.TrodAll enc Tryd.prog W 0 (fun _ => true) true Tryd.f4.params.toList args.toList ds p := hA0
  rw [Tryd.params4] at hA hval
  obtain ⟨v0, l0, d0, e0, p0, q0, ha0, rfl, rfl, h0, r0⟩ := trodAll_cons hA
  obtain ⟨v1, l1, d1, e1, p1, q1, rfl, rfl, rfl, h1, r1⟩ := trodAll_cons r0
  obtain ⟨rfl, rfl, rfl⟩ := trodAll_nil r1
  obtain rfl : args = #[v0, v1] := by cases args; simp_all
  obtain ⟨rfl, rfl⟩ := trodVars_none hV
  obtain ⟨cs0, rfl, hcs0, nn0, hf0⟩ := open_byfields Tryd.underlying38 (by kernel_rfl) (by kernel_rfl) (hval 0 38 v0 rfl rfl) h0
  obtain ⟨c00, t00, q00, k00⟩ := hf0 0 _ rfl
  obtain ⟨c01, t01, q01, k01⟩ := hf0 1 _ rfl
  obtain ⟨c02, t02, q02, k02⟩ := hf0 2 _ rfl
  obtain ⟨c03, t03, q03, k03⟩ := hf0 3 _ rfl
  obtain ⟨c04, t04, q04, k04⟩ := hf0 4 _ rfl
  obtain rfl := arr5 hcs0 q00 q01 q02 q03 q04
  obtain ⟨k, rfl, hu_k⟩ := open_u8F Tryd.underlying35 k00
  obtain ⟨p, rfl, h1_p, h2_p⟩ := open_i64F Tryd.underlying3 k01
  obtain ⟨n, rfl, h1_n, h2_n⟩ := open_i64F Tryd.underlying3 k02
  obtain ⟨D, d, dc, ds, rfl, hl_D, hc_D, hm_D, hr_D⟩ := open_bytesF Tryd.underlying36 Tryd.underlying5 (by kernel_rfl) k03
  obtain ⟨O, o, oc, xs, rfl, hl_O, hc_O, hm_O, hr_O⟩ := open_bytesF Tryd.underlying36 Tryd.underlying5 (by kernel_rfl) k04
  obtain ⟨i, rfl, rfl, rfl, w1⟩ := open_int Tryd.underlying3 (hval 1 3 v1 rfl rfl) h1
  have hi1 := wf_i64 w1
  refine (volumeNobody_walk k p n D d dc O o oc i W).mono fun e W' ⟨he, hb⟩ => ?_
  subst he
  exact ⟨_, rfl, law_post laidOut rfl rfl Tryd.underlying4 (fun t ht => (show ∀ t ∈ Tryd.f4.params.toList, Tryd.prog.readableRec t = true ∧ t < Tryd.prog.types.size from by decide +kernel) t ht) hW' rfl hb⟩

set_option maxRecDepth 100000 in
theorem volumeNobody_lifted (os : Os) (started : os.Started) (H : Type) (enc : TypeId × Value → H) (F : Stop.Interp) :
    ReturnsInHanded {} Tryd.checked os 4 .any ((OpenSpec.ofChange Rows.volumeNobodySpec).preRow enc Tryd.prog Tryd.f4 Rows.volumeNobodyRow.domain false Rows.volumeNobodyRow.laid) (((OpenSpec.ofChange Rows.volumeNobodySpec).at F).post enc Tryd.prog Tryd.f4 false true false false) := by
  obtain ⟨places, hx⟩ := volumeNobody_reads os enc
  refine returnsInHanded_of_row (C := Tryd.checked) (s := OpenSpec.ofChange Rows.volumeNobodySpec) own started (by kernel_rfl) Tryd.func4
    (witness_row_at (enc := enc) (C := Tryd.checked) false (tabWorld os) #[.agg #[.int .u8 0, .int .i64 0, .int .i64 0, .slice none 0 0, .slice none 0 0], .int .i64 0] rfl (by kernel_rfl) (by kernel_rfl) (by kernel_rfl)
      (OpenSpec.preRow_of_cond 8 hx (by kernel_rfl) (fun k hk => by cases hk) (by kernel_rfl) (volumeNobody_met os))) ?_
  intro W base args ds gs before hval hW _ _ _ hL _ _
  exact volumeNobody_contract H enc W base args ds gs before hval hW hL

theorem volumeNobody_said : Rows.VolumeNobodySaid :=
  OpenClaim.holds_of_cond 4 Tryd.f4 rfl rfl rfl rfl rfl rfl rfl ⟨rfl, rfl, rfl, rfl, rfl⟩ rfl rfl rfl rfl rfl (by kernel_rfl) Tryd.func4 (by kernel_rfl)
    (of_decide_eq_true (by kernel_rfl)) (by unfold Func.isWrapper; first | (rw [if_pos (by decide +kernel)]; kernel_rfl) | (rw [if_neg (by decide +kernel)]; exact ⟨rfl, rfl⟩))
    (fun os started H enc _ F => by rw [OpenClaim.pre_eq_preRow]; exact volumeNobody_lifted os started H enc F)

theorem volumeNobody_plain (f : FuncId) (fn : Func) (hf : Tryd.pinned.checked.prog.funcNamed "plinth/plinthlaw05.VolumeNobody" = some f) (hfn : Tryd.pinned.checked.prog.funcs[f]? = some fn) :
    false = Tryd.pinned.checked.prog.looks [] ∧ ∀ (j : Nat) t, fn.params[j]? = some t → Tryd.pinned.checked.prog.wantsStandIn t = false := by
  obtain rfl : f = 4 := Option.some.inj ((show Tryd.prog.funcNamed "plinth/plinthlaw05.VolumeNobody" = some 4 by kernel_rfl).symm.trans hf) |>.symm
  obtain rfl : fn = Tryd.f4 := (Option.some.inj (Tryd.func4.symm.trans hfn)).symm
  refine ⟨by kernel_rfl, fun j t ht => ?_⟩
  have hm : t ∈ Tryd.f4.params.toList := by
    have := Array.mem_of_getElem? ht
    simpa using this
  exact (show ∀ t ∈ Tryd.f4.params.toList, Tryd.prog.wantsStandIn t = false by decide +kernel) t hm

theorem volumeNobody_card : Rows.VolumeNobodyCardSaid :=
  Claim7.holds_tied_plain_at .later [] _ _ _ _ volumeNobody_said (fun _ h => by cases h) (by kernel_rfl) (fun _ h => by cases h) volumeNobody_row_tie rfl ⟨rfl, rfl⟩ (by kernel_rfl) rfl volumeNobody_plain (by kernel_rfl)
end Go.Proofs.YtjilkaciopiabaaDoor
