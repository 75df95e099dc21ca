/- For every input the law TreeDiffs returns true, and each argument reads afterwards as it read before. No condition; the package's table is as its text lays it. -/
import Derived.Test.YtcpnobhdogpfiaaDoorP02t
import Derived.Test.YtcpnobhdogpfiaaDoorW25c
import Derived.Test.YtcpnobhdogpfiaaDoorArg
import Derived.Test.YtcpnobhdogpfiaaDoorAgg
import Derived.Test.YtcpnobhdogpfiaaDoorGrp
import Derived.Test.YtcpnobhdogpfiaaDoorFrm
import Derived.Test.YtcpnobhdogpfiaaDoorMore
namespace Go.Proofs.YtcpnobhdogpfiaaDoor
set_option maxRecDepth 20000
open Go.ChangeShapes Go.WideShapes Go.ChangeAt Go.RowKit Go.Px Go.Deep
set_option linter.unusedVariables false

theorem treeDiffs_met (os : Os) : laidMet Tryd.prog Rows.treeDiffsRow.laid ((tabWorld os).forCall (fun _ _ => 0) ⟨#[], #[.agg #[.slice none 0 0], .agg #[.slice none 0 0]], []⟩).memory :=
  laidMet_of_run' 8 (by kernel_rfl) (by kernel_rfl)
theorem treeDiffs_reads (os : Os) {H : Type} (enc : TypeId × Value → H) : ∃ places, DataW.whole enc Tryd.prog ((tabWorld os).forCall (fun _ _ => 0) ⟨#[], #[.agg #[.slice none 0 0], .agg #[.slice none 0 0]], []⟩).memory Tryd.f7.params.toList Rows.treeDiffsSpec.vars false (#[.agg #[.slice none 0 0], .agg #[.slice none 0 0]] : Array Value).toList 8 = some ([.agg [.nil], .agg [.nil]], [], places) :=
  ⟨[], by kernel_rfl⟩
theorem treeDiffs_contract (H : Type) (enc : TypeId × Value → H) (W : World) (base : Nat) (args : Array Value) (ds gs : List (DataW H)) (before : List MemPlace)
    (hval0 : ∀ (j : Nat) t v, Tryd.f7.params[j]? = some t → args[j]? = some v → Value.okWide Tryd.prog W .any base t v)
    (hW : DataW.Whole enc Tryd.prog Tryd.f7.params.toList Rows.treeDiffsSpec.vars false W args.toList ds gs before) (hL : laidMetH Tryd.prog Rows.treeDiffsRow.laid W) :
    Calls Tryd.prog 7 args W fun e W' => ∃ v, e = .returned v ∧ Rows.treeDiffsSpec.post enc Tryd.prog Tryd.f7 false true false false W args v W' := by
  have hT : Tab W := tab_of_laid hL
  have hval : ∀ (j : Nat) t v, Tryd.f7.params[j]? = some t → args[j]? = some v → Value.okWide Tryd.prog W .any base t v := hval0
  have hW' := hW
  obtain ⟨p, q, hA0, hV, rfl, hfz, hnd⟩ := hW
  have hA : DataW.TrodAll enc Tryd.prog W 0 (fun _ => true) true Tryd.f7.params.toList args.toList ds p := hA0
  rw [Tryd.params7] at hA hval
  obtain ⟨v0, l0, d0, e0, p0, q0, ha0, rfl, rfl, h0, r0⟩ := trodAll_cons hA
  obtain ⟨v1, l1, d1, e1, p1, q1, rfl, rfl, rfl, h1, r1⟩ := trodAll_cons r0
  obtain ⟨rfl, rfl, rfl⟩ := trodAll_nil r1
  obtain rfl : args = #[v0, v1] := by cases args; simp_all
  obtain ⟨rfl, rfl⟩ := trodVars_none hV
  obtain ⟨⟨lt⟩, rfl, _⟩ := okWide_struct Tryd.underlying29 (hval 0 29 v0 rfl rfl); obtain ⟨t, hx0⟩ := open_any (t := tyTree) (T := 29) (by kernel_rfl) h0; have hy0 : tyTree.Is _ _ t lt := hx0
  obtain ⟨⟨lu⟩, rfl, _⟩ := okWide_struct Tryd.underlying29 (hval 1 29 v1 rfl rfl); obtain ⟨u, hx1⟩ := open_any (t := tyTree) (T := 29) (by kernel_rfl) h1; have hy1 : tyTree.Is _ _ u lu := hx1
  obtain ⟨t', tA, tn, tc, tv, rfl, rfl, _⟩ := Tree_out hy0
  obtain ⟨u', uA, un, uc, uv, rfl, rfl, _⟩ := Tree_out hy1
  refine (treeDiffs_walk tA tn tc _ uA un uc _ W hy0 hy1 hT).mono fun e W' ⟨he, hb⟩ => ?_
  subst he
  exact ⟨_, rfl, law_post laidOut rfl rfl Tryd.underlying4 (fun t ht => (show ∀ t ∈ Tryd.f7.params.toList, Tryd.prog.readableRec t = true ∧ t < Tryd.prog.types.size from by decide +kernel) t ht) hW' rfl hb⟩

set_option maxRecDepth 100000 in
theorem treeDiffs_lifted (os : Os) (started : os.Started) (H : Type) (enc : TypeId × Value → H) (F : Stop.Interp) :
    ReturnsInHanded {} Tryd.checked os 7 .any ((OpenSpec.ofChange Rows.treeDiffsSpec).preRow enc Tryd.prog Tryd.f7 Rows.treeDiffsRow.domain false Rows.treeDiffsRow.laid) (((OpenSpec.ofChange Rows.treeDiffsSpec).at F).post enc Tryd.prog Tryd.f7 false true false false) := by
  obtain ⟨places, hx⟩ := treeDiffs_reads os enc
  refine returnsInHanded_of_row (C := Tryd.checked) (s := OpenSpec.ofChange Rows.treeDiffsSpec) own started (by kernel_rfl) Tryd.func7
    (witness_row_at (enc := enc) (C := Tryd.checked) false (tabWorld os) #[.agg #[.slice none 0 0], .agg #[.slice none 0 0]] rfl (by kernel_rfl) (by kernel_rfl) (by kernel_rfl)
      (OpenSpec.preRow_of_cond 8 hx (by kernel_rfl) (fun k hk => by cases hk) (by kernel_rfl) (treeDiffs_met os))) ?_
  intro W base args ds gs before hval hW _ _ _ hL _ _
  exact treeDiffs_contract H enc W base args ds gs before hval hW hL

theorem treeDiffs_said : Rows.TreeDiffsSaid :=
  OpenClaim.holds_of_cond 7 Tryd.f7 rfl rfl rfl rfl rfl rfl rfl ⟨rfl, rfl, rfl, rfl, rfl⟩ rfl rfl rfl rfl rfl (by kernel_rfl) Tryd.func7 (by kernel_rfl)
    (of_decide_eq_true (by kernel_rfl)) (by unfold Func.isWrapper; first | (rw [if_pos (by decide +kernel)]; kernel_rfl) | (rw [if_neg (by decide +kernel)]; exact ⟨rfl, rfl⟩))
    (fun os started H enc _ F => by rw [OpenClaim.pre_eq_preRow]; exact treeDiffs_lifted os started H enc F)

theorem treeDiffs_plain (f : FuncId) (fn : Func) (hf : Tryd.pinned.checked.prog.funcNamed "plinth/plinthlaw25.TreeDiffs" = some f) (hfn : Tryd.pinned.checked.prog.funcs[f]? = some fn) :
    false = Tryd.pinned.checked.prog.looks [] ∧ ∀ (j : Nat) t, fn.params[j]? = some t → Tryd.pinned.checked.prog.wantsStandIn t = false := by
  obtain rfl : f = 7 := Option.some.inj ((show Tryd.prog.funcNamed "plinth/plinthlaw25.TreeDiffs" = some 7 by kernel_rfl).symm.trans hf) |>.symm
  obtain rfl : fn = Tryd.f7 := (Option.some.inj (Tryd.func7.symm.trans hfn)).symm
  refine ⟨by kernel_rfl, fun j t ht => ?_⟩
  have hm : t ∈ Tryd.f7.params.toList := by
    have := Array.mem_of_getElem? ht
    simpa using this
  exact (show ∀ t ∈ Tryd.f7.params.toList, Tryd.prog.wantsStandIn t = false by decide +kernel) t hm

theorem treeDiffs_card : Rows.TreeDiffsCardSaid :=
  Claim7.holds_tied_plain_at .later [] _ _ _ _ treeDiffs_said (fun _ h => by cases h) (by kernel_rfl) (fun _ h => by cases h) treeDiffs_row_tie rfl ⟨rfl, rfl⟩ (by kernel_rfl) rfl treeDiffs_plain (by kernel_rfl)
end Go.Proofs.YtcpnobhdogpfiaaDoor
