/- For every input the law TreeFew returns true, and each argument reads afterwards as it read before. No condition; the package's table is as its text lays it. -/
import Derived.Test.YtcpnobhdogpfiaaDoorP02t
import Derived.Test.YtcpnobhdogpfiaaDoorW25d
import Derived.Test.YtcpnobhdogpfiaaDoorArg
import Derived.Test.YtcpnobhdogpfiaaDoorAgg
import Derived.Test.YtcpnobhdogpfiaaDoorGrp
import Derived.Test.YtcpnobhdogpfiaaDoorFrm
import Derived.Test.YtcpnobhdogpfiaaDoorMore
namespace Go.Proofs.YtcpnobhdogpfiaaDoor
set_option maxRecDepth 20000
open Go.ChangeShapes Go.WideShapes Go.ChangeAt Go.RowKit Go.Px Go.Deep
set_option linter.unusedVariables false

theorem treeFew_met (os : Os) : laidMet Tryd.prog Rows.treeFewRow.laid ((tabWorld os).forCall (fun _ _ => 0) ⟨#[], #[.slice none 0 0, .slice none 0 0, .int .u32 0], []⟩).memory :=
  laidMet_of_run' 8 (by kernel_rfl) (by kernel_rfl)
theorem treeFew_reads (os : Os) {H : Type} (enc : TypeId × Value → H) : ∃ places, DataW.whole enc Tryd.prog ((tabWorld os).forCall (fun _ _ => 0) ⟨#[], #[.slice none 0 0, .slice none 0 0, .int .u32 0], []⟩).memory Tryd.f9.params.toList Rows.treeFewSpec.vars false (#[.slice none 0 0, .slice none 0 0, .int .u32 0] : Array Value).toList 8 = some ([.nil, .nil, .lit (.int .u32 0)], [], places) :=
  ⟨[], by kernel_rfl⟩
theorem treeFew_contract (H : Type) (enc : TypeId × Value → H) (W : World) (base : Nat) (args : Array Value) (ds gs : List (DataW H)) (before : List MemPlace)
    (hval0 : ∀ (j : Nat) t v, Tryd.f9.params[j]? = some t → args[j]? = some v → Value.okWide Tryd.prog W .any base t v)
    (hW : DataW.Whole enc Tryd.prog Tryd.f9.params.toList Rows.treeFewSpec.vars false W args.toList ds gs before) (hL : laidMetH Tryd.prog Rows.treeFewRow.laid W) :
    Calls Tryd.prog 9 args W fun e W' => ∃ v, e = .returned v ∧ Rows.treeFewSpec.post enc Tryd.prog Tryd.f9 false true false false W args v W' := by
  have hT : Tab W := tab_of_laid hL
  have hval : ∀ (j : Nat) t v, Tryd.f9.params[j]? = some t → args[j]? = some v → Value.okWide Tryd.prog W .any base t v := hval0
  have hW' := hW
  obtain ⟨p, q, hA0, hV, rfl, hfz, hnd⟩ := hW
  have hA : DataW.TrodAll enc Tryd.prog W 0 (fun _ => true) true Tryd.f9.params.toList args.toList ds p := hA0
  rw [Tryd.params9] at hA hval
  obtain ⟨v0, l0, d0, e0, p0, q0, ha0, rfl, rfl, h0, r0⟩ := trodAll_cons hA
  obtain ⟨v1, l1, d1, e1, p1, q1, rfl, rfl, rfl, h1, r1⟩ := trodAll_cons r0
  obtain ⟨v2, l2, d2, e2, p2, q2, rfl, rfl, rfl, h2, r2⟩ := trodAll_cons r1
  obtain ⟨rfl, rfl, rfl⟩ := trodAll_nil r2
  obtain rfl : args = #[v0, v1, v2] := by cases args; simp_all
  obtain ⟨rfl, rfl⟩ := trodVars_none hV
  obtain ⟨lA, ln, lc, rfl⟩ := okWide_slice Tryd.underlying25 (hval 0 25 v0 rfl rfl); obtain ⟨l, hx0⟩ := open_any (t := (.row .u32)) (T := 25) (by kernel_rfl) h0; obtain ⟨lv, hl_l, hc_l, hm_l, hr_l, hq_l, he_l⟩ := row_out hx0
  obtain ⟨hlv, hbd⟩ := u32row_out he_l
  subst hlv
  obtain ⟨qA, qn, qc, zs, rfl, hzl, hzc, hzm, hrz, hzb⟩ := open_u16s Tryd.underlying71 Tryd.underlying72 rfl (hval 1 71 v1 rfl rfl) h1
  obtain ⟨z2, rfl, rfl, rfl, w2⟩ := open_int Tryd.underlying33 (hval 2 33 v2 rfl rfl) h2
  obtain ⟨x, rfl, hu2⟩ := wf_u32 w2
  refine (treeFew_walk lA ln lc l qA qn qc zs x W hl_l hc_l hm_l hr_l hbd hzl hzc hzm hrz hzb hu2 hT).mono fun e W' ⟨he, hb⟩ => ?_
  subst he
  exact ⟨_, rfl, law_post laidOut rfl rfl Tryd.underlying4 (fun t ht => (show ∀ t ∈ Tryd.f9.params.toList, Tryd.prog.readableRec t = true ∧ t < Tryd.prog.types.size from by decide +kernel) t ht) hW' rfl hb⟩

set_option maxRecDepth 100000 in
theorem treeFew_lifted (os : Os) (started : os.Started) (H : Type) (enc : TypeId × Value → H) (F : Stop.Interp) :
    ReturnsInHanded {} Tryd.checked os 9 .any ((OpenSpec.ofChange Rows.treeFewSpec).preRow enc Tryd.prog Tryd.f9 Rows.treeFewRow.domain false Rows.treeFewRow.laid) (((OpenSpec.ofChange Rows.treeFewSpec).at F).post enc Tryd.prog Tryd.f9 false true false false) := by
  obtain ⟨places, hx⟩ := treeFew_reads os enc
  refine returnsInHanded_of_row (C := Tryd.checked) (s := OpenSpec.ofChange Rows.treeFewSpec) own started (by kernel_rfl) Tryd.func9
    (witness_row_at (enc := enc) (C := Tryd.checked) false (tabWorld os) #[.slice none 0 0, .slice none 0 0, .int .u32 0] rfl (by kernel_rfl) (by kernel_rfl) (by kernel_rfl)
      (OpenSpec.preRow_of_cond 8 hx (by kernel_rfl) (fun k hk => by cases hk) (by kernel_rfl) (treeFew_met os))) ?_
  intro W base args ds gs before hval hW _ _ _ hL _ _
  exact treeFew_contract H enc W base args ds gs before hval hW hL

theorem treeFew_said : Rows.TreeFewSaid :=
  OpenClaim.holds_of_cond 9 Tryd.f9 rfl rfl rfl rfl rfl rfl rfl ⟨rfl, rfl, rfl, rfl, rfl⟩ rfl rfl rfl rfl rfl (by kernel_rfl) Tryd.func9 (by kernel_rfl)
    (of_decide_eq_true (by kernel_rfl)) (by unfold Func.isWrapper; first | (rw [if_pos (by decide +kernel)]; kernel_rfl) | (rw [if_neg (by decide +kernel)]; exact ⟨rfl, rfl⟩))
    (fun os started H enc _ F => by rw [OpenClaim.pre_eq_preRow]; exact treeFew_lifted os started H enc F)

theorem treeFew_plain (f : FuncId) (fn : Func) (hf : Tryd.pinned.checked.prog.funcNamed "plinth/plinthlaw25.TreeFew" = some f) (hfn : Tryd.pinned.checked.prog.funcs[f]? = some fn) :
    false = Tryd.pinned.checked.prog.looks [] ∧ ∀ (j : Nat) t, fn.params[j]? = some t → Tryd.pinned.checked.prog.wantsStandIn t = false := by
  obtain rfl : f = 9 := Option.some.inj ((show Tryd.prog.funcNamed "plinth/plinthlaw25.TreeFew" = some 9 by kernel_rfl).symm.trans hf) |>.symm
  obtain rfl : fn = Tryd.f9 := (Option.some.inj (Tryd.func9.symm.trans hfn)).symm
  refine ⟨by kernel_rfl, fun j t ht => ?_⟩
  have hm : t ∈ Tryd.f9.params.toList := by
    have := Array.mem_of_getElem? ht
    simpa using this
  exact (show ∀ t ∈ Tryd.f9.params.toList, Tryd.prog.wantsStandIn t = false by decide +kernel) t hm

theorem treeFew_card : Rows.TreeFewCardSaid :=
  Claim7.holds_tied_plain_at .later [] _ _ _ _ treeFew_said (fun _ h => by cases h) (by kernel_rfl) (fun _ h => by cases h) treeFew_row_tie rfl ⟨rfl, rfl⟩ (by kernel_rfl) rfl treeFew_plain (by kernel_rfl)
end Go.Proofs.YtcpnobhdogpfiaaDoor
