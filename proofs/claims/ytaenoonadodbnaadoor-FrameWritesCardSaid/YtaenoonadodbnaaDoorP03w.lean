/- For every input the law FrameWrites returns true, and each argument reads afterwards as it read before. No condition; the package's table is as its text lays it. -/
import Derived.Test.YtaenoonadodbnaaDoorP02t
import Derived.Test.YtaenoonadodbnaaDoorF03w
import Derived.Test.YtaenoonadodbnaaDoorFrm
namespace Go.Proofs.YtaenoonadodbnaaDoor
open Go.ChangeShapes Go.WideShapes Go.ChangeAt Go.RowKit Go.Px Go.Joins
set_option linter.unusedVariables false
theorem cellsFrame : Tryd.prog.cellsOf 25 = 3 := by kernel_rfl

theorem frameWrites_met (os : Os) : laidMet Tryd.prog Rows.frameWritesRow.laid ((tabWorld os).forCall (fun _ _ => 0) ⟨#[], #[.agg #[.int .u8 0, .int .u64 0, .slice none 0 0], .agg #[.int .u8 0, .int .u64 0, .slice none 0 0]], []⟩).memory :=
  laidMet_of_run' 8 (by kernel_rfl) (by kernel_rfl)
theorem frameWrites_reads (os : Os) {H : Type} (enc : TypeId × Value → H) : ∃ places, DataW.whole enc Tryd.prog ((tabWorld os).forCall (fun _ _ => 0) ⟨#[], #[.agg #[.int .u8 0, .int .u64 0, .slice none 0 0], .agg #[.int .u8 0, .int .u64 0, .slice none 0 0]], []⟩).memory Tryd.f3.params.toList Rows.frameWritesSpec.vars false (#[.agg #[.int .u8 0, .int .u64 0, .slice none 0 0], .agg #[.int .u8 0, .int .u64 0, .slice none 0 0]] : Array Value).toList 8 = some ([.agg [.lit (.int .u8 0), .lit (.int .u64 0), .nil], .agg [.lit (.int .u8 0), .lit (.int .u64 0), .nil]], [], places) :=
  ⟨[], by kernel_rfl⟩
theorem frameWrites_contract (H : Type) (enc : TypeId × Value → H) (W : World) (base : Nat) (args : Array Value) (ds gs : List (DataW H)) (before : List MemPlace)
    (hval0 : ∀ (j : Nat) t v, Tryd.f3.params[j]? = some t → args[j]? = some v → Value.okWide Tryd.prog W .any base t v)
    (hW : DataW.Whole enc Tryd.prog Tryd.f3.params.toList Rows.frameWritesSpec.vars false W args.toList ds gs before) (hL : laidMetH Tryd.prog Rows.frameWritesRow.laid W) :
    Calls Tryd.prog 3 args W fun e W' => ∃ v, e = .returned v ∧ Rows.frameWritesSpec.post enc Tryd.prog Tryd.f3 false true false false W args v W' := by
  have hT : Tab W := tab_of_laid hL
  have hval : ∀ (j : Nat) t v, Tryd.f3.params[j]? = some t → args[j]? = some v → Value.okWide Tryd.prog W .any base t v := hval0
  have hW' := hW
  obtain ⟨p, q, hA0, hV, rfl, hfz, hnd⟩ := hW
  have hA : DataW.TrodAll enc Tryd.prog W 0 (fun _ => true) true Tryd.f3.params.toList args.toList ds p := hA0
  rw [Tryd.params3] at hA hval
  obtain ⟨v0, l0, d0, e0, p0, q0, ha0, rfl, rfl, h0, r0⟩ := trodAll_cons hA
  obtain ⟨v1, l1, d1, e1, p1, q1, rfl, rfl, rfl, h1, r1⟩ := trodAll_cons r0
  obtain ⟨rfl, rfl, rfl⟩ := trodAll_nil r1
  obtain rfl : args = #[v0, v1] := by cases args; simp_all
  obtain ⟨rfl, rfl⟩ := trodVars_none hV
  obtain ⟨u0, u1, u2, y0, y1, y2, fm, rfl, _, _, hy0, hy1, hy2⟩ := open_agg3 Tryd.underlying25 (by kernel_rfl) cellsFrame (hval 0 25 v0 rfl rfl) h0
  obtain ⟨k, rfl, hk⟩ := open_u8F Tryd.underlying5 hy0
  obtain ⟨s, rfl, hs⟩ := open_u64F Tryd.underlying22 hy1
  obtain ⟨A, n, c, bs, rfl, hn, hnc, hc, hr⟩ := open_bytesF Tryd.underlying23 Tryd.underlying5 (by kernel_rfl) hy2
  obtain ⟨x0, x1, x2, z0, z1, z2, fm', rfl, _, _, hz0, hz1, hz2⟩ := open_agg3 Tryd.underlying25 (by kernel_rfl) cellsFrame (hval 1 25 v1 rfl rfl) h1
  obtain ⟨k', rfl, hk'⟩ := open_u8F Tryd.underlying5 hz0
  obtain ⟨s', rfl, hs'⟩ := open_u64F Tryd.underlying22 hz1
  obtain ⟨A', n', c', bs', rfl, hn', hnc', hc', hr'⟩ := open_bytesF Tryd.underlying23 Tryd.underlying5 (by kernel_rfl) hz2
  refine (frameWrites_walk k s A n c bs k' s' A' n' c' bs' W hk hs hk' hs' hn hnc hc hr hn' hnc' hc' hr' hT).mono fun e W' ⟨he, hb⟩ => ?_
  subst he
  exact ⟨_, rfl, law_post laidOut rfl rfl Tryd.underlying4 (fun t ht => (show ∀ t ∈ Tryd.f3.params.toList, Tryd.prog.readableRec t = true ∧ t < Tryd.prog.types.size from by decide +kernel) t ht) hW' rfl hb⟩

set_option maxRecDepth 100000 in
theorem frameWrites_lifted (os : Os) (started : os.Started) (H : Type) (enc : TypeId × Value → H) (F : Stop.Interp) :
    ReturnsInHanded {} Tryd.checked os 3 .any ((OpenSpec.ofChange Rows.frameWritesSpec).preRow enc Tryd.prog Tryd.f3 Rows.frameWritesRow.domain false Rows.frameWritesRow.laid) (((OpenSpec.ofChange Rows.frameWritesSpec).at F).post enc Tryd.prog Tryd.f3 false true false false) := by
  obtain ⟨places, hx⟩ := frameWrites_reads os enc
  refine returnsInHanded_of_row (C := Tryd.checked) (s := OpenSpec.ofChange Rows.frameWritesSpec) own started (by kernel_rfl) Tryd.func3
    (witness_row_at (enc := enc) (C := Tryd.checked) false (tabWorld os) #[.agg #[.int .u8 0, .int .u64 0, .slice none 0 0], .agg #[.int .u8 0, .int .u64 0, .slice none 0 0]] rfl (by kernel_rfl) (by kernel_rfl) (by kernel_rfl)
      (OpenSpec.preRow_of_cond 8 hx (by kernel_rfl) (fun k hk => by cases hk) (by kernel_rfl) (frameWrites_met os))) ?_
  intro W base args ds gs before hval hW _ _ _ hL _ _
  exact frameWrites_contract H enc W base args ds gs before hval hW hL

theorem frameWrites_said : Rows.FrameWritesSaid :=
  OpenClaim.holds_of_cond 3 Tryd.f3 rfl rfl rfl rfl rfl rfl rfl ⟨rfl, rfl, rfl, rfl, rfl⟩ rfl rfl rfl rfl rfl (by kernel_rfl) Tryd.func3 (by kernel_rfl)
    (of_decide_eq_true (by kernel_rfl)) (by unfold Func.isWrapper; first | (rw [if_pos (by decide +kernel)]; kernel_rfl) | (rw [if_neg (by decide +kernel)]; exact ⟨rfl, rfl⟩))
    (fun os started H enc _ F => by rw [OpenClaim.pre_eq_preRow]; exact frameWrites_lifted os started H enc F)

theorem frameWrites_plain (f : FuncId) (fn : Func) (hf : Tryd.pinned.checked.prog.funcNamed "plinth/plinthlaw03.FrameWrites" = some f) (hfn : Tryd.pinned.checked.prog.funcs[f]? = some fn) :
    false = Tryd.pinned.checked.prog.looks [] ∧ ∀ (j : Nat) t, fn.params[j]? = some t → Tryd.pinned.checked.prog.wantsStandIn t = false := by
  obtain rfl : f = 3 := Option.some.inj ((show Tryd.prog.funcNamed "plinth/plinthlaw03.FrameWrites" = some 3 by kernel_rfl).symm.trans hf) |>.symm
  obtain rfl : fn = Tryd.f3 := (Option.some.inj (Tryd.func3.symm.trans hfn)).symm
  refine ⟨by kernel_rfl, fun j t ht => ?_⟩
  have hm : t ∈ Tryd.f3.params.toList := by
    have := Array.mem_of_getElem? ht
    simpa using this
  exact (show ∀ t ∈ Tryd.f3.params.toList, Tryd.prog.wantsStandIn t = false by decide +kernel) t hm

theorem frameWrites_card : Rows.FrameWritesCardSaid :=
  Claim7.holds_tied_plain_at .later [] _ _ _ _ frameWrites_said (fun _ h => by cases h) (by kernel_rfl) (fun _ h => by cases h) frameWrites_row_tie rfl ⟨rfl, rfl⟩ (by kernel_rfl) rfl frameWrites_plain (by kernel_rfl)
end Go.Proofs.YtaenoonadodbnaaDoor
