/- Regions whose orders are written out: three ready at a time; a store of a whole block. -/
import Derived.Test.YtlcbelmbonaooaaSup17
namespace Go.Px
set_option maxRecDepth 20000
open Go.RowKit
set_option linter.unusedVariables false
theorem all_three {P : Program} {md : Region.Mode} {ops : Array Oper} {Q : Exit → Act → World → Prop} {S : World → Prop} {i j k : Nat} {o o2 o3 : Oper} {fuel : Nat} {listed : Array Bool} {a : Act} {w : World} (hr : Region.ready md ops listed = [i, j, k]) (ho : ops[i]? = some o) (hg : o.guard = none) (ho2 : ops[j]? = some o2) (hg2 : o2.guard = none) (ho3 : ops[k]? = some o3) (hg3 : o3.guard = none)
    (h : ∀ K' : Act → World → Prop, (∀ a' w', S w' ∧ wpAnyH P md ops Q S fuel (listed.setIfInBounds i true) a' w' → K' a' w') → o.wp P a w K' Q)
    (h2 : ∀ K' : Act → World → Prop, (∀ a' w', S w' ∧ wpAnyH P md ops Q S fuel (listed.setIfInBounds j true) a' w' → K' a' w') → o2.wp P a w K' Q)
    (h3 : ∀ K' : Act → World → Prop, (∀ a' w', S w' ∧ wpAnyH P md ops Q S fuel (listed.setIfInBounds k true) a' w' → K' a' w') → o3.wp P a w K' Q) : wpAnyH P md ops Q S (fuel + 1) listed a w :=
  wpAnyH_all hr (by simp) (fun m hm => by
    simp only [List.mem_cons, List.not_mem_nil, or_false] at hm
    rcases hm with rfl | rfl | rfl
    · exact wpOp_k ho hg h
    · exact wpOp_k ho2 hg2 h2
    · exact wpOp_k ho3 hg3 h3)
theorem all_four {P : Program} {md : Region.Mode} {ops : Array Oper} {Q : Exit → Act → World → Prop} {S : World → Prop} {i j k l : Nat} {o o2 o3 o4 : Oper} {fuel : Nat} {listed : Array Bool} {a : Act} {w : World} (hr : Region.ready md ops listed = [i, j, k, l]) (ho : ops[i]? = some o) (hg : o.guard = none) (ho2 : ops[j]? = some o2) (hg2 : o2.guard = none) (ho3 : ops[k]? = some o3) (hg3 : o3.guard = none) (ho4 : ops[l]? = some o4) (hg4 : o4.guard = none)
    (h : ∀ K' : Act → World → Prop, (∀ a' w', S w' ∧ wpAnyH P md ops Q S fuel (listed.setIfInBounds i true) a' w' → K' a' w') → o.wp P a w K' Q)
    (h2 : ∀ K' : Act → World → Prop, (∀ a' w', S w' ∧ wpAnyH P md ops Q S fuel (listed.setIfInBounds j true) a' w' → K' a' w') → o2.wp P a w K' Q)
    (h3 : ∀ K' : Act → World → Prop, (∀ a' w', S w' ∧ wpAnyH P md ops Q S fuel (listed.setIfInBounds k true) a' w' → K' a' w') → o3.wp P a w K' Q)
    (h4 : ∀ K' : Act → World → Prop, (∀ a' w', S w' ∧ wpAnyH P md ops Q S fuel (listed.setIfInBounds l true) a' w' → K' a' w') → o4.wp P a w K' Q) : wpAnyH P md ops Q S (fuel + 1) listed a w :=
  wpAnyH_all hr (by simp) (fun m hm => by
    simp only [List.mem_cons, List.not_mem_nil, or_false] at hm
    rcases hm with rfl | rfl | rfl | rfl
    · exact wpOp_k ho hg h
    · exact wpOp_k ho2 hg2 h2
    · exact wpOp_k ho3 hg3 h3
    · exact wpOp_k ho4 hg4 h4)
theorem oper_store {P : Program} {o : Oper} {a : Act} {w : World} {K : Act → World → Prop} {Q : Exit → Act → World → Prop} (hgd : o.guard = none) (hdn : o.dst = none) {T : TypeId} {x y : Operand} (ho : o.op = .store T x y) {b : Nat} (hx : a.eval x = .pointer (some ⟨b, 0, none⟩)) {cs us : List Value} (hy : a.eval y = .agg us.toArray) (hc : Blk w b cs T)
    (hi : (P.info? T).map (·.size) = some us.length) (hl : cs.length = us.length) (h1 : ∀ u ∈ us, u.oneCell' = true)
    (h : K a (w.setRow b us.toArray)) : o.wp P a w K Q := by
  unfold Oper.wp execOp
  simp only [ho, hx, hy, Instr.storeAt, Instr.sureAddr, Sem.run_bind, Sem.run_pure, Result.andThen_ok, run_storeVar_row w b T T cs.toArray us.toArray hc (by simpa using hi) (by simpa using hl) (all_oneCell_toArray h1)]
  have hp : a.put o.dst undef = a := by rw [hdn]; rfl
  show K (a.put o.dst undef) _
  rw [hp]
  exact h
end Go.Px
