/- A region that draws its order, in the body of a deferred function that recovers. -/
import Derived.WalkKit
import Derived.Defers
import Derived.Recover
import Derived.Orders
set_option linter.unusedSimpArgs false
namespace Go
variable {P : Program} {Q : Exit → Act → List Frame → World → Prop} {a : Act} {cs : List Frame} {w : World}
theorem wpS_region_draw {id : Nat} {ops : Array Oper} (hm : P.follows .mixedOrders = true) (h : ∀ t, wpOpsS P ops Q (Region.linearise .any ops t) a cs w.drew) : (Code.region id ops true).wpS P Q a cs w :=
  fun b k hb hr => by
    have h' := h (w.tape w.drawn (.order b.fn id))
    have e : Region.schedule (P.follows .mixedOrders) ops (w.tape w.drawn (.order b.fn id)) = Region.linearise .any ops (w.tape w.drawn (.order b.fn id)) := by
      simp only [Region.schedule, hm, Bool.true_or, if_true]
    rw [← e] at h'
    let ⟨x, a', cs', w', q, r⟩ := wp_opsS _ a cs _ h' b k hb hr
    exact ⟨x, a', cs', w', q, .of_steps (.one step_region_draw) r⟩
theorem lin_two {ops : Array Oper} (hs : ops.size = 4) (h0 : Region.ready .any ops #[false, false, false, false] = [0, 1]) (h1 : Region.ready .any ops #[true, false, false, false] = [1]) (h2 : Region.ready .any ops #[false, true, false, false] = [0])
    (h3 : Region.ready .any ops #[true, true, false, false] = [2]) (h4 : Region.ready .any ops #[true, true, true, false] = [3]) (t : Nat) : Region.linearise .any ops t = [0, 1, 2, 3] ∨ Region.linearise .any ops t = [1, 0, 2, 3] := by
  have go1 : ∀ fuel t listed acc, Region.linearise.go .any ops (fuel + 1) t listed acc = match (Region.ready .any ops listed)[t % (Region.ready .any ops listed).length]? with
      | some i => Region.linearise.go .any ops fuel (t / (Region.ready .any ops listed).length) (listed.setIfInBounds i true) (i :: acc)
      | none => acc.reverse := fun _ _ _ _ => rfl
  unfold Region.linearise
  rw [hs, show Array.replicate 4 false = #[false, false, false, false] from rfl, go1, h0]
  rcases Nat.mod_two_eq_zero_or_one t with ht | ht
  · left
    simp only [List.length_cons, List.length_nil, ht]
    show Region.linearise.go .any ops 3 (t / 2) #[true, false, false, false] [0] = _
    rw [go1, h1]
    simp only [List.length_cons, List.length_nil, Nat.zero_add, Nat.mod_one]
    show Region.linearise.go .any ops 2 _ #[true, true, false, false] [1, 0] = _
    rw [go1, h3]
    simp only [List.length_cons, List.length_nil, Nat.zero_add, Nat.mod_one]
    show Region.linearise.go .any ops 1 _ #[true, true, true, false] [2, 1, 0] = _
    rw [go1, h4]
    simp only [List.length_cons, List.length_nil, Nat.zero_add, Nat.mod_one]
    rfl
  · right
    simp only [List.length_cons, List.length_nil, ht]
    show Region.linearise.go .any ops 3 (t / 2) #[false, true, false, false] [1] = _
    rw [go1, h2]
    simp only [List.length_cons, List.length_nil, Nat.zero_add, Nat.mod_one]
    show Region.linearise.go .any ops 2 _ #[true, true, false, false] [0, 1] = _
    rw [go1, h3]
    simp only [List.length_cons, List.length_nil, Nat.zero_add, Nat.mod_one]
    show Region.linearise.go .any ops 1 _ #[true, true, true, false] [2, 0, 1] = _
    rw [go1, h4]
    simp only [List.length_cons, List.length_nil, Nat.zero_add, Nat.mod_one]
    rfl
theorem wpS_two {id : Nat} {ops : Array Oper} (hm : P.follows .mixedOrders = true) (hs : ops.size = 4) (h0 : Region.ready .any ops #[false, false, false, false] = [0, 1]) (h1 : Region.ready .any ops #[true, false, false, false] = [1]) (h2 : Region.ready .any ops #[false, true, false, false] = [0])
    (h3 : Region.ready .any ops #[true, true, false, false] = [2]) (h4 : Region.ready .any ops #[true, true, true, false] = [3])
    (hA : wpOpsS P ops Q [0, 1, 2, 3] a cs w.drew) (hB : wpOpsS P ops Q [1, 0, 2, 3] a cs w.drew) : (Code.region id ops true).wpS P Q a cs w :=
  wpS_region_draw hm fun t => by
    rcases lin_two hs h0 h1 h2 h3 h4 t with h | h
    · rw [h]; exact hA
    · rw [h]; exact hB
end Go
