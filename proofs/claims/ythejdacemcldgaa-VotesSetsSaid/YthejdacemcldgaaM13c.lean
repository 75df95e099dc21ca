/- Mathematics of groups: the next one. -/
import Derived.Test.YthejdacemcldgaaF13d
import Derived.Test.YthejdacemcldgaaM13b
namespace Go.Proofs.Ythejdacemcldgaa
set_option maxRecDepth 20000
open Go.RowKit Go.Px
set_option linter.unusedVariables false

def nextL (ms add drop : List Int) : List Int := ((List.range 64).map Int.ofNat).filter fun x => (inB ms x || inB add x) && !inB drop x
def nextBad (add drop : List Int) : Bool := add.any fun a => decide (a < 0 ∨ 64 ≤ a) && !inB drop a
def nextE (e : Int) (ms add drop : List Int) : Int := if grpOk e ms = true ∧ nextBad add drop = false ∧ grpOk (e + 1) (nextL ms add drop) = true then 0 else 130
def nextEp (e : Int) (ms add drop : List Int) : Int := if nextE e ms add drop = 0 then e + 1 else 0
def nextM (e : Int) (ms add drop : List Int) : List Int := if nextE e ms add drop = 0 then nextL ms add drop else []
theorem nextE_two (e : Int) (ms add drop : List Int) : nextE e ms add drop = 0 ∨ nextE e ms add drop = 130 := by unfold nextE; split <;> simp
theorem next_no {e : Int} {ms add drop : List Int} (h : nextE e ms add drop = 130) : nextEp e ms add drop = 0 ∧ nextM e ms add drop = [] := by
  unfold nextEp nextM; rw [h]; exact ⟨rfl, rfl⟩
theorem next_yes {e : Int} {ms add drop : List Int} (h : nextE e ms add drop = 0) : nextEp e ms add drop = e + 1 ∧ nextM e ms add drop = nextL ms add drop := by
  unfold nextEp nextM; rw [h]; exact ⟨rfl, rfl⟩
theorem mem_nextL {ms add drop : List Int} {x : Int} : x ∈ nextL ms add drop ↔ (0 ≤ x ∧ x < 64) ∧ (x ∈ ms ∨ x ∈ add) ∧ x ∉ drop := by
  unfold nextL inB
  rw [List.mem_filter]
  have h1 : x ∈ (List.range 64).map Int.ofNat ↔ 0 ≤ x ∧ x < 64 := by
    rw [List.mem_map]
    constructor
    · rintro ⟨k, hk, rfl⟩
      have := List.mem_range.1 hk
      exact ⟨Int.natCast_nonneg k, by show ((k : Nat) : Int) < 64; omega⟩
    · rintro ⟨h1, h2⟩
      exact ⟨x.toNat, List.mem_range.2 (by omega), by show ((x.toNat : Nat) : Int) = x; omega⟩
  rw [h1]
  simp
theorem nextL_asc (ms add drop : List Int) : Asc (nextL ms add drop) := by
  unfold nextL
  refine List.Pairwise.filter _ ?_
  rw [List.pairwise_map]
  refine List.Pairwise.imp ?_ (List.pairwise_lt_range (n := 64))
  intro a b h
  show ((a : Nat) : Int) < b
  omega
theorem nextL_le (ms add drop : List Int) : (nextL ms add drop).length ≤ 64 := by
  unfold nextL
  refine Nat.le_trans (List.length_filter_le _ _) ?_
  simp
theorem next_of_set {e : Int} {ms add drop l : List Int} (hg : grpOk e ms = true) (ha : Asc l) (hm : ∀ x, x ∈ l ↔ (x ∈ ms ∨ x ∈ add) ∧ x ∉ drop) :
    (grpOk (e + 1) l = true → nextE e ms add drop = 0 ∧ nextEp e ms add drop = e + 1 ∧ nextM e ms add drop = l) ∧ (grpOk (e + 1) l = false → nextE e ms add drop = 130) := by
  have hms := asc_of_nodes (grpOk_nodes hg)
  have heq : (∀ x ∈ l, 0 ≤ x ∧ x < 64) → l = nextL ms add drop := fun h => asc_ext ha (nextL_asc _ _ _) fun x => by
    rw [mem_nextL, hm]
    constructor
    · intro hx; exact ⟨h x ((hm x).2 hx), hx⟩
    · exact fun hx => hx.2
  constructor
  · intro h
    have hr := (asc_of_nodes (grpOk_nodes h)).2
    have hl := heq fun x hx => by have := hr x hx; omega
    have hb : nextBad add drop = false := by
      unfold nextBad
      rw [List.any_eq_false]
      intro a hadd hbad
      unfold inB at hbad
      simp at hbad
      have := hr a ((hm a).2 ⟨.inr hadd, hbad.2⟩)
      omega
    have hE : nextE e ms add drop = 0 := by
      unfold nextE; rw [if_pos ⟨hg, hb, by rw [← hl]; exact h⟩]
    exact ⟨hE, (next_yes hE).1, by rw [(next_yes hE).2, hl]⟩
  · intro h
    unfold nextE
    rw [if_neg]
    rintro ⟨_, hb, h2⟩
    have hl := heq fun x hx => by
      obtain ⟨h1, h3⟩ := (hm x).1 hx
      rcases h1 with h1 | h1
      · have := hms.2 x h1; omega
      · unfold nextBad at hb
        rw [List.any_eq_false] at hb
        have := hb x h1
        unfold inB at this
        simp [h3] at this
        omega
    rw [← hl, h] at h2
    cases h2
end Go.Proofs.Ythejdacemcldgaa
