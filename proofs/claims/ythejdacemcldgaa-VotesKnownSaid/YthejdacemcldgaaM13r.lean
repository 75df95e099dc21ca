/- Mathematics of groups: sets as bits, quorums. -/
import Derived.Test.YthejdacemcldgaaM13c
namespace Go.Proofs.Ythejdacemcldgaa
set_option maxRecDepth 20000
open Go.RowKit Go.Px
set_option linter.unusedVariables false

def bitsN : List Bool → Nat
  | [] => 0
  | b :: l => b.toNat + 2 * bitsN l
theorem bitsN_lt : ∀ l : List Bool, bitsN l < 2 ^ l.length
  | [] => by simp [bitsN]
  | b :: l => by
    have := bitsN_lt l
    have hb : b.toNat ≤ 1 := by cases b <;> simp
    rw [bitsN, List.length_cons, Nat.pow_succ]; omega
theorem bitsN_or : ∀ (l : List Bool) (i : Nat), i < l.length → bitsN l ||| 2 ^ i = bitsN (l.set i true)
  | [], i, h => by simp at h
  | b :: l, 0, _ => by
    show (b.toNat + 2 * bitsN l) ||| 1 = true.toNat + 2 * bitsN l
    apply Nat.eq_of_testBit_eq
    intro j
    rw [Nat.testBit_or]
    cases j with
    | zero => cases b <;> simp [Nat.testBit_zero, Nat.add_mod]
    | succ j =>
      rw [Nat.testBit_succ, Nat.testBit_succ, Nat.testBit_succ]
      have e1 : (b.toNat + 2 * bitsN l) / 2 = bitsN l := by cases b <;> simp <;> omega
      have e2 : (true.toNat + 2 * bitsN l) / 2 = bitsN l := by simp; omega
      rw [e1, e2]; simp
  | b :: l, i + 1, h => by
    have ih := bitsN_or l i (by simpa using h)
    show (b.toNat + 2 * bitsN l) ||| 2 ^ (i + 1) = b.toNat + 2 * bitsN (l.set i true)
    rw [← ih]
    apply Nat.eq_of_testBit_eq
    intro j
    rw [Nat.testBit_or]
    cases j with
    | zero =>
      rw [Nat.testBit_zero, Nat.testBit_zero, Nat.testBit_zero, Nat.pow_succ]
      cases b <;> simp <;> omega
    | succ j =>
      rw [Nat.testBit_succ, Nat.testBit_succ, Nat.testBit_succ]
      have e1 : (b.toNat + 2 * bitsN l) / 2 = bitsN l := by cases b <;> simp <;> omega
      have e2 : (b.toNat + 2 * (bitsN l ||| 2 ^ i)) / 2 = bitsN l ||| 2 ^ i := by cases b <;> simp <;> omega
      have e3 : 2 ^ (i + 1) / 2 = 2 ^ i := by rw [Nat.pow_succ]; omega
      rw [e1, e2, e3, Nat.testBit_or]
def popN : Nat → Nat → Nat
  | 0, _ => 0
  | f + 1, n => n % 2 + popN f (n / 2)
theorem popN_bits : ∀ (f : Nat) (l : List Bool), l.length ≤ f → popN f (bitsN l) = l.count true
  | 0, [], _ => rfl
  | 0, _ :: _, h => by simp at h
  | f + 1, [], _ => by
    have := popN_bits f [] (by simp)
    show 0 % 2 + popN f (0 / 2) = 0
    simp [bitsN] at this
    simpa using this
  | f + 1, b :: l, h => by
    have ih := popN_bits f l (by simpa using h)
    show (b.toNat + 2 * bitsN l) % 2 + popN f ((b.toNat + 2 * bitsN l) / 2) = _
    have e1 : (b.toNat + 2 * bitsN l) / 2 = bitsN l := by cases b <;> simp <;> omega
    have e2 : (b.toNat + 2 * bitsN l) % 2 = b.toNat := by cases b <;> simp <;> omega
    rw [e1, e2, ih]
    cases b <;> simp <;> omega

/-- Which members are among some nodes. -/
def among (ms l : List Int) : List Bool := ms.map fun m => inB l m
theorem among_length (ms l : List Int) : (among ms l).length = ms.length := by simp [among]
def reachN (ms l : List Int) : Nat := (among ms l).count true
def reachB (ms l : List Int) : Bool := decide (ms.length / 2 + 1 ≤ reachN ms l)
theorem inB_snoc (l : List Int) (k : Nat) (h : k < l.length) (m : Int) : inB (l.take (k + 1)) m = (inB (l.take k) m || decide (m = l[k])) := by
  unfold inB
  rw [Bool.eq_iff_iff, Bool.or_eq_true, decide_eq_true_eq, decide_eq_true_eq, decide_eq_true_eq, List.take_succ_eq_append_getElem h, List.mem_append, List.mem_singleton]
theorem among_get (ms l : List Int) (j : Nat) (h : j < ms.length) (h' : j < (among ms l).length) : (among ms l)[j] = inB l ms[j] := by
  simp [among]
theorem among_none {ms l : List Int} {k : Nat} (h : k < l.length) (hn : inB ms l[k] = false) : among ms (l.take (k + 1)) = among ms (l.take k) := by
  unfold among
  refine List.map_congr_left fun m hm => ?_
  rw [inB_snoc l k h]
  have hne : m ≠ l[k] := fun e => by subst e; unfold inB at hn; simp at hn; exact hn hm
  rw [decide_eq_false hne, Bool.or_false]
theorem among_set {ms l : List Int} {k i : Nat} (ha : Asc ms) (h : k < l.length) (hi : i < ms.length) (he : ms[i] = l[k]) : among ms (l.take (k + 1)) = (among ms (l.take k)).set i true := by
  refine List.ext_getElem (by rw [List.length_set, among_length, among_length]) fun j h1 h2 => ?_
  have h3 : j < ms.length := by rwa [among_length] at h1
  rw [List.getElem_set, among_get _ _ _ h3 h1, inB_snoc l k h]
  by_cases hij : i = j
  · subst hij; rw [if_pos rfl, he]; simp
  · rw [if_neg hij, among_get _ _ _ h3]
    have hne : ms[j] ≠ l[k] := fun e => by
      rw [← he] at e
      rcases Nat.lt_trichotomy i j with h3' | h3' | h3'
      · have := List.pairwise_iff_getElem.1 ha i j hi h3 h3'; omega
      · exact hij h3'
      · have := List.pairwise_iff_getElem.1 ha j i h3 hi h3'; omega
    rw [decide_eq_false hne, Bool.or_false]
theorem count_two (f g : Int → Bool) : ∀ ms : List Int, ms.length < (ms.map f).count true + (ms.map g).count true → ∃ m ∈ ms, f m = true ∧ g m = true
  | [], h => by simp at h
  | m :: ms, h => by
    by_cases hh : f m = true ∧ g m = true
    · exact ⟨m, by simp, hh⟩
    · have : ms.length < (ms.map f).count true + (ms.map g).count true := by
        simp only [List.map_cons, List.count_cons, List.length_cons] at h
        cases hf : f m <;> cases hg : g m <;> simp_all <;> omega
      obtain ⟨x, hx, h2⟩ := count_two f g ms this
      exact ⟨x, List.mem_cons_of_mem _ hx, h2⟩
theorem two_quorums {ms a b : List Int} (ha : reachB ms a = true) (hb : reachB ms b = true) : ∃ k, ∃ h : k < a.length, inB b a[k] = true ∧ inB ms a[k] = true := by
  unfold reachB at ha hb
  rw [decide_eq_true_eq] at ha hb
  unfold reachN among at ha hb
  obtain ⟨m, hm, h1, h2⟩ := count_two (fun m => inB a m) (fun m => inB b m) ms (by omega)
  have h1' : m ∈ a := by unfold inB at h1; simpa using h1
  obtain ⟨k, hk, rfl⟩ := List.getElem_of_mem h1'
  exact ⟨k, hk, h2, by unfold inB; exact decide_eq_true hm⟩
/-- The place of an element in an ascending row. -/
theorem asc_place {ms : List Int} (ha : Asc ms) {i : Nat} (hi : i < ms.length) : ms.countP (· < ms[i]) = i := by
  have e : ms = ms.take i ++ ms.drop i := (List.take_append_drop i ms).symm
  have h1 : (ms.take i).countP (· < ms[i]) = i := by
    have : (ms.take i).countP (fun x => decide (x < ms[i])) = (ms.take i).length := by
      rw [List.countP_eq_length]
      intro x hx
      obtain ⟨j, hj, rfl⟩ := List.getElem_of_mem hx
      rw [List.length_take] at hj
      rw [List.getElem_take]
      exact decide_eq_true (List.pairwise_iff_getElem.1 ha j i (by omega) hi (by omega))
    rw [this, List.length_take]; omega
  have h2 : (ms.drop i).countP (· < ms[i]) = 0 := by
    rw [List.countP_eq_zero]
    intro x hx
    obtain ⟨j, hj, rfl⟩ := List.getElem_of_mem hx
    rw [List.length_drop] at hj
    rw [List.getElem_drop]
    have h3 : ms[i] ≤ ms[i + j] := by
      by_cases h0 : j = 0
      · subst h0; exact Int.le_refl _
      · have := List.pairwise_iff_getElem.1 ha i (i + j) hi (by omega) (by omega); omega
    simp; omega
  calc ms.countP (· < ms[i]) = (ms.take i ++ ms.drop i).countP (· < ms[i]) := by rw [List.take_append_drop]
    _ = i := by rw [List.countP_append, h1, h2]; omega
end Go.Proofs.Ythejdacemcldgaa
