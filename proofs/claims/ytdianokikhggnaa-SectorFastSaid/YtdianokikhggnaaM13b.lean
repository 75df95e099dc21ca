/- Mathematics of groups: sets of nodes, the next group. -/
import Derived.Test.YtdianokikhggnaaM13
import Derived.Lib.SlicesCompact
import Derived.Sort.Grow
namespace Go.Px
set_option maxRecDepth 20000
open Go.Lib
abbrev Asc (l : List Int) : Prop := l.Pairwise (· < ·)
theorem asc_ext {a b : List Int} (ha : Asc a) (hb : Asc b) (h : ∀ x, x ∈ a ↔ x ∈ b) : a = b := by
  induction a generalizing b with
  | nil =>
    rcases b with _ | ⟨y, b⟩
    · rfl
    · exact absurd ((h y).2 (by simp)) (by simp)
  | cons x a ih =>
    rcases b with _ | ⟨y, b⟩
    · exact absurd ((h x).1 (by simp)) (by simp)
    · obtain ⟨ha1, ha2⟩ := List.pairwise_cons.1 ha
      obtain ⟨hb1, hb2⟩ := List.pairwise_cons.1 hb
      have hxy : x = y := by
        rcases List.mem_cons.1 ((h x).1 (by simp)) with h1 | h1
        · exact h1
        · rcases List.mem_cons.1 ((h y).2 (by simp)) with h2 | h2
          · exact h2.symm
          · have := hb1 x h1; have := ha1 y h2; omega
      subst hxy
      congr 1
      refine ih ha2 hb2 fun z => ⟨fun hz => ?_, fun hz => ?_⟩
      · rcases List.mem_cons.1 ((h z).1 (List.mem_cons_of_mem _ hz)) with h1 | h1
        · have := ha1 z hz; omega
        · exact h1
      · rcases List.mem_cons.1 ((h z).2 (List.mem_cons_of_mem _ hz)) with h1 | h1
        · have := hb1 z hz; omega
        · exact h1
theorem nodesOk_asc {l : List Int} (h : Asc l) : ∀ a, nodesOk a l = true ↔ ∀ x ∈ l, a < x ∧ x < 64 := by
  induction l with
  | nil => intro a; simp [nodesOk]
  | cons y l ih =>
    intro a
    obtain ⟨h1, h2⟩ := List.pairwise_cons.1 h
    rw [nodesOk, Bool.and_eq_true, Bool.and_eq_true, decide_eq_true_eq, decide_eq_true_eq, ih h2]
    constructor
    · rintro ⟨a1, a2, a3⟩ x hx
      rcases List.mem_cons.1 hx with rfl | hx
      · exact ⟨a1, a2⟩
      · have := a3 x hx; exact ⟨by omega, this.2⟩
    · intro hh
      refine ⟨(hh y (by simp)).1, (hh y (by simp)).2, fun x hx => ⟨h1 x hx, (hh x (List.mem_cons_of_mem _ hx)).2⟩⟩
theorem asc_of_nodes : ∀ {l : List Int} {a : Int}, nodesOk a l = true → Asc l ∧ ∀ x ∈ l, a < x ∧ x < 64
  | [], a, _ => ⟨List.Pairwise.nil, by simp⟩
  | y :: l, a, h => by
    rw [nodesOk, Bool.and_eq_true, Bool.and_eq_true, decide_eq_true_eq, decide_eq_true_eq] at h
    obtain ⟨i1, i2⟩ := asc_of_nodes h.2.2
    refine ⟨List.pairwise_cons.2 ⟨fun x hx => (i2 x hx).1, i1⟩, fun x hx => ?_⟩
    rcases List.mem_cons.1 hx with rfl | hx
    · exact ⟨h.1, h.2.1⟩
    · have := i2 x hx; exact ⟨by omega, this.2⟩
theorem compact_sorted (d : Array Int) (hs : ∀ i j, i < j → j < d.size → d[i]! ≤ d[j]!) : ∀ m, m ≤ d.size →
    Asc (compactUpTo d m) ∧ (∀ x, x ∈ compactUpTo d m ↔ ∃ j, j < m ∧ d[j]! = x)
  | 0, _ => ⟨by simp [compactUpTo], by simp [compactUpTo]⟩
  | m + 1, h => by
    obtain ⟨i1, i2⟩ := compact_sorted d hs m (by omega)
    rw [compactUpTo_succ]
    by_cases hk : keeps d m = true
    · rw [if_pos hk]
      refine ⟨List.pairwise_append.2 ⟨i1, by simp, fun x hx y hy => ?_⟩, fun x => ?_⟩
      · obtain ⟨j, hj, rfl⟩ := (i2 x).1 hx
        simp at hy
        subst hy
        have h1 := hs j m hj (by omega)
        have h2 : d[m - 1]! ≠ d[m]! := by
          unfold keeps at hk
          intro he
          rw [he] at hk
          simp at hk
          omega
        have h3 : d[j]! ≤ d[m - 1]! := by
          by_cases e : j = m - 1
          · subst e; exact Int.le_refl _
          · exact hs j (m - 1) (by omega) (by omega)
        have h4 := hs (m - 1) m (by omega) (by omega)
        omega
      · rw [List.mem_append, i2]
        constructor
        · rintro (⟨j, hj, rfl⟩ | hx)
          · exact ⟨j, by omega, rfl⟩
          · simp at hx; exact ⟨m, by omega, hx.symm⟩
        · rintro ⟨j, hj, rfl⟩
          by_cases e : j = m
          · subst e; exact .inr (by simp)
          · exact .inl ⟨j, by omega, rfl⟩
    · rw [if_neg hk, List.append_nil]
      refine ⟨i1, fun x => ?_⟩
      rw [i2]
      constructor
      · rintro ⟨j, hj, rfl⟩; exact ⟨j, by omega, rfl⟩
      · rintro ⟨j, hj, rfl⟩
        by_cases e : j = m
        · subst e
          have h2 : j ≠ 0 ∧ d[j - 1]! = d[j]! := by
            unfold keeps at hk
            simp at hk
            exact ⟨by omega, hk.2.symm⟩
          exact ⟨j - 1, by omega, h2.2⟩
        · exact ⟨j, by omega, rfl⟩
end Go.Px
