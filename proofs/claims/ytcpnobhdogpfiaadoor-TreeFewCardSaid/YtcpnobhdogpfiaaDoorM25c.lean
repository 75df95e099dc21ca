/- Mathematics: where two trees differ, level by level. -/
import Derived.Test.YtcpnobhdogpfiaaDoorM25b
namespace Go.Proofs.YtcpnobhdogpfiaaDoor
set_option maxRecDepth 20000
open Go.RowKit Go.Px
set_option linter.unusedVariables false
/-- A row of places as cells. -/
def nis (l : List Nat) : List Value := l.map fun x : Nat => Value.int .i64 (x : Int)
theorem nis_length (l : List Nat) : (nis l).length = l.length := by unfold nis; simp
theorem nis_append (a b : List Nat) : nis (a ++ b) = nis a ++ nis b := by unfold nis; simp
theorem nis_get {l : List Nat} {k : Nat} (h : k < l.length) : (nis l)[k]? = some (.int .i64 (l[k] : Nat)) := by unfold nis; simp [h]
theorem nis_one (l : List Nat) : ∀ u ∈ nis l, u.oneCell' = true := by
  intro u hu; unfold nis at hu; rw [List.mem_map] at hu; obtain ⟨x, _, rfl⟩ := hu; rfl
/-- Behind j levels: the places that are looked at next, and the pairs so far. -/
def stD (a b : List (List Nat)) : Nat → List Nat × Nat
  | 0 => ([0], 0)
  | j + 1 => (if a.length - 1 - j = 0 then unD (a.getD (a.length - 1 - j) []) (b.getD (a.length - 1 - j) []) (stD a b j).1 else belowD (unD (a.getD (a.length - 1 - j) []) (b.getD (a.length - 1 - j) []) (stD a b j).1) (a.getD (a.length - 1 - j - 1) []).length, (stD a b j).2 + (stD a b j).1.length)
/-- Two trees of one form. -/
def Lv (a b : List (List Nat)) : Prop := a.length = b.length ∧ 1 ≤ a.length ∧ a.length ≤ 7 ∧ (∀ k, (a.getD k []).length = (b.getD k []).length) ∧ (a.getD (a.length - 1) []).length = 1 ∧ ∀ k, (a.getD k []).length ≤ 4096
theorem lvD_shape (f : Nat) : ∀ la lb : List Nat, la.length = lb.length → (lvD f la).map List.length = (lvD f lb).map List.length := by
  induction f with
  | zero => intro la lb h; simp [lvD, h]
  | succ f ih =>
    intro la lb h
    by_cases h1 : la.length ≤ 1
    · rw [lvD_one _ h1, lvD_one _ (by omega)]; simp [h]
    · have e := ih (upD la) (upD lb) (by simp only [upD_length, h])
      rw [lvD_more (by omega), lvD_more (by omega), List.map_cons, List.map_cons, h, e]
theorem lvD_few (f : Nat) : ∀ l : List Nat, (lvD f l).length ≤ f + 1 := by
  induction f with
  | zero => intro l; simp [lvD]
  | succ f ih =>
    intro l
    by_cases h1 : l.length ≤ 1
    · rw [lvD_one _ h1]; simp
    · rw [lvD_more (by omega), List.length_cons]; have := ih (upD l); omega
theorem lvD_small (f : Nat) : ∀ l : List Nat, l.length ≤ 4096 → ∀ r ∈ lvD f l, r.length ≤ 4096 := by
  induction f with
  | zero => intro l h r hr; simp [lvD] at hr; rw [hr]; exact h
  | succ f ih =>
    intro l h r hr
    by_cases h1 : l.length ≤ 1
    · rw [lvD_one _ h1] at hr; simp at hr; rw [hr]; exact h
    · rw [lvD_more (by omega), List.mem_cons] at hr
      rcases hr with rfl | hr
      · exact h
      · exact ih (upD l) (by rw [upD_length]; unfold upN; omega) r hr
theorem getD_len (ls : List (List Nat)) (k : Nat) : (ls.getD k []).length = (ls.map List.length).getD k 0 := by
  rw [List.getD_eq_getElem?_getD, List.getD_eq_getElem?_getD, List.getElem?_map]
  cases ls[k]? <;> rfl
theorem lv_tree {la lb : List Nat} (h : la.length = lb.length) (h1 : 1 ≤ la.length) (h2 : la.length ≤ 4096) : Lv (treeD la) (treeD lb) := by
  have hs : (treeD la).map List.length = (treeD lb).map List.length := lvD_shape 6 la lb h
  refine ⟨by rw [← List.length_map (f := List.length), hs, List.length_map], ?_, lvD_few 6 la, fun k => by rw [getD_len, getD_len, hs], ?_, fun k => ?_⟩
  · have := lvD_ne 6 la
    have h' : (treeD la).length ≠ 0 := fun e => this (List.length_eq_zero_iff.1 e)
    omega
  · obtain ⟨d, hd⟩ := lvD_last 6 la h1 (Nat.le_trans h2 (by decide))
    rw [List.getLast?_eq_getElem?] at hd
    rw [List.getD_eq_getElem?_getD]
    rw [show (treeD la)[(treeD la).length - 1]? = some [d] from hd]
    rfl
  · rw [List.getD_eq_getElem?_getD]
    cases hk : (treeD la)[k]? with
    | none => simp
    | some r => exact lvD_small 6 la h2 r (List.mem_of_getElem? hk)
theorem belD_len (i n k : Nat) : (belD i n k).length ≤ k := by unfold belD; simp; omega
theorem belowD_len (pl : List Nat) (n : Nat) : (belowD pl n).length ≤ 4 * pl.length := by
  induction pl with
  | nil => simp [belowD]
  | cons i r ih =>
    unfold belowD at ih ⊢
    rw [List.flatMap_cons, List.length_append, List.length_cons]
    have := belD_len i n 4
    omega
theorem unD_len (a b pl : List Nat) : (unD a b pl).length ≤ pl.length := by unfold unD; exact List.length_filter_le _ _
theorem belD_end {i n k : Nat} (hk : k ≤ 4) (h : k = 4 ∨ n ≤ 4 * i + k) : belD i n k = belD i n 4 := by
  unfold belD
  rcases h with rfl | h
  · rfl
  · rw [Nat.min_eq_right (by omega), Nat.min_eq_right (by omega)]
theorem stD_len (a b : List (List Nat)) (j : Nat) : (stD a b j).1.length ≤ 4 ^ j := by
  induction j with
  | zero => simp [stD]
  | succ j ih =>
    have h1 := unD_len (a.getD (a.length - 1 - j) []) (b.getD (a.length - 1 - j) []) (stD a b j).1
    rw [stD, Nat.pow_succ]
    dsimp only
    split
    · omega
    · have := belowD_len (unD (a.getD (a.length - 1 - j) []) (b.getD (a.length - 1 - j) []) (stD a b j).1) (a.getD (a.length - 1 - j - 1) []).length
      omega
theorem stD_len6 (a b : List (List Nat)) {j : Nat} (h : j ≤ 6) : (stD a b j).1.length ≤ 4096 := Nat.le_trans (stD_len a b j) (Nat.pow_le_pow_right (by decide) h)
theorem stD_cnt (a b : List (List Nat)) (j : Nat) (h : j ≤ 7) : (stD a b j).2 ≤ 4096 * j := by
  induction j with
  | zero => simp [stD]
  | succ j ih =>
    have := ih (by omega)
    have := stD_len6 a b (j := j) (by omega)
    rw [stD]
    dsimp only
    omega
theorem stD_lt {a b : List (List Nat)} (h : Lv a b) (j : Nat) (hj : j < a.length) : ∀ x ∈ (stD a b j).1, x < (a.getD (a.length - 1 - j) []).length := by
  obtain ⟨_, _, _, _, h1, _⟩ := h
  cases j with
  | zero => intro x hx; simp [stD] at hx; rw [Nat.sub_zero, h1]; omega
  | succ j =>
    intro x hx
    rw [stD] at hx
    dsimp only at hx
    rw [if_neg (by omega)] at hx
    rw [show a.length - 1 - (j + 1) = a.length - 1 - j - 1 by omega]
    exact belowD_lt _ _ x hx
theorem un_eq {a b pl : List Nat} {k i x y : Nat} (hk : k < pl.length) (hi : pl[k] = i) (ha : a[i]? = some x) (hb : b[i]? = some y) : unD a b (pl.take (k + 1)) = unD a b (pl.take k) ++ (if x = y then [] else [i]) := by
  rw [unD_snoc a b pl k hk, hi, ha, hb]
  by_cases h : x = y
  · subst h; simp
  · simp [h]
end Go.Proofs.YtcpnobhdogpfiaaDoor
