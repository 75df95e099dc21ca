/- Mathematics: where few places differ, few pairs are looked at. -/
import Derived.Test.YtcpnobhdogpfiaaDoorM25c
namespace Go.Proofs.YtcpnobhdogpfiaaDoor
set_option maxRecDepth 20000
open Go.RowKit Go.Px
set_option linter.unusedVariables false
theorem nodup_le : ∀ (l m : List Nat), l.Nodup → (∀ x ∈ l, x ∈ m) → l.length ≤ m.length
  | [], m, _, _ => Nat.zero_le _
  | x :: l, m, hn, hs => by
    rw [List.nodup_cons] at hn
    have h1 := nodup_le l (m.erase x) hn.2 (fun y hy => (List.mem_erase_of_ne (fun e => hn.1 (by rw [← e]; exact hy))).2 (hs y (List.mem_cons_of_mem _ hy)))
    have hm := hs x (List.mem_cons_self ..)
    rw [List.length_erase_of_mem hm] at h1
    have := List.length_pos_of_mem hm
    rw [List.length_cons]
    omega
theorem piece_get (l : List Nat) (i q : Nat) : (pieceD l i)[q]? = if q < 4 then l[4 * i + q]? else none := by
  unfold pieceD
  rw [List.getElem?_take, List.getElem?_drop]
theorem upD_getq (l : List Nat) (i : Nat) : (upD l)[i]? = if i < upN l.length then some (rowD (pieceD l i)) else none := by
  unfold upD upTo
  rw [List.getElem?_map]
  by_cases h : i < upN l.length
  · rw [if_pos h, List.getElem?_range h]; rfl
  · rw [if_neg h, List.getElem?_eq_none (by simpa using h)]; rfl
theorem up_diff {A B : List Nat} {i : Nat} (hl : A.length = B.length) (hd : (upD A)[i]? ≠ (upD B)[i]?) : ∃ c, c / 4 = i ∧ A[c]? ≠ B[c]? := by
  apply Classical.byContradiction
  intro hc
  apply hd
  have hp : pieceD A i = pieceD B i := by
    apply List.ext_getElem?
    intro q
    rw [piece_get, piece_get]
    by_cases hq : q < 4
    · rw [if_pos hq, if_pos hq]
      apply Classical.byContradiction
      intro h
      exact hc ⟨4 * i + q, by omega, h⟩
    · rw [if_neg hq, if_neg hq]
  rw [upD_getq, upD_getq, hl, hp]
theorem lvD_next (k : Nat) : ∀ (f : Nat) (l : List Nat), k + 1 < (lvD f l).length → (lvD f l).getD (k + 1) [] = upD ((lvD f l).getD k []) := by
  induction k with
  | zero =>
    intro f l h
    cases f with
    | zero => simp [lvD] at h
    | succ f =>
      by_cases h1 : l.length ≤ 1
      · rw [lvD_one _ h1] at h; simp at h
      · rw [lvD_more (by omega)]
        obtain ⟨r, hr⟩ := lvD_head f (upD l)
        rw [hr]
        rfl
  | succ k ih =>
    intro f l h
    cases f with
    | zero => simp [lvD] at h
    | succ f =>
      by_cases h1 : l.length ≤ 1
      · rw [lvD_one _ h1] at h; simp at h
      · rw [lvD_more (by omega)] at h ⊢
        rw [List.length_cons] at h
        have := ih f (upD l) (by omega)
        simpa using this
/-- All places of a level that differ. -/
def udD (a b : List (List Nat)) (k : Nat) : List Nat := unD (a.getD k []) (b.getD k []) (List.range (a.getD k []).length)
theorem mem_unD {a b pl : List Nat} {i : Nat} : i ∈ unD a b pl ↔ i ∈ pl ∧ a[i]? ≠ b[i]? := by
  unfold unD
  rw [List.mem_filter, bne_iff_ne]
theorem unD_nodup {a b pl : List Nat} (h : pl.Nodup) : (unD a b pl).Nodup := by
  unfold unD
  exact h.sublist List.filter_sublist
theorem udD_step {la lb : List Nat} (h : Lv (treeD la) (treeD lb)) {k : Nat} (hk : k + 1 < (treeD la).length) : (udD (treeD la) (treeD lb) (k + 1)).length ≤ (udD (treeD la) (treeD lb) k).length := by
  rw [show (udD (treeD la) (treeD lb) k).length = ((udD (treeD la) (treeD lb) k).map (· / 4)).length from by simp]
  refine nodup_le _ _ (unD_nodup List.nodup_range) (fun i hi => ?_)
  unfold udD at hi
  rw [mem_unD] at hi
  obtain ⟨_, hd⟩ := hi
  have e1 : (treeD la).getD (k + 1) [] = upD ((treeD la).getD k []) := lvD_next k 6 la hk
  have e2 : (treeD lb).getD (k + 1) [] = upD ((treeD lb).getD k []) := lvD_next k 6 lb (by have := h.1; exact this ▸ hk)
  rw [e1, e2] at hd
  obtain ⟨c, hc, hne⟩ := up_diff (h.2.2.2.1 k) hd
  rw [List.mem_map]
  refine ⟨c, ?_, hc⟩
  unfold udD
  rw [mem_unD, List.mem_range]
  refine ⟨Nat.lt_of_not_le fun hle => hne ?_, hne⟩
  rw [List.getElem?_eq_none hle, List.getElem?_eq_none (by rw [← h.2.2.2.1 k]; exact hle)]
theorem udD_le {la lb : List Nat} (h : Lv (treeD la) (treeD lb)) : ∀ k, k < (treeD la).length → (udD (treeD la) (treeD lb) k).length ≤ (udD (treeD la) (treeD lb) 0).length
  | 0, _ => Nat.le_refl _
  | k + 1, hk => Nat.le_trans (udD_step h hk) (udD_le h k (by omega))
theorem belD_nodup (i n k : Nat) : (belD i n k).Nodup := by
  unfold belD
  refine List.Pairwise.map _ (fun a b hab e => hab (by omega)) List.nodup_range
theorem belD_div {i n k x : Nat} (hk : k ≤ 4) (h : x ∈ belD i n k) : x / 4 = i := by
  unfold belD at h
  rw [List.mem_map] at h
  obtain ⟨j, hj, rfl⟩ := h
  rw [List.mem_range] at hj
  omega
theorem belowD_div {pl : List Nat} {n x : Nat} (h : x ∈ belowD pl n) : x / 4 ∈ pl := by
  unfold belowD at h
  rw [List.mem_flatMap] at h
  obtain ⟨i, hi, hx⟩ := h
  rw [belD_div (by omega) hx]
  exact hi
theorem belowD_nodup : ∀ (pl : List Nat) (n : Nat), pl.Nodup → (belowD pl n).Nodup
  | [], n, _ => by simp [belowD]
  | i :: r, n, h => by
    rw [List.nodup_cons] at h
    show (belD i n 4 ++ belowD r n).Nodup
    rw [List.nodup_append]
    refine ⟨belD_nodup i n 4, belowD_nodup r n h.2, fun x hx y hy e => ?_⟩
    subst e
    exact h.1 (by have := belowD_div hy; rwa [belD_div (by omega) hx] at this)
theorem un_few {la lb : List Nat} (h : Lv (treeD la) (treeD lb)) {m : Nat} (hu : (udD (treeD la) (treeD lb) 0).length ≤ m) {k : Nat} (hk : k < (treeD la).length) {pl : List Nat} (hn : pl.Nodup) (hlt : ∀ x ∈ pl, x < ((treeD la).getD k []).length) : (unD ((treeD la).getD k []) ((treeD lb).getD k []) pl).length ≤ m := by
  refine Nat.le_trans (nodup_le _ (udD (treeD la) (treeD lb) k) (unD_nodup hn) (fun x hx => ?_)) (Nat.le_trans (udD_le h k hk) hu)
  rw [mem_unD] at hx
  unfold udD
  rw [mem_unD, List.mem_range]
  exact ⟨hlt x hx.1, hx.2⟩
theorem st_few {la lb : List Nat} (h : Lv (treeD la) (treeD lb)) {m : Nat} (hu : (udD (treeD la) (treeD lb) 0).length ≤ m) : ∀ j, j < (treeD la).length → (stD (treeD la) (treeD lb) j).1.Nodup ∧ (stD (treeD la) (treeD lb) (j + 1)).2 ≤ 1 + 4 * m * j ∧ (0 < j → (stD (treeD la) (treeD lb) j).1.length ≤ 4 * m)
  | 0, _ => ⟨by simp [stD], by simp [stD], fun h => by omega⟩
  | j + 1, hj => by
    obtain ⟨h1, h2, _⟩ := st_few h hu j (by omega)
    have hlt := stD_lt h j (by omega)
    have hun := un_few h hu (k := (treeD la).length - 1 - j) (by omega) h1 hlt
    have e : (stD (treeD la) (treeD lb) (j + 1)).1 = belowD (unD ((treeD la).getD ((treeD la).length - 1 - j) []) ((treeD lb).getD ((treeD la).length - 1 - j) []) (stD (treeD la) (treeD lb) j).1) ((treeD la).getD ((treeD la).length - 1 - j - 1) []).length := by
      rw [stD]; dsimp only; rw [if_neg (by omega)]
    have hl : (stD (treeD la) (treeD lb) (j + 1)).1.length ≤ 4 * m := by
      rw [e]
      exact Nat.le_trans (belowD_len _ _) (Nat.mul_le_mul_left 4 hun)
    refine ⟨by rw [e]; exact belowD_nodup _ _ (unD_nodup h1), ?_, fun _ => hl⟩
    have e2 : (stD (treeD la) (treeD lb) (j + 1 + 1)).2 = (stD (treeD la) (treeD lb) (j + 1)).2 + (stD (treeD la) (treeD lb) (j + 1)).1.length := rfl
    rw [e2, Nat.mul_succ]
    omega
theorem diff_few {la lb : List Nat} (h : Lv (treeD la) (treeD lb)) {m : Nat} (hu : (udD (treeD la) (treeD lb) 0).length ≤ m) : (stD (treeD la) (treeD lb) (treeD la).length).2 ≤ 1 + 4 * m * ((treeD la).length - 1) ∧ (stD (treeD la) (treeD lb) (treeD la).length).1.length ≤ m ∧ ∀ x ∈ (stD (treeD la) (treeD lb) (treeD la).length).1, x < la.length ∧ la[x]? ≠ lb[x]? := by
  have hL := h.2.1
  obtain ⟨j, hj⟩ : ∃ j, (treeD la).length = j + 1 := ⟨(treeD la).length - 1, by omega⟩
  obtain ⟨h1, h2, _⟩ := st_few h hu j (by omega)
  have hlt := stD_lt h j (by omega)
  have hk : (treeD la).length - 1 - j = 0 := by omega
  rw [hk] at hlt
  have hun := un_few h hu (k := 0) (by omega) h1 hlt
  have e : (stD (treeD la) (treeD lb) (j + 1)).1 = unD ((treeD la).getD 0 []) ((treeD lb).getD 0 []) (stD (treeD la) (treeD lb) j).1 := by
    rw [stD]; dsimp only; rw [if_pos hk, hk]
  obtain ⟨ra, hra⟩ := lvD_head 6 la
  obtain ⟨rb, hrb⟩ := lvD_head 6 lb
  have ea : (treeD la).getD 0 [] = la := by unfold treeD; rw [hra]; rfl
  have eb : (treeD lb).getD 0 [] = lb := by unfold treeD; rw [hrb]; rfl
  rw [hj, Nat.add_sub_cancel]
  refine ⟨h2, by rw [e]; exact hun, fun x hx => ?_⟩
  rw [e, mem_unD] at hx
  have := hlt x hx.1
  rw [ea] at this hx
  rw [eb] at hx
  exact ⟨this, hx.2⟩
theorem ud_puts {la lb : List Nat} {ps : List Nat} (h : ∀ i, i ∉ ps → la[i]? = lb[i]?) : (udD (treeD la) (treeD lb) 0).length ≤ ps.length := by
  obtain ⟨ra, hra⟩ := lvD_head 6 la
  obtain ⟨rb, hrb⟩ := lvD_head 6 lb
  have ea : (treeD la).getD 0 [] = la := by unfold treeD; rw [hra]; rfl
  have eb : (treeD lb).getD 0 [] = lb := by unfold treeD; rw [hrb]; rfl
  refine nodup_le _ _ (unD_nodup List.nodup_range) (fun i hi => ?_)
  unfold udD at hi
  rw [mem_unD, ea, eb] at hi
  apply Classical.byContradiction
  intro hn
  exact hi.2 (h i hn)
end Go.Proofs.YtcpnobhdogpfiaaDoor
