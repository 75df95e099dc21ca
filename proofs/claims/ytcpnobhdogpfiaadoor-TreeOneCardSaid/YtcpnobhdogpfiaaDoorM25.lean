/- Mathematics of trees of digests. -/
import Derived.Test.YtcpnobhdogpfiaaDoorM02
namespace Go.Proofs.YtcpnobhdogpfiaaDoor
set_option maxRecDepth 20000
open Go.Px
set_option linter.unusedVariables false
/-- A row's digest. -/
def rowD (l : List Nat) : Nat := moreN 0 (flatB 4 l)
theorem rowD_lt (l : List Nat) : rowD l < 4294967296 := moreN_lt _ _
theorem rowD_nil : rowD [] = 0 := moreN_nil 0 (by decide)
theorem rowD_snoc (l : List Nat) (k : Nat) (h : k < l.length) : rowD (l.take (k + 1)) = moreN (rowD (l.take k)) (leB 4 l[k]) := by
  unfold rowD; rw [flatB_snoc 4 l k h, moreN_append _ _ _ (by decide)]
/-- The j-th row of a level. -/
def pieceD (l : List Nat) (j : Nat) : List Nat := (l.drop (4 * j)).take 4
theorem pieceD_length (l : List Nat) (j : Nat) : (pieceD l j).length = min 4 (l.length - 4 * j) := by
  unfold pieceD; rw [List.length_take, List.length_drop]
def upN (n : Nat) : Nat := (n + 3) / 4
def upTo (l : List Nat) (j : Nat) : List Nat := (List.range j).map fun i => rowD (pieceD l i)
theorem upTo_length (l : List Nat) (j : Nat) : (upTo l j).length = j := by simp [upTo]
theorem upTo_succ (l : List Nat) (j : Nat) : upTo l (j + 1) = upTo l j ++ [rowD (pieceD l j)] := by simp [upTo, List.range_succ]
theorem upTo_get (l : List Nat) (j i : Nat) (h : i < j) : (upTo l j)[i]? = some (rowD (pieceD l i)) := by simp [upTo, h]
/-- The level above. -/
def upD (l : List Nat) : List Nat := upTo l (upN l.length)
theorem upD_length (l : List Nat) : (upD l).length = upN l.length := upTo_length _ _
theorem upD_lt (l : List Nat) : ∀ x ∈ upD l, x < 4294967296 := by
  intro x hx; unfold upD upTo at hx; rw [List.mem_map] at hx; obtain ⟨i, _, rfl⟩ := hx; exact rowD_lt _
theorem upN_lt {n : Nat} (h : 1 < n) : upN n < n := by unfold upN; omega
theorem upN_pos {n : Nat} (h : 0 < n) : 0 < upN n := by unfold upN; omega
/-- A tree's levels, the digests given first. -/
def lvD : Nat → List Nat → List (List Nat)
  | 0, l => [l]
  | f + 1, l => if l.length ≤ 1 then [l] else l :: lvD f (upD l)
theorem lvD_one (f : Nat) {l : List Nat} (h : l.length ≤ 1) : lvD f l = [l] := by
  cases f <;> simp [lvD, h]
theorem lvD_more {f : Nat} {l : List Nat} (h : 1 < l.length) : lvD (f + 1) l = l :: lvD f (upD l) := by
  simp [lvD, show ¬ l.length ≤ 1 by omega]
theorem lvD_ne (f : Nat) (l : List Nat) : lvD f l ≠ [] := by
  cases f with
  | zero => simp [lvD]
  | succ f => unfold lvD; split <;> simp
theorem upN_pow {n f : Nat} (h : n ≤ 4 ^ (f + 1)) : upN n ≤ 4 ^ f := by
  unfold upN; rw [Nat.pow_succ] at h; omega
/-- What a tree of some digests is: 4096 digests have six levels above. -/
def treeD (l : List Nat) : List (List Nat) := lvD 6 l
theorem lvD_head (f : Nat) (l : List Nat) : ∃ r, lvD f l = l :: r := by
  cases f with
  | zero => exact ⟨[], rfl⟩
  | succ f => unfold lvD; split
              · exact ⟨[], rfl⟩
              · exact ⟨_, rfl⟩
theorem lvD_last (f : Nat) : ∀ l : List Nat, 0 < l.length → l.length ≤ 4 ^ f → ∃ d, (lvD f l).getLast? = some [d] := by
  induction f with
  | zero => intro l h0 h1; rw [lvD_one 0 (by simpa using h1)]; match l, h0, h1 with
            | [d], _, _ => exact ⟨d, rfl⟩
            | a :: b :: r, _, h1 => simp at h1
  | succ f ih =>
    intro l h0 h1
    by_cases h : l.length ≤ 1
    · rw [lvD_one _ h]; match l, h0, h with
        | [d], _, _ => exact ⟨d, rfl⟩
        | a :: b :: r, _, h => simp at h
    · rw [lvD_more (by omega)]
      obtain ⟨d, hd⟩ := ih (upD l) (by rw [upD_length]; exact upN_pos h0) (by rw [upD_length]; exact upN_pow h1)
      refine ⟨d, ?_⟩
      rw [List.getLast?_cons, hd]; rfl
/-! ### proofs -/
/-- The rows on the way from a place up. -/
def provD : List (List Nat) → Nat → List (List Nat)
  | l :: l' :: ls, i => pieceD l (i / 4) :: provD (l' :: ls) (i / 4)
  | _, _ => []
theorem provD_one (l : List Nat) (i : Nat) : provD [l] i = [] := rfl
theorem pieceD_get (l : List Nat) (i : Nat) : (pieceD l (i / 4))[i % 4]? = l[i]? := by
  unfold pieceD
  rw [List.getElem?_take, if_pos (Nat.mod_lt _ (by decide)), List.getElem?_drop, Nat.div_add_mod]
theorem pieceD_at {l : List Nat} {i : Nat} (h : i < l.length) : i % 4 < (pieceD l (i / 4)).length := by
  rw [pieceD_length]; omega
theorem upD_get {l : List Nat} {i : Nat} (h : i < l.length) : (upD l)[i / 4]? = some (rowD (pieceD l (i / 4))) := by
  unfold upD; exact upTo_get _ _ _ (by unfold upN; omega)
theorem up_place {n i : Nat} (h : i < n) : i / 4 < upN n := by unfold upN; omega
/-- What a proof comes to: the digest of all, if it holds up to there. -/
def prvD : Nat → Nat → Nat → Nat → List (List Nat) → Option Nat
  | 0, _, _, d, rows => if rows = [] then some d else none
  | f + 1, n, i, d, rows => if n ≤ 1 then (if rows = [] then some d else none) else
      match rows with
      | [] => none
      | r :: rs => if r.length = min 4 (n - i / 4 * 4) ∧ r[i % 4]? = some d then prvD f (upN n) (i / 4) (rowD r) rs else none
theorem prvD_one (f : Nat) {n : Nat} (h : n ≤ 1) (i d : Nat) (rows : List (List Nat)) : prvD f n i d rows = if rows = [] then some d else none := by
  cases f <;> simp [prvD, h]
theorem prvD_nil {f n : Nat} (h : 1 < n) (i d : Nat) : prvD (f + 1) n i d [] = none := by
  simp [prvD, show ¬ n ≤ 1 by omega]
theorem prvD_yes {f n : Nat} (h : 1 < n) {i d : Nat} {r : List Nat} {rs : List (List Nat)} (h1 : r.length = min 4 (n - i / 4 * 4)) (h2 : r[i % 4]? = some d) : prvD (f + 1) n i d (r :: rs) = prvD f (upN n) (i / 4) (rowD r) rs := by
  simp only [prvD]; rw [if_neg (by omega), if_pos ⟨h1, h2⟩]
theorem prvD_no {f n : Nat} (h : 1 < n) {i d : Nat} {r : List Nat} {rs : List (List Nat)} (h1 : ¬ (r.length = min 4 (n - i / 4 * 4) ∧ r[i % 4]? = some d)) : prvD (f + 1) n i d (r :: rs) = none := by
  simp only [prvD]; rw [if_neg (by omega), if_neg h1]
theorem provD_more (f : Nat) {l : List Nat} (h : 1 < l.length) (i : Nat) : provD (lvD (f + 1) l) i = pieceD l (i / 4) :: provD (lvD f (upD l)) (i / 4) := by
  rw [lvD_more h]
  obtain ⟨r, hr⟩ := lvD_head f (upD l)
  rw [hr]; rfl
/-- A place's proof holds. -/
theorem prv_prove (f : Nat) : ∀ (l : List Nat) (i d : Nat), l.length ≤ 4 ^ f → l[i]? = some d → ∃ root, (lvD f l).getLast? = some [root] ∧ prvD f l.length i d (provD (lvD f l) i) = some root := by
  induction f with
  | zero =>
    intro l i d h1 hi
    obtain ⟨hl, he⟩ := List.getElem?_eq_some_iff.1 hi
    have h1' : l.length ≤ 1 := by simpa using h1
    match l, hl, h1' with
    | [a], hl, _ =>
      have : i = 0 := by simpa using hl
      subst this
      simp at he
      subst he
      exact ⟨a, rfl, rfl⟩
    | a :: b :: r, _, h => simp at h
  | succ f ih =>
    intro l i d h1 hi
    obtain ⟨hl, he⟩ := List.getElem?_eq_some_iff.1 hi
    by_cases h : l.length ≤ 1
    · match l, hl, h with
      | [a], hl, _ =>
        have : i = 0 := by simpa using hl
        subst this
        simp at he
        subst he
        exact ⟨a, by rw [lvD_one _ (by simp)]; rfl, by rw [lvD_one _ (by simp), provD_one, prvD_one _ (by simp)]; rfl⟩
      | a :: b :: r, _, h => simp at h
    · have h' : 1 < l.length := by omega
      rw [provD_more f h', prvD_yes h' (by rw [pieceD_length]; omega) (by rw [pieceD_get]; exact hi), lvD_more h', ← upD_length]
      obtain ⟨root, hr, hp⟩ := ih (upD l) (i / 4) _ (by rw [upD_length]; exact upN_pow h1) (upD_get hl)
      refine ⟨root, ?_, hp⟩
      rw [List.getLast?_cons, hr]; rfl
/-- .. and of no other digest. -/
theorem prv_other (f : Nat) (l : List Nat) (i d x : Nat) (h1 : l.length ≤ 4 ^ f) (hi : l[i]? = some d) (hx : x ≠ d) : ∀ root, (lvD f l).getLast? = some [root] → prvD f l.length i x (provD (lvD f l) i) ≠ some root := by
  intro root hr hp
  obtain ⟨hl, he⟩ := List.getElem?_eq_some_iff.1 hi
  by_cases h : l.length ≤ 1
  · rw [lvD_one _ h] at hr hp
    rw [provD_one, prvD_one _ h, if_pos rfl] at hp
    match l, hl, h with
    | [a], hl, _ =>
      have : i = 0 := by simpa using hl
      subst this
      simp at he hr hp
      subst he
      omega
    | a :: b :: r, _, h => simp at h
  · cases f with
    | zero => simp at h1; omega
    | succ f =>
      rw [provD_more f (by omega), prvD_no (by omega) (by rw [pieceD_get, hi]; rintro ⟨_, h⟩; injection h with h; exact hx h.symm)] at hp
      cases hp
/-! ### where two trees differ -/
def unD (a b : List Nat) (pl : List Nat) : List Nat := pl.filter fun i => a[i]? != b[i]?
theorem unD_snoc (a b pl : List Nat) (k : Nat) (h : k < pl.length) : unD a b (pl.take (k + 1)) = unD a b (pl.take k) ++ (if a[pl[k]]? != b[pl[k]]? then [pl[k]] else []) := by
  unfold unD
  rw [List.take_succ_eq_append_getElem h, List.filter_append]
  cases he : (a[pl[k]]? != b[pl[k]]?) <;> simp [he]
def belD (i n k : Nat) : List Nat := (List.range (min k (n - 4 * i))).map fun j => 4 * i + j
theorem belD_snoc (i n k : Nat) : belD i n (k + 1) = belD i n k ++ (if 4 * i + k < n then [4 * i + k] else []) := by
  unfold belD
  by_cases h : 4 * i + k < n
  · rw [if_pos h, Nat.min_eq_left (by omega), Nat.min_eq_left (by omega), List.range_succ, List.map_append]; rfl
  · rw [if_neg h, List.append_nil, Nat.min_eq_right (by omega), Nat.min_eq_right (by omega)]
def belowD (pl : List Nat) (n : Nat) : List Nat := pl.flatMap fun i => belD i n 4
theorem belowD_snoc (pl : List Nat) (n k : Nat) (h : k < pl.length) : belowD (pl.take (k + 1)) n = belowD (pl.take k) n ++ belD pl[k] n 4 := by
  unfold belowD; rw [List.take_succ_eq_append_getElem h, List.flatMap_append, List.flatMap_singleton]
theorem belowD_lt (pl : List Nat) (n : Nat) : ∀ i ∈ belowD pl n, i < n := by
  intro i hi
  unfold belowD belD at hi
  rw [List.mem_flatMap] at hi
  obtain ⟨p, _, hp⟩ := hi
  rw [List.mem_map] at hp
  obtain ⟨j, hj, rfl⟩ := hp
  rw [List.mem_range] at hj
  omega
def dfD : List (List Nat × List Nat) → List Nat → List Nat × Nat
  | [], pl => (pl, 0)
  | [x], pl => (unD x.1 x.2 pl, pl.length)
  | x :: y :: r, pl => ((dfD (y :: r) (belowD (unD x.1 x.2 pl) y.1.length)).1, pl.length + (dfD (y :: r) (belowD (unD x.1 x.2 pl) y.1.length)).2)
def topsD (a b : List (List Nat)) : Nat → List (List Nat × List Nat)
  | 0 => []
  | k + 1 => (a.getD k [], b.getD k []) :: topsD a b k
def diffD (a b : List (List Nat)) : List Nat × Nat := dfD (topsD a b a.length) [0]
end Go.Proofs.YtcpnobhdogpfiaaDoor
