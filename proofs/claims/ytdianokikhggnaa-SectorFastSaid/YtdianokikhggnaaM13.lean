/- Mathematics of groups. -/
import Derived.Test.YtdianokikhggnaaLib
namespace Go.Px
set_option maxRecDepth 20000
/-- Members ascend, from behind a on, and are below 64. -/
def nodesOk : Int → List Int → Bool
  | _, [] => true
  | a, m :: l => decide (a < m) && (decide (m < 64) && nodesOk m l)
def numB (v : Int) : Bool := decide (0 ≤ v ∧ v ≤ 4611686018427387904)
def nodeB (v : Int) : Bool := decide (0 ≤ v ∧ v < 64)
def grpOk (e : Int) (ms : List Int) : Bool := decide (0 ≤ e ∧ e ≤ 4611686018427387904) && (decide (1 ≤ ms.length ∧ ms.length ≤ 9) && nodesOk (-1) ms)
theorem nodesOk_step {a : Int} {ms : List Int} {k : Nat} (h : k < ms.length) : nodesOk a (ms.drop k) = (decide (a < ms[k]) && (decide (ms[k] < 64) && nodesOk ms[k] (ms.drop (k + 1)))) := by
  rw [List.drop_eq_getElem_cons h]; rfl
theorem nodesOk_bad {a : Int} {ms : List Int} {k : Nat} (h : k < ms.length) (hb : ms[k] ≤ a ∨ 64 ≤ ms[k]) : nodesOk a (ms.drop k) = false := by
  rw [nodesOk_step h]
  rcases hb with hb | hb
  · rw [decide_eq_false (by omega)]; rfl
  · rw [decide_eq_false (show ¬ ms[k] < 64 by omega)]; simp
theorem nodesOk_good {a : Int} {ms : List Int} {k : Nat} (h : k < ms.length) (h1 : a < ms[k]) (h2 : ms[k] < 64) : nodesOk a (ms.drop k) = nodesOk ms[k] (ms.drop (k + 1)) := by
  rw [nodesOk_step h, decide_eq_true h1, decide_eq_true h2]; rfl
theorem nodesOk_end {a : Int} {ms : List Int} {k : Nat} (h : ms.length ≤ k) : nodesOk a (ms.drop k) = true := by
  rw [List.drop_eq_nil_of_le h]; rfl
/-- The one ahead of place k. -/
def prevI (ms : List Int) (k : Nat) : Int := if k = 0 then -1 else ms.getD (k - 1) 0
def chkE (e : Int) (ms : List Int) : Int := if grpOk e ms = true then 0 else 130
theorem chk_ok {e : Int} {ms : List Int} (h : grpOk e ms = true) : chkE e ms = 0 := if_pos h
theorem chk_bad {e : Int} {ms : List Int} (h : grpOk e ms = false) : chkE e ms = 130 := if_neg (by rw [h]; decide)
theorem grpOk_len {e : Int} {ms : List Int} (h : grpOk e ms = true) : 1 ≤ ms.length ∧ ms.length ≤ 9 := by
  unfold grpOk at h
  simp only [Bool.and_eq_true, decide_eq_true_eq] at h
  exact h.2.1
theorem grpOk_num {e : Int} {ms : List Int} (h : grpOk e ms = true) : 0 ≤ e ∧ e ≤ 4611686018427387904 := by
  unfold grpOk at h
  simp only [Bool.and_eq_true, decide_eq_true_eq] at h
  exact h.1
theorem grpOk_nodes {e : Int} {ms : List Int} (h : grpOk e ms = true) : nodesOk (-1) ms = true := by
  unfold grpOk at h
  simp only [Bool.and_eq_true, decide_eq_true_eq] at h
  exact h.2.2
def primE (e : Int) (ms : List Int) (v : Int) : Int := if grpOk e ms = true then (if 0 ≤ v ∧ v ≤ 4611686018427387904 then 0 else 1) else 130
def primN (e : Int) (ms : List Int) (v : Int) : Int := if primE e ms v = 0 then ms.getD (v.toNat % ms.length) 0 else 0
theorem primN_bad {e : Int} {ms : List Int} {v : Int} (h : primE e ms v ≠ 0) : primN e ms v = 0 := if_neg h
end Go.Px
