/- Rows of digests, rows of rows: what they read as. -/
import Derived.Test.YtcpnobhdogpfiaaDoorFra
namespace Go.Px
set_option maxRecDepth 20000
open Go.RowKit
set_option linter.unusedVariables false
def u32s (l : List Nat) : List Value := l.map fun v : Nat => Value.int .u32 (v : Int)
theorem u32s_get {l : List Nat} {k : Nat} (h : k < l.length) : (u32s l)[k]? = some (.int .u32 (l[k] : Int)) := by simp [u32s, List.getElem?_eq_getElem h]
theorem u32s_length (l : List Nat) : (u32s l).length = l.length := by simp [u32s]
theorem u32s_append (a b : List Nat) : u32s (a ++ b) = u32s a ++ u32s b := by simp [u32s]
theorem u32s_inj {a b : List Nat} (h : u32s a = u32s b) : a = b := by
  unfold u32s at h
  exact List.map_inj_right (fun x y hxy => by injection hxy with _ hxy; exact Int.ofNat.inj hxy) |>.1 h
/-- A row of digests that lies in memory. -/
theorem u32row_out {w : World} {Q : Nat → Prop} {l : List Nat} {vs : List Value} (h : Ty.u32.Rows w Q l vs) : vs = u32s l ∧ ∀ x ∈ l, x < 4294967296 := by
  obtain ⟨h1, h2⟩ := h
  have hl : vs.length = l.length := by rw [h1]; show 1 * _ = _; omega
  have key : ∀ (j : Nat) (hj : j < l.length), vs[j]? = some (.int .u32 (l[j] : Int)) ∧ l[j] < 4294967296 := by
    intro j hj
    obtain ⟨c, hc, rfl, hb⟩ := one1_out (h2 j _ (List.getElem?_eq_getElem hj))
    have e : ((vs.drop (1 * j)).take 1)[0]? = some (.int .u32 (l[j] : Int)) := by
      have : ((vs.drop (Ty.u32.n * j)).take Ty.u32.n) = _ := hc
      rw [show (1 : Nat) = Ty.u32.n from rfl, this]; rfl
    rw [List.getElem?_take, if_pos (by decide), List.getElem?_drop, Nat.one_mul, Nat.add_zero] at e
    exact ⟨e, hb⟩
  refine ⟨List.ext_getElem? fun j => ?_, fun x hx => ?_⟩
  · by_cases hj : j < l.length
    · rw [(key j hj).1, u32s_get hj]
    · rw [List.getElem?_eq_none (by omega), List.getElem?_eq_none (by rw [u32s_length]; omega)]
  · obtain ⟨j, hj, rfl⟩ := List.mem_iff_getElem.1 hx
    exact (key j hj).2
theorem u32row_mk (w : World) (Q : Nat → Prop) {l : List Nat} (hb : ∀ x ∈ l, x < 4294967296) : Ty.u32.Rows w Q l (u32s l) := by
  refine ⟨by rw [u32s_length]; show _ = 1 * _; omega, fun j x hx => ?_⟩
  obtain ⟨hj, rfl⟩ := List.getElem?_eq_some_iff.1 hx
  show one1 _ _
  refine one1_of (c := .int .u32 ((l[j] : Nat) : Int)) ?_ ⟨rfl, hb _ (List.getElem_mem hj)⟩
  refine List.ext_getElem? fun i => ?_
  show ((List.drop (1 * j) (u32s l)).take 1)[i]? = _
  rw [List.getElem?_take]
  split
  · have : i = 0 := by omega
    subst this
    rw [List.getElem?_drop, Nat.one_mul, Nat.add_zero, u32s_get hj]; rfl
  · rw [List.getElem?_eq_none (by simp; omega)]
abbrev tyRow32 : Ty := .row .u32
theorem row32_out {w : World} {Q : Nat → Prop} {l : List Nat} {cs : List Value} (h : tyRow32.Is w Q l cs) : ∃ (A : Option Addr) (c : Nat), cs = [.slice A l.length c] ∧ l.length ≤ c ∧ c ≤ 9223372036854775807 ∧ Rd w A (u32s l) ∧ (l ≠ [] → ∀ a, A = some a → Q a.block) ∧ ∀ x ∈ l, x < 4294967296 := by
  obtain ⟨v, rfl, A, n, c, vs, rfl, rfl, h2, h3, h4, h5, h6⟩ := one1_out h
  obtain ⟨rfl, hb⟩ := u32row_out (w := w) (Q := Q) ⟨h6.1, h6.2⟩
  exact ⟨A, c, rfl, h2, h3, h4, h5, hb⟩
theorem row32_mk {w : World} {Q : Nat → Prop} {l : List Nat} {A : Option Addr} {n c : Nat} (hn : l.length = n) (h2 : n ≤ c) (h3 : c ≤ 9223372036854775807) (h4 : Rd w A (u32s l)) (h5 : l ≠ [] → ∀ a, A = some a → Q a.block) (hb : ∀ x ∈ l, x < 4294967296) : tyRow32.Is w Q l [.slice A n c] :=
  ⟨A, n, c, u32s l, rfl, hn, h2, h3, h4, h5, (u32row_mk w Q hb).1, (u32row_mk w Q hb).2⟩
end Go.Px
