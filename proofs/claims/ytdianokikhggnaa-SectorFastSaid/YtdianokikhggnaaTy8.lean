/- The calls of laws 8, opened. -/
import Derived.Test.YtdianokikhggnaaTys
namespace Go.Px
set_option maxRecDepth 20000
open Go.RowKit
set_option linter.unusedVariables false
abbrev tyOp08 : Ty := .st (.pr .i64 (.pr .i64 (.pr .i64 (.pr .bytes tyCrash))))
abbrev Op08D : Type := Int × Int × Int × (List UInt8) × CrashD
section
variable {w : World} {Q : Nat → Prop}
theorem Op08_out {x : Op08D} {cs : List Value} (h : tyOp08.Is w Q x cs) : ∃ (pKind : Int) (pI : Int) (pN : Int) (pB : List UInt8) (pBA : Option Addr) (pBn pBc : Nat) (pCKeep : List (Bool)) (pCKeepA : Option Addr) (pCKeepn pCKeepc : Nat) (pCKeepv : List Value) (pCTorn : Int) (pCCut : Int), x = (pKind, pI, pN, pB, (pCKeep, pCTorn, pCCut)) ∧ cs = [.int .i64 pKind, .int .i64 pI, .int .i64 pN, .slice pBA pBn pBc, .slice pCKeepA pCKeepn pCKeepc, .int .i64 pCTorn, .int .i64 pCCut] ∧ -9223372036854775808 ≤ pKind ∧ pKind ≤ 9223372036854775807 ∧ -9223372036854775808 ≤ pI ∧ pI ≤ 9223372036854775807 ∧ -9223372036854775808 ≤ pN ∧ pN ≤ 9223372036854775807 ∧ pB.length = pBn ∧ pBn ≤ pBc ∧ pBc ≤ 9223372036854775807 ∧ Rd w pBA (bys pB) ∧ (pB ≠ [] → ∀ a, pBA = some a → Q a.block) ∧ pCKeep.length = pCKeepn ∧ pCKeepn ≤ pCKeepc ∧ pCKeepc ≤ 9223372036854775807 ∧ Rd w pCKeepA pCKeepv ∧ (pCKeep ≠ [] → ∀ a, pCKeepA = some a → Q a.block) ∧ Ty.Rows w Q .bool pCKeep pCKeepv ∧ -9223372036854775808 ≤ pCTorn ∧ pCTorn ≤ 9223372036854775807 ∧ -9223372036854775808 ≤ pCCut ∧ pCCut ≤ 9223372036854775807 := by
  obtain ⟨c0, c1, c2, c3, c4, c5, c6, rfl⟩ := list_7 (h.len : cs.length = 7)
  obtain ⟨pKind, pI, pN, pB, ⟨pCKeep, pCTorn, pCCut⟩⟩ := x
  obtain ⟨⟨rfl, h1_pKind, h2_pKind⟩, ⟨⟨rfl, h1_pI, h2_pI⟩, ⟨⟨rfl, h1_pN, h2_pN⟩, ⟨⟨pBA, pBn, pBc, rfl, hl_pB, hc_pB, hm_pB, hr_pB, hq_pB⟩, ⟨⟨pCKeepA, pCKeepn, pCKeepc, pCKeepv, rfl, hl_pCKeep, hc_pCKeep, hm_pCKeep, hr_pCKeep, hq_pCKeep, he_pCKeep⟩, ⟨⟨rfl, h1_pCTorn, h2_pCTorn⟩, ⟨rfl, h1_pCCut, h2_pCCut⟩⟩⟩⟩⟩⟩⟩ := h
  exact ⟨pKind, pI, pN, pB, pBA, pBn, pBc, pCKeep, pCKeepA, pCKeepn, pCKeepc, pCKeepv, pCTorn, pCCut, rfl, rfl, h1_pKind, h2_pKind, h1_pI, h2_pI, h1_pN, h2_pN, hl_pB, hc_pB, hm_pB, hr_pB, hq_pB, hl_pCKeep, hc_pCKeep, hm_pCKeep, hr_pCKeep, hq_pCKeep, he_pCKeep, h1_pCTorn, h2_pCTorn, h1_pCCut, h2_pCCut⟩
end
/-- A row of bools that came in. -/
def bls (l : List Bool) : List Value := l.map Value.bool
theorem bls_get {l : List Bool} {k : Nat} (h : k < l.length) : (bls l)[k]? = some (.bool l[k]) := by simp [bls, List.getElem?_eq_getElem h]
theorem blsrows {w : World} {Q : Nat → Prop} : ∀ {xs : List Bool} {vs : List Value}, Ty.Rows w Q .bool xs vs → vs = bls xs := by
  intro xs vs h
  have hl : vs.length = xs.length := by have := h.1; simpa [Ty.n] using this
  have hg : ∀ (j : Nat) (x : Bool), xs[j]? = some x → vs[j]? = some (.bool x) := fun j x hx => by
    obtain ⟨cs, hI, hc⟩ := h.get hx
    obtain ⟨c, rfl, rfl⟩ := one1_out hI
    have := hc 0 _ rfl
    simpa [Ty.n] using this
  refine List.ext_getElem? fun j => ?_
  unfold bls
  rw [List.getElem?_map]
  by_cases hj : j < xs.length
  · rw [hg j _ (List.getElem?_eq_getElem hj), List.getElem?_eq_getElem hj]; rfl
  · rw [List.getElem?_eq_none (by omega), List.getElem?_eq_none (by omega)]; rfl
end Go.Px
