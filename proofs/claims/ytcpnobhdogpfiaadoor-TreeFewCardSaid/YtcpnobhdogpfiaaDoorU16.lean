/- A row of uint16 that came in. -/
import Derived.Test.YtcpnobhdogpfiaaDoorLib
import Derived.Test.YtcpnobhdogpfiaaDoorGrp
import Derived.Test.YtcpnobhdogpfiaaDoorMore
namespace Go.Px
set_option maxRecDepth 20000
open Go.RowKit Go.ChangeShapes Go.WideShapes Go.ChangeAt
variable {H : Type} {enc : TypeId × Value → H} {P : Program}
def u16s (l : List Nat) : List Value := l.map fun x : Nat => Value.int .u16 (x : Int)
theorem u16s_get {l : List Nat} {k : Nat} (h : k < l.length) : (u16s l)[k]? = some (.int .u16 (l[k] : Nat)) := by unfold u16s; simp [h]
theorem open_u16s {r : Reach} {b0 : Nat} {w : World} {base : Nat} {spare : Nat → Bool} {held : Bool} {t e : TypeId} (ht : P.underlying t = some (.slice e)) (he : P.underlying e = some (.int .u16)) (hc : P.cellsOf e = 1)
    {v : Value} {d : DataW H} {ps : List MemPlace} (hval : Value.okWide P w r b0 t v) (h : DataW.Trod enc P w base spare held t v d ps) :
    ∃ (A : Option Addr) (n c : Nat) (l : List Nat), v = .slice A n c ∧ l.length = n ∧ n ≤ c ∧ c ≤ 9223372036854775807 ∧ Rd w A (u16s l) ∧ ∀ x ∈ l, x < 65536 := by
  obtain ⟨A, n, c, rfl⟩ := okWide_slice ht hval
  obtain ⟨fuel, hf⟩ := h
  have hf' : DataW.trod enc P w base spare held fuel t [.slice A n c] = some (d, ps) := hf
  rcases Go.ChangeShapes.open_ints ht he hc hf' with ⟨hcs, _⟩ | ⟨a, len, cap, zs, hcs, _, hlc, hcm, hlen, _, hcell, hwf⟩
  · simp only [List.cons.injEq, Value.slice.injEq, and_true] at hcs
    obtain ⟨rfl, rfl, rfl⟩ := hcs
    exact ⟨none, 0, 0, [], rfl, rfl, by omega, by omega, Rd.nil, by simp⟩
  · simp only [List.cons.injEq, Value.slice.injEq, and_true] at hcs
    obtain ⟨rfl, rfl, rfl⟩ := hcs
    have hle : n ≤ zs.length := by rw [hlen]; split <;> omega
    have hz : ∀ z ∈ zs, ∃ m : Nat, z = m ∧ m < 65536 := fun z hz => wf_u16 (hwf z hz)
    refine ⟨some a, n, c, (zs.take n).map Int.toNat, rfl, by simp [Nat.min_eq_left hle], hlc, by unfold maxLen at hcm; omega, Rd.of_some fun j u hu => ?_, fun x hx => ?_⟩
    · have hj : j < n := by
        have := (List.getElem?_eq_some_iff.1 hu).1
        simp [u16s] at this; omega
      have hjz : j < zs.length := by omega
      rw [hcell j hjz]
      obtain ⟨m, hm, _⟩ := hz zs[j] (List.getElem_mem hjz)
      simp only [u16s, List.getElem?_map, List.getElem?_take, if_pos hj, List.getElem?_eq_getElem hjz, Option.map_some] at hu
      rw [← hu]
      simp only [List.getD, List.getElem?_eq_getElem hjz, Option.getD_some]
      rw [hm]; rfl
    · rw [List.mem_map] at hx
      obtain ⟨z, hzm, rfl⟩ := hx
      obtain ⟨m, rfl, hm⟩ := hz z (List.mem_of_mem_take hzm)
      exact hm
end Go.Px
