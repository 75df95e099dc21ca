/- How long a row of uint32 within reach may be. -/
import Derived.Test.YtcpnobhdogpfiaaDoorArg
namespace Go.Px
set_option maxRecDepth 20000
open Go.RowKit Go.ChangeShapes Go.WideShapes Go.ChangeAt
variable {H : Type} {enc : TypeId × Value → H} {P : Program}
theorem u32s_reach {w : World} {base : Nat} {spare : Nat → Bool} {held : Bool} {t e : TypeId} (ht : P.underlying t = some (.slice e)) (he : P.underlying e = some (.int .u32)) (hc : P.cellsOf e = 1) (hb : P.bytesOf e = 4)
    {A : Option Addr} {n c : Nat} {d : DataW H} {ps : List MemPlace} (h : DataW.Trod enc P w base spare held t (.slice A n c) d ps) (hw : ∀ x ∈ d.weights P t, x ≤ reachBytes) : n ≤ 35184372087808 := by
  obtain ⟨fuel, hf⟩ := h
  rcases Go.ChangeShapes.open_ints ht he hc hf with ⟨hcs, _⟩ | ⟨a, len, cap, zs, hcs, _, hlc, _, hlen, hx, _⟩
  · simp [Value.cells] at hcs
    omega
  · simp [Value.cells] at hcs
    obtain ⟨rfl, rfl, rfl⟩ := hcs
    obtain ⟨rfl, _⟩ := Prod.mk.injEq .. ▸ hx
    have := hw ((List.length (ChangeShapes.lits (H := H) .u32 (List.take n zs)) + List.length (ChangeShapes.lits (H := H) .u32 (List.drop n zs))) * P.bytesOf e) (by simp [DataW.weights, ht])
    rw [hb] at this
    have hle : n ≤ zs.length := by rw [hlen]; split <;> omega
    simp [ChangeShapes.lits, List.length_take, List.length_drop, Nat.min_eq_left hle] at this
    have e : reachBytes = 140737488351232 := rfl
    omega
end Go.Px
