/- Results that lie in memory beside others. -/
import Derived.Test.YtdianokikhggnaaArr
namespace Go.Px
set_option maxRecDepth 20000
open Go.RowKit
theorem Blk.lo {w w' : World} {g B : Nat} {vs : List Value} {T : TypeId} (h : Blk w g vs T) (hb : Below B w w') (hg : g < B) : Blk w' g vs T := (hb.block g hg).trans h
theorem Rd.upset {w : World} {A : Option Addr} {xs : List Value} {B g j : Nat} {u : Value} (h : Rd w A xs) (hu : ∀ a, A = some a → B ≤ a.block) (hg : g < B) : Rd (w.setCell ⟨g, j, none⟩ u) A xs := fun k v hk => by
  obtain ⟨a, rfl, hc⟩ := h k v hk
  have := hu a rfl
  refine ⟨a, rfl, ?_⟩
  rw [World.cell?_setCell_far w ⟨g, j, none⟩ _ u (by rw [add_block]; show g ≠ a.block; omega)]
  exact hc
section
variable {P : Program} {w : World}
theorem results_cell2 {fn : Func} {t t2 : Tmp} {T : TypeId} (h : fn.results = #[.cell t T, .tmp t2]) {tmps : Array Value} {b : Nat} (hx : tmps.getD t undef = .pointer (some ⟨b, 0, none⟩)) {vs : List Value} {B : TypeId} {d : TypeDesc} (hc : Blk w b vs B)
    (hu : P.underlying T = some d) (hd : d.isRow = true) (hi : (P.info? T).map (·.size) = some vs.length) : (results fn tmps).run P w = .ok (.tuple #[.agg vs.toArray, tmps.getD t2 undef]) w := by
  have := run_loadVar_mid (P := P) w b 0 T vs d hc.range hu hd hi
  have hx' : (tmps[t]?).getD undef = .pointer (some ⟨b, 0, none⟩) := by rw [← hx]; simp [Array.getD_eq_getD_getElem?]
  simp [results, h, hx', asAddr, this]
theorem results_cie {fn : Func} {t t2 t3 : Tmp} {T T3 : TypeId} (h : fn.results = #[.cell t T, .tmp t2, .cell t3 T3]) {tmps : Array Value} {b e : Nat} (hx : tmps.getD t undef = .pointer (some ⟨b, 0, none⟩)) (hy : tmps.getD t3 undef = .pointer (some ⟨e, 0, none⟩)) {vs : List Value} {B : TypeId} {d : TypeDesc} (hc : Blk w b vs B)
    (hu : P.underlying T = some d) (hd : d.isRow = true) (hi : (P.info? T).map (·.size) = some vs.length) {k : IntKind} {u : Int} (he : w.cell? ⟨e, 0, none⟩ = some (.int k u)) (hT : P.underlying T3 = some (.int k)) : (results fn tmps).run P w = .ok (.tuple #[.agg vs.toArray, tmps.getD t2 undef, .int k u]) w := by
  have := run_loadVar_mid (P := P) w b 0 T vs d hc.range hu hd hi
  have hx' : (tmps[t]?).getD undef = .pointer (some ⟨b, 0, none⟩) := by rw [← hx]; simp [Array.getD_eq_getD_getElem?]
  have hy' : (tmps[t3]?).getD undef = .pointer (some ⟨e, 0, none⟩) := by rw [← hy]; simp [Array.getD_eq_getD_getElem?]
  have hl : (loadVar T3 ⟨e, 0, none⟩).run P w = .ok (.int k u) w := by simp [loadVar, run_underlying hT, isAgg, go_sem, he]
  simp [results, h, hx', hy', asAddr, this, hl]
end
end Go.Px
