/- Arrays in blocks of their own, loaded and stored whole. -/
import Derived.Test.YtdianokikhggnaaLib
import Derived.Deep.RegionHeld3
import Derived.Deep.MidRow
import Derived.Deep.WholeRow
namespace Go.Px
set_option maxRecDepth 20000
open Go.RowKit
theorem addr_add0 (g m : Nat) : (⟨g, 0, none⟩ : Addr).add m = ⟨g, m, none⟩ := by
  unfold Addr.add; split <;> simp_all

abbrev Blk (w : World) (g : Nat) (vs : List Value) (T : TypeId) : Prop := w.heap[g]? = some (.cells vs.toArray T (0, 0))
section
variable {w w' : World} {g : Nat} {vs : List Value} {T : TypeId}
theorem Blk.lt (h : Blk w g vs T) : g < w.heap.size := (Array.getElem?_eq_some_iff.1 h).1
theorem Blk.below (h : Blk w g vs T) (hb : Below w.heap.size w w') : Blk w' g vs T := (hb.block g h.lt).trans h
theorem Blk.cell (h : Blk w g vs T) {j : Nat} {v : Value} (hv : vs[j]? = some v) : w.cell? ⟨g, j, none⟩ = some v := by
  rw [cell_of_row _ _ _ _ _ _ h]; simpa using hv
theorem Blk.range (h : Blk w g vs T) : w.rangeAt g 0 vs := fun j v hv => by rw [Nat.zero_add]; exact h.cell hv
theorem Blk.there (h : Blk w g vs T) : w.there g 0 vs.length := fun j hj => by
  rw [Nat.zero_add]; exact ⟨by rw [h.cell (List.getElem?_eq_getElem hj)]; rfl, frozen_of_row _ _ _ _ _ h⟩
theorem Blk.frozen (h : Blk w g vs T) (j : Nat) : w.frozen? ⟨g, j, none⟩ = false := frozen_of_row _ _ _ _ _ h
theorem Blk.set (h : Blk w g vs T) (j : Nat) (u : Value) : Blk (w.setCell ⟨g, j, none⟩ u) g (vs.set j u) T := by
  have := heap_setCell_same w g j _ _ u h
  rwa [List.setIfInBounds_toArray] at this
theorem Blk.apart (h : Blk w g vs T) {k : Nat} (hk : g ≠ k) (j : Nat) (u : Value) : Blk (w.setCell ⟨k, j, none⟩ u) g vs T :=
  (heap_setCell_other w ⟨k, j, none⟩ g u hk).trans h
theorem Blk.setAll (h : Blk w g vs T) (us : List Value) : Blk (w.setRow g us.toArray) g us T := setRow_heap w g _ _ _ _ h
theorem heap_setRow_other (w : World) (g k : Nat) (cs : Array Value) (h : k ≠ g) : (w.setRow g cs).heap[k]? = w.heap[k]? := by
  simp only [World.setRow, Array.getElem?_modify]
  rw [if_neg (fun e => h e.symm)]
theorem Blk.apartAll (h : Blk w g vs T) {k : Nat} (hk : g ≠ k) (us : List Value) : Blk (w.setRow k us.toArray) g vs T :=
  (heap_setRow_other w k g _ hk).trans h
theorem below_setRow {B : Nat} {a : World} (h : Below B a w) {k : Nat} (hk : B ≤ k) (cs : Array Value) : Below B a (w.setRow k cs) :=
  ⟨h.os, h.tape, h.output, by simpa [World.setRow] using h.size, fun i hi => (heap_setRow_other w k i cs (by omega)).trans (h.block i hi)⟩
theorem Blk.new (w : World) (vs : List Value) (T : TypeId) : Blk (w.alloc (.cells vs.toArray T)) w.heap.size vs T := heap_alloc_new w _
theorem Blk.alloc (h : Blk w g vs T) (o : Obj) : Blk (w.alloc o) g vs T := h.below ((Below.refl _ _).alloc (Nat.le_refl _) o)
theorem Blk.drew (h : Blk w g vs T) : Blk w.drew g vs T := h
end
/-- What a cell holds. -/
def cellOf (w : World) (a : Addr) : Value := (w.cell? a).getD undef
theorem cellOf_eq {w : World} {a : Addr} (h : (w.cell? a).isSome = true) : w.cell? a = some (cellOf w a) := by
  unfold cellOf
  cases hh : w.cell? a with
  | none => rw [hh] at h; cases h
  | some v => rfl
theorem blk4 {w : World} {g g2 j : Nat} {vs us : List Value} {v : Value} {T T2 : TypeId} (h : Blk w g vs T) (h2 : Blk w g2 us T2) (hv : vs[j]? = some v) (hj : j < us.length) :
    w.rangeAt g 0 vs ∧ w.cell? ⟨g, j, none⟩ = some v ∧ w.cell? ⟨g2, j, none⟩ = some (cellOf w ⟨g2, j, none⟩) ∧ w.frozen? ⟨g2, j, none⟩ = false := by
  have := h2.there j hj
  rw [Nat.zero_add] at this
  refine ⟨h.range, h.cell hv, ?_, this.2⟩
  rw [cellOf, h2.cell (List.getElem?_eq_getElem hj)]; rfl

section
variable {P : Program} {w : World} {ops : Array Oper} {rest : List Oper} {o : Oper} {a : Act} {Q : Exit → Act → World → Prop}
theorem stop_load (T : TypeId) {x : Operand} (_ : o.op = .load T x) (h : Stop (wpList P ops Q (o :: rest) a w)) : wpList P ops Q (o :: rest) a w := h
theorem stop_store (T : TypeId) {x y : Operand} (_ : o.op = .store T x y) (h : Stop (wpList P ops Q (o :: rest) a w)) : wpList P ops Q (o :: rest) a w := h
theorem go_load (hgd : o.guard = none) {T : TypeId} {x : Operand} (ho : o.op = .load T x) {b : Nat} (hx : a.eval x = .pointer (some ⟨b, 0, none⟩)) {cs : List Value} {d : TypeDesc} {B : TypeId} (hc : Blk w b cs B)
    (hu : P.underlying T = some d) (hd : d.isRow = true) (hi : (P.info? T).map (·.size) = some cs.length)
    (h : wpList P ops Q rest (a.put o.dst (.agg cs.toArray)) w) : Stop (wpList P ops Q (o :: rest) a w) :=
  wpList_load_mid hgd T x ho b 0 hx cs d hc.range hu hd hi h
theorem go_store (hgd : o.guard = none) (hdn : o.dst = none) {T : TypeId} {x y : Operand} (ho : o.op = .store T x y) {b : Nat} (hx : a.eval x = .pointer (some ⟨b, 0, none⟩)) {cs us : List Value} (hy : a.eval y = .agg us.toArray) (hc : Blk w b cs T)
    (hi : (P.info? T).map (·.size) = some us.length) (hl : cs.length = us.length) (h1 : ∀ u ∈ us, u.oneCell' = true)
    (h : wpList P ops Q rest a (w.setRow b us.toArray)) : Stop (wpList P ops Q (o :: rest) a w) :=
  wpList_plain hgd fun K hK => by
    unfold Oper.wp execOp
    simp only [ho, hx, hy, Instr.storeAt, Instr.sureAddr, Sem.run_bind, Sem.run_pure, Result.andThen_ok, run_storeVar_row w b T T cs.toArray us.toArray hc (by simpa using hi) (by simpa using hl) (all_oneCell_toArray h1)]
    have hp : a.put o.dst undef = a := by rw [hdn]; rfl
    show K (a.put o.dst undef) _
    rw [hp]
    exact hK _ _ h
theorem results_cell {fn : Func} {t : Tmp} {T : TypeId} (h : fn.results = #[.cell t T]) {tmps : Array Value} {b : Nat} (hx : tmps.getD t undef = .pointer (some ⟨b, 0, none⟩)) {vs : List Value} {B : TypeId} {d : TypeDesc} (hc : Blk w b vs B)
    (hu : P.underlying T = some d) (hd : d.isRow = true) (hi : (P.info? T).map (·.size) = some vs.length) : (results fn tmps).run P w = .ok (.agg vs.toArray) w := by
  have := run_loadVar_mid (P := P) w b 0 T vs d hc.range hu hd hi
  have hx' : (tmps[t]?).getD undef = .pointer (some ⟨b, 0, none⟩) := by rw [← hx]; simp [Array.getD_eq_getD_getElem?]
  simp [results, h, hx', asAddr, this]
theorem results_cell3 {fn : Func} {t t2 t3 : Tmp} {T : TypeId} (h : fn.results = #[.cell t T, .tmp t2, .tmp t3]) {tmps : Array Value} {b : Nat} (hx : tmps.getD t undef = .pointer (some ⟨b, 0, none⟩)) {vs : List Value} {B : TypeId} {d : TypeDesc} (hc : Blk w b vs B)
    (hu : P.underlying T = some d) (hd : d.isRow = true) (hi : (P.info? T).map (·.size) = some vs.length) : (results fn tmps).run P w = .ok (.tuple #[.agg vs.toArray, tmps.getD t2 undef, tmps.getD t3 undef]) w := by
  have := run_loadVar_mid (P := P) w b 0 T vs d hc.range hu hd hi
  have hx' : (tmps[t]?).getD undef = .pointer (some ⟨b, 0, none⟩) := by rw [← hx]; simp [Array.getD_eq_getD_getElem?]
  simp [results, h, hx', asAddr, this]
end
end Go.Px
