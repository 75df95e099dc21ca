/- What the joined lower texts lack (empty where they are not joined). -/
import Derived.Test.YtfjffmjnnjckkaaB17
import Derived.Deep.MidRow
import Derived.Deep.WholeRow
namespace Go.Px
set_option maxRecDepth 20000
open Go.RowKit
section
variable {w wr w' : World} {g n : Nat} {vs xs : List Value} {T : TypeId} {P : Program} {ops : Array Oper} {rest : List Oper} {o : Oper} {a : Act} {Q : Exit → Act → World → Prop} {v0 v : Value} {base e size : Nat}
theorem heap_setRow_other (w : World) (g k : Nat) (cs : Array Value) (h : k ≠ g) : (w.setRow g cs).heap[k]? = w.heap[k]? := by
  simp only [World.setRow, Array.getElem?_modify]
  rw [if_neg (fun e => h e.symm)]
theorem Blk.setAll (h : Blk w g vs T) (us : List Value) : Blk (w.setRow g us.toArray) g us T := setRow_heap w g _ _ _ _ h
theorem Blk.apartAll (h : Blk w g vs T) {k : Nat} (hk : g ≠ k) (us : List Value) : Blk (w.setRow k us.toArray) g vs T :=
  (heap_setRow_other w k g _ hk).trans h
theorem below_setRow {B : Nat} {a : World} (h : Below B a w) {k : Nat} (hk : B ≤ k) (cs : Array Value) : Below B a (w.setRow k cs) :=
  ⟨h.os, h.tape, h.output, by simpa [World.setRow] using h.size, fun i hi => (heap_setRow_other w k i cs (by omega)).trans (h.block i hi)⟩
theorem stop_load (T : TypeId) {x : Operand} (_ : o.op = .load T x) (h : Stop (wpList P ops Q (o :: rest) a w)) : wpList P ops Q (o :: rest) a w := h
theorem stop_store (T : TypeId) {x y : Operand} (_ : o.op = .store T x y) (h : Stop (wpList P ops Q (o :: rest) a w)) : wpList P ops Q (o :: rest) a w := h
theorem go_load (hgd : o.guard = none) {T : TypeId} {x : Operand} (ho : o.op = .load T x) {b : Nat} (hx : a.eval x = .pointer (some ⟨b, 0, none⟩)) {cs : List Value} {d : TypeDesc} {B : TypeId} (hc : Blk w b cs B)
    (hu : P.underlying T = some d) (hd : d.isRow = true) (hi : (P.info? T).map (·.size) = some cs.length)
    (h : wpList P ops Q rest (a.put o.dst (.agg cs.toArray)) w) : Stop (wpList P ops Q (o :: rest) a w) :=
  wpList_load_mid hgd T x ho b 0 hx cs d hc.range hu hd hi h
theorem go_store (hgd : o.guard = none) (hdn : o.dst = none) {T : TypeId} {x y : Operand} (ho : o.op = .store T x y) {b : Nat} (hx : a.eval x = .pointer (some ⟨b, 0, none⟩)) {cs us : List Value} (hy : a.eval y = .agg us.toArray) (hc : Blk w b cs T)
    (hi : (P.info? T).map (·.size) = some us.length) (hl : cs.length = us.length) (h1 : ∀ u ∈ us, u.oneCell' = true)
    (h : wpList P ops Q rest a (w.setRow b us.toArray)) : Stop (wpList P ops Q (o :: rest) a w) :=
  wpList_plain hgd fun K hK => by
    unfold Oper.wp execOp
    simp only [ho, hx, hy, Instr.storeAt, Instr.sureAddr, Sem.run_bind, Sem.run_pure, Result.andThen_ok, run_storeVar_row w b T T cs.toArray us.toArray hc (by simpa using hi) (by simpa using hl) (all_oneCell_toArray h1)]
    have hp : a.put o.dst undef = a := by rw [hdn]; rfl
    show K (a.put o.dst undef) _
    rw [hp]
    exact hK _ _ h
theorem results_cell2 {fn : Func} {t t2 : Tmp} {T : TypeId} (h : fn.results = #[.cell t T, .tmp t2]) {tmps : Array Value} {b : Nat} (hx : tmps.getD t undef = .pointer (some ⟨b, 0, none⟩)) {vs : List Value} {B : TypeId} {d : TypeDesc} (hc : Blk w b vs B)
    (hu : P.underlying T = some d) (hd : d.isRow = true) (hi : (P.info? T).map (·.size) = some vs.length) : (results fn tmps).run P w = .ok (.tuple #[.agg vs.toArray, tmps.getD t2 undef]) w := by
  have := run_loadVar_mid (P := P) w b 0 T vs d hc.range hu hd hi
  have hx' : (tmps[t]?).getD undef = .pointer (some ⟨b, 0, none⟩) := by rw [← hx]; simp [Array.getD_eq_getD_getElem?]
  simp [results, h, hx', asAddr, this]
theorem Rd.new1 (w : World) (u : Value) (t : TypeId) : Rd (w.alloc (.cells #[u] t)) (some ⟨w.heap.size, 0, none⟩) [u] := fun j x hx => by
  have hj : j = 0 := by
    have := (List.getElem?_eq_some_iff.1 hx).1
    simp at this; exact this
  subst hj
  refine ⟨_, rfl, ?_⟩
  have e : (⟨w.heap.size, 0, none⟩ : Addr).add 0 = ⟨w.heap.size, 0, none⟩ := rfl
  rw [e, cell_of_row _ _ 0 #[u] t (0, 0) (heap_alloc_new w _)]
  simpa using hx
theorem own_made (cur : Array Value) (n cap : Nat) (hb : base ≤ w.heap.size) (hnc : n ≤ cap) (hm : cap ≤ maxLen) (hs : cur.size = cap * size) :
    (w.alloc (.cells cur e)).ownsRow base e size (.slice (some ⟨w.heap.size, 0, none⟩) n cap) n (cur.toList.take (n * size)) :=
  ⟨by rw [List.length_take, Array.length_toList, hs]; exact Nat.min_eq_left (Nat.mul_le_mul_right _ hnc), .inr ⟨w.heap.size, cap, cur, rfl, hb, heap_alloc_new w _, hnc, hm, hs, rfl⟩⟩
theorem Grow.push {w0 : World} {u : Value} {tt : TypeId} (h : Grow w v0 base e 1 w0 v n xs) {bytes : Nat} (hw : wr = w0.alloc (.cells #[u] tt)) (hg : o.guard = none) {s x : Operand} {t : TypeId}
    (ho : o.op = .call { callee := .builtin .append, args := #[s, x], argTypes := #[t, t] })
    (T : SlT P t e 1 bytes) (hs : a.eval s = v)
    {c : Nat} (hx : a.eval x = .slice (some ⟨w0.heap.size, 0, none⟩) 1 c) (h1 : u.oneCell' = true)
    (hb : (n + 1) * bytes ≤ 140737488355328) (h63 : n + 1 ≤ 140737488355328)
    (hk : ∀ v' w', Grow w v0 base e 1 w' v' (n + 1) (xs ++ [u]) → w0.heap.size ≤ w'.heap.size → wpList P ops Q rest (a.put o.dst v') w') :
    Stop (wpList P ops Q (o :: rest) a wr) := by
  subst hw
  refine (h.alloc _).append hg ho T hs hx (m := 1) rfl (Rd.new1 _ _ _) (fun u' hu' => by simp at hu'; subst hu'; exact h1) hb h63 ?_
  exact fun v' w' g hle => hk v' w' g (by simp at hle; omega)
end
end Go.Px
