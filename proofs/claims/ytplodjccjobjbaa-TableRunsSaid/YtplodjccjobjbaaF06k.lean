/- Rows of a table in memory; those that came in, opened; which may be. -/
import Derived.Test.YtplodjccjobjbaaF06g
namespace Go.Proofs.Ytplodjccjobjbaa
open Go.RowKit Go.Px Go.Maps Go.ChangeShapes Go.WideShapes Go.ChangeAt Go.Joins Go.Deep
set_option linter.unusedVariables false
abbrev RowT := Int × Int × Nat × List UInt8
/-- The cells of a row at place j of a row of rows; Q: which blocks its data may lie in. -/
def RwAt (w : World) (Q : Nat → Prop) (cs : List Value) (j : Nat) (e : RowT) : Prop :=
  ∃ A d dc, cs[4 * j]? = some (.int .i64 e.1) ∧ cs[4 * j + 1]? = some (.int .i64 e.2.1) ∧ cs[4 * j + 2]? = some (.int .u8 e.2.2.1) ∧ cs[4 * j + 3]? = some (.slice A d dc) ∧
    e.2.2.1 < 256 ∧ e.2.2.2.length = d ∧ d ≤ dc ∧ dc ≤ 9223372036854775807 ∧ Rd w A (bys e.2.2.2) ∧ (e.2.2.2 ≠ [] → ∀ a, A = some a → Q a.block)
def RwRows (w : World) (Q : Nat → Prop) (cs : List Value) (es : List RowT) : Prop := cs.length = 4 * es.length ∧ ∀ j e, es[j]? = some e → RwAt w Q cs j e
theorem RwRows.nil {w : World} {Q : Nat → Prop} : RwRows w Q [] [] := ⟨rfl, fun j e h => by simp at h⟩
theorem RwAt.keep {w w' : World} {Q Q' : Nat → Prop} {cs : List Value} {j : Nat} {e : RowT} (h : RwAt w Q cs j e) (hk : ∀ A xs, Rd w A xs → (∀ a, A = some a → Q a.block) → Rd w' A xs) (hQ : ∀ B, Q B → Q' B) : RwAt w' Q' cs j e := by
  obtain ⟨A, d, dc, h1, h2, h3, h4, h5, h6, h7, h8, h9, h10⟩ := h
  refine ⟨A, d, dc, h1, h2, h3, h4, h5, h6, h7, h8, ?_, fun hne a ha => hQ _ (h10 hne a ha)⟩
  cases he : e.2.2.2 with
  | nil => exact Rd.nil
  | cons x xs => rw [← he]; exact hk _ _ h9 (h10 (by rw [he]; simp))
theorem RwRows.keep {w w' : World} {Q Q' : Nat → Prop} {cs : List Value} {es : List RowT} (h : RwRows w Q cs es) (hk : ∀ A xs, Rd w A xs → (∀ a, A = some a → Q a.block) → Rd w' A xs) (hQ : ∀ B, Q B → Q' B) : RwRows w' Q' cs es :=
  ⟨h.1, fun j e he => (h.2 j e he).keep hk hQ⟩
theorem RwRows.below {w w' : World} {Q : Nat → Prop} {cs : List Value} {es : List RowT} (h : RwRows w Q cs es) (hb : Below w.heap.size w w') : RwRows w' Q cs es := h.keep (fun A xs hr _ => hr.below hb) (fun _ h => h)
theorem RwRows.snoc {w : World} {Q : Nat → Prop} {cs : List Value} {es : List RowT} (h : RwRows w Q cs es) {c s : Int} {k : Nat} {A : Option Addr} {d dc : Nat} {bs : List UInt8} (hk : k < 256) (hd : bs.length = d) (hdc : d ≤ dc) (hdm : dc ≤ 9223372036854775807) (hr : Rd w A (bys bs)) (hA : bs ≠ [] → ∀ a, A = some a → Q a.block) :
    RwRows w Q (cs ++ [.int .i64 c, .int .i64 s, .int .u8 k, .slice A d dc]) (es ++ [(c, s, k, bs)]) := by
  have hl := h.1
  refine ⟨by simp [hl]; omega, fun j e he => ?_⟩
  by_cases hlt : j < es.length
  · rw [List.getElem?_append_left hlt] at he
    obtain ⟨A', d', dc', h1, h2, h3, h4, h5⟩ := h.2 j e he
    exact ⟨A', d', dc', by rw [List.getElem?_append_left (by omega)]; exact h1, by rw [List.getElem?_append_left (by omega)]; exact h2, by rw [List.getElem?_append_left (by omega)]; exact h3, by rw [List.getElem?_append_left (by omega)]; exact h4, h5⟩
  · have hj : j = es.length := by have := (List.getElem?_eq_some_iff.1 he).1; simp at this; omega
    subst hj
    simp at he
    subst he
    refine ⟨A, d, dc, ?_, ?_, ?_, ?_, hk, hd, hdc, hdm, hr, hA⟩
    · rw [← hl]; simp
    · rw [← hl, List.getElem?_append_right (by omega), show cs.length + 1 - cs.length = 1 by omega]; rfl
    · rw [← hl, List.getElem?_append_right (by omega), show cs.length + 2 - cs.length = 2 by omega]; rfl
    · rw [← hl, List.getElem?_append_right (by omega), show cs.length + 3 - cs.length = 3 by omega]; rfl
theorem rd4_0 {w : World} {a : Addr} {cs : List Value} (hat : ∀ j u, cs[j]? = some u → w.cell? (a.add j) = some u) {k : Nat} {u : Value} (h : cs[4 * k]? = some u) : w.cell? (a.add (k * 4)) = some u := by
  rw [Nat.mul_comm]; exact hat _ _ h
theorem rd4_S {w : World} {a : Addr} {cs : List Value} (hat : ∀ j u, cs[j]? = some u → w.cell? (a.add j) = some u) {k i : Nat} {u : Value} (h : cs[4 * k + (i + 1)]? = some u) : w.cell? ⟨(a.add (k * 4)).block, (a.add (k * 4)).off + (i + 1), none⟩ = some u := by
  have := hat _ _ h
  have e : a.add (4 * k + (i + 1)) = ⟨(a.add (k * 4)).block, (a.add (k * 4)).off + (i + 1), none⟩ := by
    unfold Addr.add
    rw [if_neg (by omega)]
    split
    · rename_i h0
      rw [show 4 * k + (i + 1) = i + 1 by omega]
    · show (⟨a.block, a.off + (4 * k + (i + 1)), none⟩ : Addr) = ⟨a.block, a.off + k * 4 + (i + 1), none⟩
      rw [show a.off + (4 * k + (i + 1)) = a.off + k * 4 + (i + 1) by omega]
  rw [← e]; exact this
/-- A row's four cells, where a slice of rows begins at a. -/
theorem RwAt.cells {w w' : World} {Q : Nat → Prop} {cs : List Value} {j : Nat} {e : RowT} (h : RwAt w Q cs j e) {a : Addr} (hat : ∀ j u, cs[j]? = some u → w'.cell? (a.add j) = some u) :
    ∃ A d dc, w'.cell? (a.add (j * 4)) = some (.int .i64 e.1) ∧ w'.cell? ⟨(a.add (j * 4)).block, (a.add (j * 4)).off + 1, none⟩ = some (.int .i64 e.2.1) ∧ w'.cell? ⟨(a.add (j * 4)).block, (a.add (j * 4)).off + 2, none⟩ = some (.int .u8 e.2.2.1) ∧ w'.cell? ⟨(a.add (j * 4)).block, (a.add (j * 4)).off + 3, none⟩ = some (.slice A d dc) ∧
      e.2.2.1 < 256 ∧ e.2.2.2.length = d ∧ d ≤ dc ∧ dc ≤ 9223372036854775807 ∧ Rd w A (bys e.2.2.2) ∧ (e.2.2.2 ≠ [] → ∀ a, A = some a → Q a.block) := by
  obtain ⟨A, d, dc, h1, h2, h3, h4, h5⟩ := h
  exact ⟨A, d, dc, rd4_0 hat h1, rd4_S (i := 0) hat h2, rd4_S (i := 1) hat h3, rd4_S (i := 2) hat h4, h5⟩
theorem tRows : SlT Try.prog 22 68 4 48 := slT_mk Try.underlying22 (z := .agg #[.int .i64 0, .int .i64 0, .int .u8 0, .slice none 0 0]) (by kernel_rfl) rfl (by decide)
section
variable {H : Type} {enc : TypeId × Value → H}
theorem row_cells : Try.prog.cellsOf 68 = 4 := by kernel_rfl
set_option maxRecDepth 20000 in
theorem trod_row {w : World} {base : Nat} {spare : Nat → Bool} {held : Bool} {fuel : Nat} {cs : List Value} {x : DataW H × List MemPlace} (h : DataW.trod enc Try.prog w base spare held fuel 68 cs = some x) :
    ∃ (e : RowT) (A : Option Addr) (d dc : Nat), cs = [.int .i64 e.1, .int .i64 e.2.1, .int .u8 e.2.2.1, .slice A d dc] ∧ e.2.2.1 < 256 ∧ e.2.2.2.length = d ∧ d ≤ dc ∧ dc ≤ 9223372036854775807 ∧ Rd w A (bys e.2.2.2) := by
  obtain ⟨ys, n', _, _, hlen, hyl, hg⟩ := DataW.trod_struct Try.underlying68 h
  rw [row_cells] at hlen
  match cs, hlen with
  | [c1, c2, c3, c4], _ =>
    match ys, hyl with
    | [y1, y2, y3], _ =>
      have g1 := hg 0 _ rfl
      have g2 := hg 1 _ rfl
      have g3 := hg 2 _ rfl
      have g1' : DataW.trod enc Try.prog w base spare held n' 3 [c1] = some y1 := g1
      have g2' : DataW.trod enc Try.prog w base spare held n' 3 [c2] = some y2 := g2
      have g3' : DataW.trod enc Try.prog w base spare held n' 33 [c3, c4] = some y3 := g3
      obtain ⟨c, rfl, _, _⟩ := open_i64F (P := Try.prog) Try.underlying3 g1'
      obtain ⟨s, rfl, _, _⟩ := open_i64F (P := Try.prog) Try.underlying3 g2'
      obtain ⟨k, A, d, dc, bs, hk, hcs, hrest⟩ := trod_res g3'
      simp at hcs
      obtain ⟨rfl, rfl⟩ := hcs
      exact ⟨(c, s, k, bs), A, d, dc, rfl, hk, hrest⟩
theorem open_rowsF {w : World} {base : Nat} {spare : Nat → Bool} {held : Bool} {fuel : Nat} {v : Value} {x : DataW H × List MemPlace} (hf : DataW.trod enc Try.prog w base spare held fuel 22 [v] = some x) :
    ∃ (A : Option Addr) (n c : Nat) (cs : List Value) (es : List RowT), v = .slice A n c ∧ es.length = n ∧ n ≤ c ∧ c ≤ 9223372036854775807 ∧ Rd w A cs ∧ RwRows w (fun b => b < w.heap.size) cs es := by
  rcases open_slice Try.underlying22 hf with ⟨hcs, _⟩ | ⟨a, n, c, m, n', D, Pl, hcs, _, hlc, hcm, hm, _, hx⟩
  · simp at hcs
    subst hcs
    exact ⟨none, 0, 0, [], [], rfl, rfl, by omega, by omega, Rd.nil, RwRows.nil⟩
  · simp at hcs
    subst hcs
    have hall : ∀ i, ∃ (e : RowT) (D : Option Addr) (d dc : Nat), i < n → w.cell? (a.add (4 * i)) = some (.int .i64 e.1) ∧ w.cell? (a.add (4 * i + 1)) = some (.int .i64 e.2.1) ∧ w.cell? (a.add (4 * i + 2)) = some (.int .u8 e.2.2.1) ∧ w.cell? (a.add (4 * i + 3)) = some (.slice D d dc) ∧ e.2.2.1 < 256 ∧ e.2.2.2.length = d ∧ d ≤ dc ∧ dc ≤ 9223372036854775807 ∧ Rd w D (bys e.2.2.2) := by
      intro i
      by_cases hi : i < n
      · obtain ⟨cs', hc, ht⟩ := hx i (by rw [hm]; split <;> omega)
        rw [row_cells] at hc
        obtain ⟨_, hcl, hat⟩ := World.cells?_some hc
        obtain ⟨e, D', d', dc, rfl, hk, hd, hdc, hdm, hD⟩ := trod_row ht
        have a0 := hat 0 (by decide)
        have a1 := hat 1 (by decide)
        have a2 := hat 2 (by decide)
        have a3 := hat 3 (by decide)
        rw [Px.add_add, Nat.mul_comm] at a0 a1 a2 a3
        exact ⟨e, D', d', dc, fun _ => ⟨a0, a1, a2, a3, hk, hd, hdc, hdm, hD⟩⟩
      · exact ⟨(0, 0, 0, []), none, 0, 0, fun h => absurd h hi⟩
    obtain ⟨g, hg⟩ := Classical.axiomOfChoice hall
    obtain ⟨gD, hg⟩ := Classical.axiomOfChoice hg
    obtain ⟨gd, hg⟩ := Classical.axiomOfChoice hg
    obtain ⟨gc, hg⟩ := Classical.axiomOfChoice hg
    have hcl : ((List.range n).flatMap fun i => [Value.int .i64 (g i).1, .int .i64 (g i).2.1, .int .u8 (g i).2.2.1, .slice (gD i) (gd i) (gc i)]).length = 4 * n := by
      simp [List.length_flatMap, List.map_const', Nat.mul_comm]
    have hget : ∀ m, ∀ j, j < m → ∀ r, r < 4 → ((List.range m).flatMap fun i => [Value.int .i64 (g i).1, .int .i64 (g i).2.1, .int .u8 (g i).2.2.1, .slice (gD i) (gd i) (gc i)])[4 * j + r]? = [Value.int .i64 (g j).1, .int .i64 (g j).2.1, .int .u8 (g j).2.2.1, .slice (gD j) (gd j) (gc j)][r]? := by
      intro m
      induction m with
      | zero => intro j hj; omega
      | succ m ih =>
        intro j hj r hr
        have hml : ((List.range m).flatMap fun i => [Value.int .i64 (g i).1, .int .i64 (g i).2.1, .int .u8 (g i).2.2.1, .slice (gD i) (gd i) (gc i)]).length = 4 * m := by
          simp [List.length_flatMap, List.map_const', Nat.mul_comm]
        rw [List.range_succ, List.flatMap_append]
        by_cases h : j < m
        · rw [List.getElem?_append_left (by rw [hml]; omega)]
          exact ih j h r hr
        · obtain rfl : j = m := by omega
          rw [List.getElem?_append_right (by rw [hml]; omega), hml, show 4 * j + r - 4 * j = r by omega]
          simp
    refine ⟨some a, n, c, _, (List.range n).map g, rfl, by simp, hlc, by unfold maxLen at hcm; omega, Rd.of_some fun j u hu => ?_, ⟨by rw [hcl]; simp, fun j p hp => ?_⟩⟩
    · have hj : j < 4 * n := by rw [← hcl]; exact (List.getElem?_eq_some_iff.1 hu).1
      have := hget n (j / 4) (by omega) (j % 4) (by omega)
      rw [show 4 * (j / 4) + j % 4 = j by omega] at this
      rw [this] at hu
      obtain ⟨b0, b1, b2, b3, _⟩ := hg (j / 4) (by omega)
      have h3 : j % 4 = 0 ∨ j % 4 = 1 ∨ j % 4 = 2 ∨ j % 4 = 3 := by omega
      rcases h3 with h3 | h3 | h3 | h3
      · rw [h3] at hu
        simp at hu
        subst hu
        rw [← b0]
        congr 2; omega
      · rw [h3] at hu
        simp at hu
        subst hu
        rw [← b1]
        congr 2; omega
      · rw [h3] at hu
        simp at hu
        subst hu
        rw [← b2]
        congr 2; omega
      · rw [h3] at hu
        simp at hu
        subst hu
        rw [← b3]
        congr 2; omega
    · have hj : j < n := by have := (List.getElem?_eq_some_iff.1 hp).1; simpa using this
      rw [List.getElem?_map, List.getElem?_range hj] at hp
      simp at hp
      subst hp
      obtain ⟨_, _, _, _, b2, b3, b4, b5, b6⟩ := hg j hj
      exact ⟨gD j, gd j, gc j, hget n j hj 0 (by omega), hget n j hj 1 (by omega), hget n j hj 2 (by omega), hget n j hj 3 (by omega), b2, b3, b4, b5, b6, fun hne a ha => rd_ltB b6 hne a ha⟩
/-- The rows that came in. -/
theorem open_rows {r : Reach} {b0 : Nat} {w : World} {base : Nat} {spare : Nat → Bool} {held : Bool} {v : Value} {d : DataW H} {ps : List MemPlace} (hval : Value.okWide Try.prog w r b0 22 v) (h : DataW.Trod enc Try.prog w base spare held 22 v d ps) :
    ∃ (A : Option Addr) (n c : Nat) (cs : List Value) (es : List RowT), v = .slice A n c ∧ es.length = n ∧ n ≤ c ∧ c ≤ 9223372036854775807 ∧ Rd w A cs ∧ RwRows w (fun b => b < w.heap.size) cs es := by
  obtain ⟨A, n, c, rfl⟩ := okWide_slice Try.underlying22 hval
  obtain ⟨fuel, hf⟩ := h
  have hf' : DataW.trod enc Try.prog w base spare held fuel 22 [.slice A n c] = some (d, ps) := hf
  exact open_rowsF hf'
end
/-! ### which rows may be a table's -/
/-- Is it right behind a client? -/
def okB (ahead : Int) (e : RowT) : Bool := decide (ahead < e.1) && (serB e.1 && (serB e.2.1 && (rsE e.2.2.1 e.2.2.2.length == 0)))
def okL : Int → List RowT → Bool
  | _, [] => true
  | a, e :: es => okB a e && okL e.1 es
def rowsB (es : List RowT) : Bool := decide (es.length ≤ 64) && okL 0 es
/-- The client ahead of place j. -/
def ahd (es : List RowT) : Nat → Int
  | 0 => 0
  | j + 1 => (es.getD j (0, 0, 0, [])).1
theorem okL_iff : ∀ (es : List RowT) (a : Int), okL a es = true ↔ ∀ j e, es[j]? = some e → okB (if j = 0 then a else ahd es j) e = true
  | [], a => by simp [okL]
  | x :: es, a => by
    have ih := okL_iff es x.1
    constructor
    · intro h j e he
      simp only [okL, Bool.and_eq_true] at h
      cases j with
      | zero => simp at he; subst he; simpa using h.1
      | succ j =>
        have := ih.1 h.2 j e (by simpa using he)
        cases j with
        | zero => simpa [ahd] using this
        | succ j => simpa [ahd] using this
    · intro h
      simp only [okL, Bool.and_eq_true]
      refine ⟨by simpa using h 0 x rfl, ih.2 fun j e he => ?_⟩
      have := h (j + 1) e (by simpa using he)
      cases j with
      | zero => simpa [ahd] using this
      | succ j => simpa [ahd] using this
theorem rowsB_iff (es : List RowT) : rowsB es = true ↔ es.length ≤ 64 ∧ ∀ j e, es[j]? = some e → okB (ahd es j) e = true := by
  unfold rowsB
  rw [Bool.and_eq_true, decide_eq_true_eq, okL_iff]
  constructor
  · rintro ⟨h1, h2⟩
    refine ⟨h1, fun j e he => ?_⟩
    have := h2 j e he
    cases j with
    | zero => simpa [ahd] using this
    | succ j => simpa using this
  · rintro ⟨h1, h2⟩
    refine ⟨h1, fun j e he => ?_⟩
    have := h2 j e he
    cases j with
    | zero => simpa [ahd] using this
    | succ j => simpa using this
theorem okB_out {a : Int} {e : RowT} (h : okB a e = true) : a < e.1 ∧ serB e.1 = true ∧ serB e.2.1 = true ∧ rsE e.2.2.1 e.2.2.2.length = 0 := by
  unfold okB at h
  simp only [Bool.and_eq_true, decide_eq_true_eq, beq_iff_eq] at h
  exact h
theorem ahd_succ {es : List RowT} {j : Nat} {e : RowT} (h : es[j]? = some e) : ahd es (j + 1) = e.1 := by
  show (es.getD j _).1 = e.1
  rw [List.getD_eq_getElem?_getD, h]; rfl
end Go.Proofs.Ytplodjccjobjbaa
