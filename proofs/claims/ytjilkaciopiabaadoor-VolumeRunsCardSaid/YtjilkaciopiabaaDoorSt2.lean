/- Pages that came in, opened; steps with their numbers and their pages. -/
import Derived.Test.YtjilkaciopiabaaDoorStp
import Derived.Test.YtjilkaciopiabaaDoorF05q
namespace Go.Proofs.YtjilkaciopiabaaDoor
open Go.RowKit Go.Px Go.ChangeShapes Go.WideShapes Go.ChangeAt Go.Joins Go.Deep
set_option linter.unusedVariables false
variable {H : Type} {enc : TypeId × Value → H}
theorem pg_cells : Tryd.prog.cellsOf 80 = 3 := by kernel_rfl
theorem trod_page {w : World} {base : Nat} {spare : Nat → Bool} {held : Bool} {fuel : Nat} {cs : List Value} {x : DataW H × List MemPlace} (h : DataW.trod enc Tryd.prog w base spare held fuel 80 cs = some x) :
    ∃ (p : Int × Int × List UInt8) (D : Option Addr) (d dc : Nat), cs = [.int .i64 p.1, .int .i64 p.2.1, .slice D d dc] ∧ p.2.2.length = d ∧ d ≤ dc ∧ dc ≤ 9223372036854775807 ∧ Rd w D (bys p.2.2) := by
  obtain ⟨ys, n', _, _, hlen, hyl, hg⟩ := DataW.trod_struct Tryd.underlying80 h
  rw [pg_cells] at hlen
  have hone : oneCellFields Tryd.prog _ = true := (by kernel_rfl : (match Tryd.prog.underlying 80 with | some (.struct fs) => oneCellFields Tryd.prog fs | _ => false) = true)
  match cs, hlen with
  | [c0, c1, c2], _ =>
    match ys, hyl with
    | [y0, y1, y2], _ =>
      obtain ⟨o0, k0⟩ := hone_of hone 0 _ rfl
      obtain ⟨o1, k1⟩ := hone_of hone 1 _ rfl
      obtain ⟨o2, k2⟩ := hone_of hone 2 _ rfl
      have g0 := hg 0 _ rfl
      have g1 := hg 1 _ rfl
      have g2 := hg 2 _ rfl
      rw [o0, k0] at g0
      rw [o1, k1] at g1
      rw [o2, k2] at g2
      obtain ⟨p, rfl, _, _⟩ := open_i64F (P := Tryd.prog) Tryd.underlying3 (show DataW.trod enc Tryd.prog w base spare held n' 3 [c0] = some y0 from g0)
      obtain ⟨v, rfl, _, _⟩ := open_i64F (P := Tryd.prog) Tryd.underlying3 (show DataW.trod enc Tryd.prog w base spare held n' 3 [c1] = some y1 from g1)
      obtain ⟨D, d, dc, ds, rfl, hd, hdc, hdm, hD⟩ := open_bytesF (P := Tryd.prog) Tryd.underlying36 Tryd.underlying5 (by kernel_rfl) (show DataW.trod enc Tryd.prog w base spare held n' 36 [c2] = some y2 from g2)
      exact ⟨(p, v, ds), D, d, dc, rfl, hd, hdc, hdm, hD⟩
theorem open_pagesF {w : World} {base : Nat} {spare : Nat → Bool} {held : Bool} {fuel : Nat} {v : Value} {x : DataW H × List MemPlace} (hf : DataW.trod enc Tryd.prog w base spare held fuel 24 [v] = some x) :
    ∃ (A : Option Addr) (n c : Nat) (cs : List Value) (ps : List (Int × Int × List UInt8)), v = .slice A n c ∧ ps.length = n ∧ n ≤ c ∧ c ≤ 9223372036854775807 ∧ Rd w A cs ∧ PgRows w (fun _ => True) cs ps := by
  rcases open_slice Tryd.underlying24 hf with ⟨hcs, _⟩ | ⟨a, n, c, m, n', D, Pl, hcs, _, hlc, hcm, hm, _, hx⟩
  · simp at hcs
    subst hcs
    exact ⟨none, 0, 0, [], [], rfl, rfl, by omega, by omega, Rd.nil, PgRows.nil⟩
  · simp at hcs
    subst hcs
    have hall : ∀ i, ∃ (p : Int × Int × List UInt8) (D : Option Addr) (d dc : Nat), i < n → w.cell? (a.add (3 * i)) = some (.int .i64 p.1) ∧ w.cell? (a.add (3 * i + 1)) = some (.int .i64 p.2.1) ∧ w.cell? (a.add (3 * i + 2)) = some (.slice D d dc) ∧ p.2.2.length = d ∧ d ≤ dc ∧ dc ≤ 9223372036854775807 ∧ Rd w D (bys p.2.2) := by
      intro i
      by_cases hi : i < n
      · obtain ⟨cs', hc, ht⟩ := hx i (by rw [hm]; split <;> omega)
        rw [pg_cells] at hc
        obtain ⟨_, hcl, hat⟩ := World.cells?_some hc
        obtain ⟨p, D', d', dc, rfl, hd, hdc, hdm, hD⟩ := trod_page ht
        have a0 := hat 0 (by decide)
        have a1 := hat 1 (by decide)
        have a2 := hat 2 (by decide)
        rw [Px.add_add, Nat.mul_comm] at a0 a1 a2
        exact ⟨p, D', d', dc, fun _ => ⟨a0, a1, a2, hd, hdc, hdm, hD⟩⟩
      · exact ⟨(0, 0, []), none, 0, 0, fun h => absurd h hi⟩
    obtain ⟨g, hg⟩ := Classical.axiomOfChoice hall
    obtain ⟨gD, hg⟩ := Classical.axiomOfChoice hg
    obtain ⟨gd, hg⟩ := Classical.axiomOfChoice hg
    obtain ⟨gc, hg⟩ := Classical.axiomOfChoice hg
    have hcl : ((List.range n).flatMap fun i => [Value.int .i64 (g i).1, .int .i64 (g i).2.1, .slice (gD i) (gd i) (gc i)]).length = 3 * n := by
      simp [List.length_flatMap, List.map_const', Nat.mul_comm]
    have hget : ∀ m, ∀ j, j < m → ∀ r, r < 3 → ((List.range m).flatMap fun i => [Value.int .i64 (g i).1, .int .i64 (g i).2.1, .slice (gD i) (gd i) (gc i)])[3 * j + r]? = [Value.int .i64 (g j).1, .int .i64 (g j).2.1, .slice (gD j) (gd j) (gc j)][r]? := by
      intro m
      induction m with
      | zero => intro j hj; omega
      | succ m ih =>
        intro j hj r hr
        have hml : ((List.range m).flatMap fun i => [Value.int .i64 (g i).1, .int .i64 (g i).2.1, .slice (gD i) (gd i) (gc i)]).length = 3 * m := by
          simp [List.length_flatMap, List.map_const', Nat.mul_comm]
        rw [List.range_succ, List.flatMap_append]
        by_cases h : j < m
        · rw [List.getElem?_append_left (by rw [hml]; omega)]
          exact ih j h r hr
        · obtain rfl : j = m := by omega
          rw [List.getElem?_append_right (by rw [hml]; omega), hml, show 3 * j + r - 3 * j = r by omega]
          simp
    refine ⟨some a, n, c, _, (List.range n).map g, rfl, by simp, hlc, by unfold maxLen at hcm; omega, Rd.of_some fun j u hu => ?_, ⟨by rw [hcl]; simp, fun j p hp => ?_⟩⟩
    · have hj : j < 3 * n := by rw [← hcl]; exact (List.getElem?_eq_some_iff.1 hu).1
      have := hget n (j / 3) (by omega) (j % 3) (by omega)
      rw [show 3 * (j / 3) + j % 3 = j by omega] at this
      rw [this] at hu
      obtain ⟨b0, b1, b2, _⟩ := hg (j / 3) (by omega)
      have h3 : j % 3 = 0 ∨ j % 3 = 1 ∨ j % 3 = 2 := by omega
      rcases h3 with h3 | h3 | h3
      · rw [h3] at hu
        simp at hu
        subst hu
        rw [← b0]
        congr 2; omega
      · rw [h3] at hu
        simp at hu
        subst hu
        rw [← b1]
        congr 2; omega
      · rw [h3] at hu
        simp at hu
        subst hu
        rw [← b2]
        congr 2; omega
    · have hj : j < n := by have := (List.getElem?_eq_some_iff.1 hp).1; simpa using this
      rw [List.getElem?_map, List.getElem?_range hj] at hp
      simp at hp
      subst hp
      obtain ⟨_, _, _, b3, b4, b5, b6⟩ := hg j hj
      exact ⟨gD j, gd j, gc j, hget n j hj 0 (by omega), hget n j hj 1 (by omega), hget n j hj 2 (by omega), b3, b4, b5, b6, fun _ _ => trivial⟩
/-- The pages that came in. -/
theorem open_pages {r : Reach} {b0 : Nat} {w : World} {base : Nat} {spare : Nat → Bool} {held : Bool} {v : Value} {d : DataW H} {ps : List MemPlace} (hval : Value.okWide Tryd.prog w r b0 24 v) (h : DataW.Trod enc Tryd.prog w base spare held 24 v d ps) :
    ∃ (A : Option Addr) (n c : Nat) (cs : List Value) (ps : List (Int × Int × List UInt8)), v = .slice A n c ∧ ps.length = n ∧ n ≤ c ∧ c ≤ 9223372036854775807 ∧ Rd w A cs ∧ PgRows w (fun _ => True) cs ps := by
  obtain ⟨A, n, c, rfl⟩ := okWide_slice Tryd.underlying24 hval
  obtain ⟨fuel, hf⟩ := h
  have hf' : DataW.trod enc Tryd.prog w base spare held fuel 24 [.slice A n c] = some (d, ps) := hf
  exact open_pagesF hf'
/-- A step in memory: a request, a number, pages. -/
def StpAt (w : World) (a : Addr) : Prop := ∃ (k : Nat) (p n : Int) (D : Option Addr) (d dc : Nat) (ds : List UInt8) (O : Option Addr) (o oc : Nat) (os : List UInt8) (num : Int) (A : Option Addr) (m mc : Nat) (cs : List Value) (ps : List (Int × Int × List UInt8)), k < 256 ∧
  w.cell? a = some (.int .u8 k) ∧ w.cell? ⟨a.block, a.off + 1, none⟩ = some (.int .i64 p) ∧ w.cell? ⟨a.block, a.off + 2, none⟩ = some (.int .i64 n) ∧ w.cell? ⟨a.block, a.off + 3, none⟩ = some (.slice D d dc) ∧ w.cell? ⟨a.block, a.off + 4, none⟩ = some (.slice O o oc) ∧
  w.cell? ⟨a.block, a.off + 5, none⟩ = some (.int .i64 num) ∧ w.cell? ⟨a.block, a.off + 6, none⟩ = some (.slice A m mc) ∧
  ds.length = d ∧ d ≤ dc ∧ dc ≤ 9223372036854775807 ∧ os.length = o ∧ Rd w D (bys ds) ∧ Rd w O (bys os) ∧ ps.length = m ∧ m ≤ mc ∧ mc ≤ 9223372036854775807 ∧ Rd w A cs ∧ PgRows w (fun _ => True) cs ps
theorem StpAt.below {w w' : World} {a : Addr} (h : StpAt w a) (hb : Below w.heap.size w w') : StpAt w' a := by
  obtain ⟨k, p, n, D, d, dc, ds, O, o, oc, os, num, A, m, mc, cs, ps, h0, h1, h2, h3, h4, h5, h6, h7, h8, h9, i1, i2, i3, i4, i5, i6, i7, i8, i9⟩ := h
  exact ⟨k, p, n, D, d, dc, ds, O, o, oc, os, num, A, m, mc, cs, ps, h0, cell_below hb h1, cell_below hb h2, cell_below hb h3, cell_below hb h4, cell_below hb h5, cell_below hb h6, cell_below hb h7, h8, h9, i1, i2, i3.below hb, i4.below hb, i5, i6, i7, i8.below hb, i9.below hb⟩
/-- A row of n steps (of seven cells each). -/
def Stps2 (w : World) (A : Option Addr) (n : Nat) : Prop := ∀ i, i < n → ∃ a, A = some a ∧ StpAt w (a.add (i * 7))
theorem Stps2.below {w w' : World} {A : Option Addr} {n : Nat} (h : Stps2 w A n) (hb : Below w.heap.size w w') : Stps2 w' A n := fun i hi => by
  obtain ⟨a, rfl, h1⟩ := h i hi
  exact ⟨a, rfl, h1.below hb⟩
theorem trod_op2 {w : World} {base : Nat} {spare : Nat → Bool} {held : Bool} {fuel : Nat} {cs : List Value} {x : DataW H × List MemPlace} (h : DataW.trod enc Tryd.prog w base spare held fuel 38 cs = some x) :
    ∃ (k : Nat) (p n : Int) (D : Option Addr) (d dc : Nat) (ds : List UInt8) (O : Option Addr) (o oc : Nat) (os : List UInt8), k < 256 ∧ cs = [.int .u8 k, .int .i64 p, .int .i64 n, .slice D d dc, .slice O o oc] ∧ ds.length = d ∧ d ≤ dc ∧ dc ≤ 9223372036854775807 ∧ os.length = o ∧ Rd w D (bys ds) ∧ Rd w O (bys os) := by
  obtain ⟨ys, n', _, _, hlen, hyl, hg⟩ := DataW.trod_struct Tryd.underlying38 h
  rw [op_cells] at hlen
  have hone : oneCellFields Tryd.prog _ = true := (by kernel_rfl : (match Tryd.prog.underlying 38 with | some (.struct fs) => oneCellFields Tryd.prog fs | _ => false) = true)
  match cs, hlen with
  | [c0, c1, c2, c3, c4], _ =>
    match ys, hyl with
    | [y0, y1, y2, y3, y4], _ =>
      obtain ⟨o0, k0⟩ := hone_of hone 0 _ rfl
      obtain ⟨o1, k1⟩ := hone_of hone 1 _ rfl
      obtain ⟨o2, k2⟩ := hone_of hone 2 _ rfl
      obtain ⟨o3, k3⟩ := hone_of hone 3 _ rfl
      obtain ⟨o4, k4⟩ := hone_of hone 4 _ rfl
      have g0 := hg 0 _ rfl
      have g1 := hg 1 _ rfl
      have g2 := hg 2 _ rfl
      have g3 := hg 3 _ rfl
      have g4 := hg 4 _ rfl
      rw [o0, k0] at g0
      rw [o1, k1] at g1
      rw [o2, k2] at g2
      rw [o3, k3] at g3
      rw [o4, k4] at g4
      obtain ⟨k, rfl, hk⟩ := open_u8F (P := Tryd.prog) Tryd.underlying35 (show DataW.trod enc Tryd.prog w base spare held n' 35 [c0] = some y0 from g0)
      obtain ⟨p, rfl, _, _⟩ := open_i64F (P := Tryd.prog) Tryd.underlying3 (show DataW.trod enc Tryd.prog w base spare held n' 3 [c1] = some y1 from g1)
      obtain ⟨n, rfl, _, _⟩ := open_i64F (P := Tryd.prog) Tryd.underlying3 (show DataW.trod enc Tryd.prog w base spare held n' 3 [c2] = some y2 from g2)
      obtain ⟨D, d, dc, ds, rfl, hd, hdc, hdm, hD⟩ := open_bytesF (P := Tryd.prog) Tryd.underlying36 Tryd.underlying5 (by kernel_rfl) (show DataW.trod enc Tryd.prog w base spare held n' 36 [c3] = some y3 from g3)
      obtain ⟨O, o, oc, os, rfl, ho, _, _, hO⟩ := open_bytesF (P := Tryd.prog) Tryd.underlying36 Tryd.underlying5 (by kernel_rfl) (show DataW.trod enc Tryd.prog w base spare held n' 36 [c4] = some y4 from g4)
      exact ⟨k, p, n, D, d, dc, ds, O, o, oc, os, hk, rfl, hd, hdc, hdm, ho, hD, hO⟩
/-- The steps that came in. -/
theorem open_steps2 {r : Reach} {b0 : Nat} {w : World} {base : Nat} {spare : Nat → Bool} {held : Bool} {v : Value} {d : DataW H} {ps : List MemPlace} (hval : Value.okWide Tryd.prog w r b0 25 v) (h : DataW.Trod enc Tryd.prog w base spare held 25 v d ps) :
    ∃ (A : Option Addr) (n c : Nat), v = .slice A n c ∧ n ≤ c ∧ c ≤ 9223372036854775807 ∧ Stps2 w A n := by
  obtain ⟨A, n, c, rfl⟩ := okWide_slice Tryd.underlying25 hval
  obtain ⟨fuel, hf⟩ := h
  rcases open_slice Tryd.underlying25 hf with ⟨hcs, _⟩ | ⟨a, len, cap, m, n', D, Pl, hcs, _, hlc, hcm, hm, _, hx⟩
  · simp [Value.cells] at hcs
    obtain ⟨rfl, rfl, rfl⟩ := hcs
    exact ⟨none, 0, 0, rfl, by omega, by omega, fun i hi => by omega⟩
  · simp [Value.cells] at hcs
    obtain ⟨rfl, rfl, rfl⟩ := hcs
    refine ⟨some a, n, c, rfl, hlc, by unfold maxLen at hcm; omega, fun i hi => ⟨a, rfl, ?_⟩⟩
    obtain ⟨cs', hc, ht⟩ := hx i (by rw [hm]; split <;> omega)
    rw [stp_cells] at hc
    obtain ⟨_, hcl, hat⟩ := World.cells?_some hc
    obtain ⟨ys, n2, _, _, hlen, hyl, hg⟩ := DataW.trod_struct Tryd.underlying40 ht
    rw [stp_cells] at hlen
    match cs', hlen with
    | [c0, c1, c2, c3, c4, c5, c6], _ =>
      match ys, hyl with
      | [y0, y1, y2], _ =>
        have g0 := hg 0 _ rfl
        have g1 := hg 1 _ rfl
        have g2 := hg 2 _ rfl
        have g0' : DataW.trod enc Tryd.prog w base spare held n2 38 [c0, c1, c2, c3, c4] = some y0 := g0
        have g1' : DataW.trod enc Tryd.prog w base spare held n2 3 [c5] = some y1 := g1
        have g2' : DataW.trod enc Tryd.prog w base spare held n2 24 [c6] = some y2 := g2
        obtain ⟨k, p, q, D', d', dc, ds, O, o, oc, os, hk, hcs, hd, hdc, hdm, ho, hD, hO⟩ := trod_op2 g0'
        obtain ⟨num, rfl, _, _⟩ := open_i64F (P := Tryd.prog) Tryd.underlying3 g1'
        obtain ⟨A', m', c', cs, ps, rfl, hm', hmc, hcm', hr, hP⟩ := open_pagesF g2'
        simp at hcs
        obtain ⟨rfl, rfl, rfl, rfl, rfl⟩ := hcs
        have a0 := hat 0 (by decide)
        have a1 := hat 1 (by decide)
        have a2 := hat 2 (by decide)
        have a3 := hat 3 (by decide)
        have a4 := hat 4 (by decide)
        have a5 := hat 5 (by decide)
        have a6 := hat 6 (by decide)
        exact ⟨k, p, q, D', d', dc, ds, O, o, oc, os, num, A', m', c', cs, ps, hk, a0, a1, a2, a3, a4, a5, a6, hd, hdc, hdm, ho, hD, hO, hm', hmc, hcm', hr, hP⟩
end Go.Proofs.YtjilkaciopiabaaDoor
