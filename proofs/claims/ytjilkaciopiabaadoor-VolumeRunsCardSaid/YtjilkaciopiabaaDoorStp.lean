/- A slice of steps that came in, opened. -/
import Derived.Test.YtjilkaciopiabaaDoorTypes
import Derived.Test.YtjilkaciopiabaaDoorAgg
import Derived.Test.YtjilkaciopiabaaDoorArg
import Derived.Test.YtjilkaciopiabaaDoorGrp
import Derived.Test.YtjilkaciopiabaaDoorFrm
import Derived.Deep.Slices
namespace Go.Proofs.YtjilkaciopiabaaDoor
open Go.RowKit Go.Px Go.ChangeShapes Go.WideShapes Go.ChangeAt Go.Joins Go.Deep
set_option linter.unusedVariables false
variable {H : Type} {enc : TypeId × Value → H}
/-- A request in memory, at an address. -/
def OpAt (w : World) (a : Addr) : Prop := ∃ (k : Nat) (p n : Int) (D : Option Addr) (d dc : Nat) (ds : List UInt8) (O : Option Addr) (o oc : Nat) (os : List UInt8), k < 256 ∧
  w.cell? a = some (.int .u8 k) ∧ w.cell? ⟨a.block, a.off + 1, none⟩ = some (.int .i64 p) ∧ w.cell? ⟨a.block, a.off + 2, none⟩ = some (.int .i64 n) ∧ w.cell? ⟨a.block, a.off + 3, none⟩ = some (.slice D d dc) ∧ w.cell? ⟨a.block, a.off + 4, none⟩ = some (.slice O o oc) ∧
  ds.length = d ∧ os.length = o ∧ Rd w D (bys ds) ∧ Rd w O (bys os)
theorem cell_below {w w' : World} (hb : Below w.heap.size w w') {a : Addr} {u : Value} (h : w.cell? a = some u) : w'.cell? a = some u := (hb.cell (p := a) (World.block_lt_of_cell? w _ h)).trans h
theorem OpAt.below {w w' : World} {a : Addr} (h : OpAt w a) (hb : Below w.heap.size w w') : OpAt w' a := by
  obtain ⟨k, p, n, D, d, dc, ds, O, o, oc, os, h0, h1, h2, h3, h4, h5, h6, h7, h8, h9⟩ := h
  exact ⟨k, p, n, D, d, dc, ds, O, o, oc, os, h0, cell_below hb h1, cell_below hb h2, cell_below hb h3, cell_below hb h4, cell_below hb h5, h6, h7, h8.below hb, h9.below hb⟩
/-- A row of n steps (of seven cells each). -/
def Stps (w : World) (A : Option Addr) (n : Nat) : Prop := ∀ i, i < n → ∃ a, A = some a ∧ OpAt w (a.add (i * 7))
theorem Stps.below {w w' : World} {A : Option Addr} {n : Nat} (h : Stps w A n) (hb : Below w.heap.size w w') : Stps w' A n := fun i hi => by
  obtain ⟨a, rfl, h1⟩ := h i hi
  exact ⟨a, rfl, h1.below hb⟩
theorem stp_cells : Tryd.prog.cellsOf 40 = 7 := by kernel_rfl
theorem op_cells : Tryd.prog.cellsOf 38 = 5 := by kernel_rfl
theorem trod_op {w : World} {base : Nat} {spare : Nat → Bool} {held : Bool} {fuel : Nat} {cs : List Value} {x : DataW H × List MemPlace} (h : DataW.trod enc Tryd.prog w base spare held fuel 38 cs = some x) :
    ∃ (k : Nat) (p n : Int) (D : Option Addr) (d dc : Nat) (ds : List UInt8) (O : Option Addr) (o oc : Nat) (os : List UInt8), k < 256 ∧ cs = [.int .u8 k, .int .i64 p, .int .i64 n, .slice D d dc, .slice O o oc] ∧ ds.length = d ∧ os.length = o ∧ Rd w D (bys ds) ∧ Rd w O (bys os) := by
  obtain ⟨ys, n', _, _, hlen, hyl, hg⟩ := DataW.trod_struct Tryd.underlying38 h
  rw [op_cells] at hlen
  have hone : oneCellFields Tryd.prog _ = true := (by kernel_rfl : (match Tryd.prog.underlying 38 with | some (.struct fs) => oneCellFields Tryd.prog fs | _ => false) = true)
  match cs, hlen with
  | [c0, c1, c2, c3, c4], _ =>
    match ys, hyl with
    | [y0, y1, y2, y3, y4], _ =>
      obtain ⟨o0, k0⟩ := hone_of hone 0 _ rfl
      obtain ⟨o1, k1⟩ := hone_of hone 1 _ rfl
      obtain ⟨o2, k2⟩ := hone_of hone 2 _ rfl
      obtain ⟨o3, k3⟩ := hone_of hone 3 _ rfl
      obtain ⟨o4, k4⟩ := hone_of hone 4 _ rfl
      have g0 := hg 0 _ rfl
      have g1 := hg 1 _ rfl
      have g2 := hg 2 _ rfl
      have g3 := hg 3 _ rfl
      have g4 := hg 4 _ rfl
      rw [o0, k0] at g0
      rw [o1, k1] at g1
      rw [o2, k2] at g2
      rw [o3, k3] at g3
      rw [o4, k4] at g4
      obtain ⟨k, rfl, hk⟩ := open_u8F (P := Tryd.prog) Tryd.underlying35 (show DataW.trod enc Tryd.prog w base spare held n' 35 [c0] = some y0 from g0)
      obtain ⟨p, rfl, _, _⟩ := open_i64F (P := Tryd.prog) Tryd.underlying3 (show DataW.trod enc Tryd.prog w base spare held n' 3 [c1] = some y1 from g1)
      obtain ⟨n, rfl, _, _⟩ := open_i64F (P := Tryd.prog) Tryd.underlying3 (show DataW.trod enc Tryd.prog w base spare held n' 3 [c2] = some y2 from g2)
      obtain ⟨D, d, dc, ds, rfl, hd, _, _, hD⟩ := open_bytesF (P := Tryd.prog) Tryd.underlying36 Tryd.underlying5 (by kernel_rfl) (show DataW.trod enc Tryd.prog w base spare held n' 36 [c3] = some y3 from g3)
      obtain ⟨O, o, oc, os, rfl, ho, _, _, hO⟩ := open_bytesF (P := Tryd.prog) Tryd.underlying36 Tryd.underlying5 (by kernel_rfl) (show DataW.trod enc Tryd.prog w base spare held n' 36 [c4] = some y4 from g4)
      exact ⟨k, p, n, D, d, dc, ds, O, o, oc, os, hk, rfl, hd, ho, hD, hO⟩
/-- The steps that came in. -/
theorem open_steps {r : Reach} {b0 : Nat} {w : World} {base : Nat} {spare : Nat → Bool} {held : Bool} {v : Value} {d : DataW H} {ps : List MemPlace} (hval : Value.okWide Tryd.prog w r b0 25 v) (h : DataW.Trod enc Tryd.prog w base spare held 25 v d ps) :
    ∃ (A : Option Addr) (n c : Nat), v = .slice A n c ∧ n ≤ c ∧ c ≤ 9223372036854775807 ∧ Stps w A n := by
  obtain ⟨A, n, c, rfl⟩ := okWide_slice Tryd.underlying25 hval
  obtain ⟨fuel, hf⟩ := h
  rcases open_slice Tryd.underlying25 hf with ⟨hcs, _⟩ | ⟨a, len, cap, m, n', D, Pl, hcs, _, hlc, hcm, hm, _, hx⟩
  · simp [Value.cells] at hcs
    obtain ⟨rfl, rfl, rfl⟩ := hcs
    exact ⟨none, 0, 0, rfl, by omega, by omega, fun i hi => by omega⟩
  · simp [Value.cells] at hcs
    obtain ⟨rfl, rfl, rfl⟩ := hcs
    refine ⟨some a, n, c, rfl, hlc, by unfold maxLen at hcm; omega, fun i hi => ⟨a, rfl, ?_⟩⟩
    obtain ⟨cs', hc, ht⟩ := hx i (by rw [hm]; split <;> omega)
    rw [stp_cells] at hc
    obtain ⟨_, hcl, hat⟩ := World.cells?_some hc
    obtain ⟨ys, n2, _, _, hlen, hyl, hg⟩ := DataW.trod_struct Tryd.underlying40 ht
    match ys, hyl with
    | [y0, y1, y2], _ =>
      have g0 := hg 0 _ rfl
      have e0 : (cs'.drop 0).take 5 = cs'.take 5 := by simp
      have g0' : DataW.trod enc Tryd.prog w base spare held n2 38 (cs'.take 5) = some y0 := g0
      obtain ⟨k, p, q, D', d', dc, ds, O, o, oc, os, hk, hcs, hd, ho, hD, hO⟩ := trod_op g0'
      have at_ : ∀ (j : Nat) (u : Value), (cs'.take 5)[j]? = some u → w.cell? ((a.add (i * 7)).add j) = some u := fun j u hu => by
        rw [List.getElem?_take] at hu
        split at hu
        · rw [hat j (by omega)]; exact hu
        · cases hu
      rw [hcs] at at_
      have a0 := at_ 0 _ rfl
      have a1 := at_ 1 _ rfl
      have a2 := at_ 2 _ rfl
      have a3 := at_ 3 _ rfl
      have a4 := at_ 4 _ rfl
      exact ⟨k, p, q, D', d', dc, ds, O, o, oc, os, hk, a0, a1, a2, a3, a4, hd, ho, hD, hO⟩
end Go.Proofs.YtjilkaciopiabaaDoor
