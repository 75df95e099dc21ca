/- A table's calls that came in, opened. -/
import Derived.Test.YtplodjccjobjbaaTypes
import Derived.Test.YtplodjccjobjbaaAgg
import Derived.Test.YtplodjccjobjbaaArg
import Derived.Test.YtplodjccjobjbaaGrp
import Derived.Test.YtplodjccjobjbaaFrm
import Derived.Deep.Slices
namespace Go.Proofs.Ytplodjccjobjbaa
open Go.RowKit Go.Px Go.ChangeShapes Go.WideShapes Go.ChangeAt Go.Joins Go.Deep
set_option linter.unusedVariables false
variable {H : Type} {enc : TypeId × Value → H}
theorem call_cells : Try.prog.cellsOf 35 = 5 := by kernel_rfl
theorem res_cells : Try.prog.cellsOf 33 = 2 := by kernel_rfl
theorem trod_res {w : World} {base : Nat} {spare : Nat → Bool} {held : Bool} {fuel : Nat} {cs : List Value} {x : DataW H × List MemPlace} (h : DataW.trod enc Try.prog w base spare held fuel 33 cs = some x) :
    ∃ (k : Nat) (A : Option Addr) (d dc : Nat) (bs : List UInt8), k < 256 ∧ cs = [.int .u8 k, .slice A d dc] ∧ bs.length = d ∧ d ≤ dc ∧ dc ≤ 9223372036854775807 ∧ Rd w A (bys bs) := by
  obtain ⟨ys, n', _, _, hlen, hyl, hg⟩ := DataW.trod_struct Try.underlying33 h
  rw [res_cells] at hlen
  have hone : oneCellFields Try.prog _ = true := (by kernel_rfl : (match Try.prog.underlying 33 with | some (.struct fs) => oneCellFields Try.prog fs | _ => false) = true)
  match cs, hlen with
  | [c0, c1], _ =>
    match ys, hyl with
    | [y0, y1], _ =>
      obtain ⟨o0, k0⟩ := hone_of hone 0 _ rfl
      obtain ⟨o1, k1⟩ := hone_of hone 1 _ rfl
      have g0 := hg 0 _ rfl
      have g1 := hg 1 _ rfl
      rw [o0, k0] at g0
      rw [o1, k1] at g1
      obtain ⟨k, rfl, hk⟩ := open_u8F (P := Try.prog) Try.underlying30 (show DataW.trod enc Try.prog w base spare held n' 30 [c0] = some y0 from g0)
      obtain ⟨A, d, dc, bs, rfl, hd, hdc, hdm, hD⟩ := open_bytesF (P := Try.prog) Try.underlying31 Try.underlying5 (by kernel_rfl) (show DataW.trod enc Try.prog w base spare held n' 31 [c1] = some y1 from g1)
      exact ⟨k, A, d, dc, bs, hk, rfl, hd, hdc, hdm, hD⟩
set_option maxRecDepth 20000 in
theorem trod_call {w : World} {base : Nat} {spare : Nat → Bool} {held : Bool} {fuel : Nat} {cs : List Value} {x : DataW H × List MemPlace} (h : DataW.trod enc Try.prog w base spare held fuel 35 cs = some x) :
    ∃ (dn : Bool) (c s : Int) (k : Nat) (A : Option Addr) (d dc : Nat) (bs : List UInt8), cs = [.bool dn, .int .i64 c, .int .i64 s, .int .u8 k, .slice A d dc] ∧ k < 256 ∧ bs.length = d ∧ d ≤ dc ∧ dc ≤ 9223372036854775807 ∧ Rd w A (bys bs) := by
  obtain ⟨ys, n', _, _, hlen, hyl, hg⟩ := DataW.trod_struct Try.underlying35 h
  rw [call_cells] at hlen
  match cs, hlen with
  | [c0, c1, c2, c3, c4], _ =>
    match ys, hyl with
    | [y0, y1, y2, y3], _ =>
      have g0 := hg 0 _ rfl
      have g1 := hg 1 _ rfl
      have g2 := hg 2 _ rfl
      have g3 := hg 3 _ rfl
      have g0' : DataW.trod enc Try.prog w base spare held n' 4 [c0] = some y0 := g0
      have g1' : DataW.trod enc Try.prog w base spare held n' 3 [c1] = some y1 := g1
      have g2' : DataW.trod enc Try.prog w base spare held n' 3 [c2] = some y2 := g2
      have g3' : DataW.trod enc Try.prog w base spare held n' 33 [c3, c4] = some y3 := g3
      obtain ⟨dn, hdn, _⟩ := DataW.trod_bool Try.underlying4 g0'
      obtain ⟨c, rfl, _, _⟩ := open_i64F (P := Try.prog) Try.underlying3 g1'
      obtain ⟨s, rfl, _, _⟩ := open_i64F (P := Try.prog) Try.underlying3 g2'
      obtain ⟨k, A, d, dc, bs, hk, hcs, hrest⟩ := trod_res g3'
      simp at hcs hdn
      obtain ⟨rfl, rfl⟩ := hcs
      subst hdn
      exact ⟨dn, c, s, k, A, d, dc, bs, rfl, hk, hrest⟩
/-- A call that came in. -/
theorem open_call {r : Reach} {b0 : Nat} {w : World} {base : Nat} {spare : Nat → Bool} {held : Bool} {v : Value} {d : DataW H} {ps : List MemPlace} (hval : Value.okWide Try.prog w r b0 35 v) (h : DataW.Trod enc Try.prog w base spare held 35 v d ps) :
    ∃ (dn : Bool) (c s : Int) (k : Nat) (A : Option Addr) (d dc : Nat) (bs : List UInt8), v = .agg #[.bool dn, .int .i64 c, .int .i64 s, .int .u8 k, .slice A d dc] ∧ k < 256 ∧ bs.length = d ∧ d ≤ dc ∧ dc ≤ 9223372036854775807 ∧ Rd w A (bys bs) := by
  obtain ⟨cs, rfl, hsz⟩ := okWide_struct Try.underlying35 hval
  obtain ⟨fuel, hf⟩ := h
  obtain ⟨dn, c, s, k, A, d', dc, bs, hcs, hk, hrest⟩ := trod_call hf
  obtain ⟨l⟩ := cs
  have hl : l = [.bool dn, .int .i64 c, .int .i64 s, .int .u8 k, .slice A d' dc] := by simpa [Value.cells] using hcs
  subst hl
  exact ⟨dn, c, s, k, A, d', dc, bs, rfl, hk, hrest⟩
/-- A call in memory. -/
def CallAt (w : World) (a : Addr) (x : Int × Int × Nat × List UInt8) : Prop := ∃ (dn : Bool) (A : Option Addr) (d dc : Nat), x.2.2.1 < 256 ∧
  w.cell? a = some (.bool dn) ∧ w.cell? ⟨a.block, a.off + 1, none⟩ = some (.int .i64 x.1) ∧ w.cell? ⟨a.block, a.off + 2, none⟩ = some (.int .i64 x.2.1) ∧ w.cell? ⟨a.block, a.off + 3, none⟩ = some (.int .u8 x.2.2.1) ∧ w.cell? ⟨a.block, a.off + 4, none⟩ = some (.slice A d dc) ∧
  x.2.2.2.length = d ∧ d ≤ dc ∧ dc ≤ 9223372036854775807 ∧ Rd w A (bys x.2.2.2)
/-- The calls that came in. -/
theorem open_calls {r : Reach} {b0 : Nat} {w : World} {base : Nat} {spare : Nat → Bool} {held : Bool} {v : Value} {d : DataW H} {ps : List MemPlace} (hval : Value.okWide Try.prog w r b0 23 v) (h : DataW.Trod enc Try.prog w base spare held 23 v d ps) :
    ∃ (A : Option Addr) (n c : Nat), v = .slice A n c ∧ n ≤ c ∧ c ≤ 9223372036854775807 ∧ ∀ i, i < n → ∃ a x, A = some a ∧ CallAt w (a.add (i * 5)) x := by
  obtain ⟨A, n, c, rfl⟩ := okWide_slice Try.underlying23 hval
  obtain ⟨fuel, hf⟩ := h
  rcases open_slice Try.underlying23 hf with ⟨hcs, _⟩ | ⟨a, len, cap, m, n', D, Pl, hcs, _, hlc, hcm, hm, _, hx⟩
  · simp [Value.cells] at hcs
    obtain ⟨rfl, rfl, rfl⟩ := hcs
    exact ⟨none, 0, 0, rfl, by omega, by omega, fun i hi => by omega⟩
  · simp [Value.cells] at hcs
    obtain ⟨rfl, rfl, rfl⟩ := hcs
    refine ⟨some a, n, c, rfl, hlc, by unfold maxLen at hcm; omega, fun i hi => ?_⟩
    obtain ⟨cs', hc, ht⟩ := hx i (by rw [hm]; split <;> omega)
    rw [call_cells] at hc
    obtain ⟨_, hcl, hat⟩ := World.cells?_some hc
    obtain ⟨dn, c', s, k, A, d, dc, bs, rfl, hk, hd, hdc, hdm, hr⟩ := trod_call ht
    have a0 := hat 0 (by decide)
    have a1 := hat 1 (by decide)
    have a2 := hat 2 (by decide)
    have a3 := hat 3 (by decide)
    have a4 := hat 4 (by decide)
    exact ⟨a, (c', s, k, bs), rfl, dn, A, d, dc, hk, a0, a1, a2, a3, a4, hd, hdc, hdm, hr⟩
end Go.Proofs.Ytplodjccjobjbaa
