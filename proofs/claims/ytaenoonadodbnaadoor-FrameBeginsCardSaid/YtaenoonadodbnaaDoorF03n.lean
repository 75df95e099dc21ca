/- A slice of frames that came in, opened. -/
import Derived.Test.YtaenoonadodbnaaDoorTypes
import Derived.Test.YtaenoonadodbnaaDoorFrm
import Derived.Test.YtaenoonadodbnaaDoorF03l
import Derived.Deep.Slices
namespace Go.Proofs.YtaenoonadodbnaaDoor
open Go.RowKit Go.Px Go.ChangeShapes Go.WideShapes Go.ChangeAt Go.Joins Go.Deep
set_option linter.unusedVariables false
variable {H : Type} {enc : TypeId × Value → H}
theorem frm_cells : Tryd.prog.cellsOf 25 = 3 := by kernel_rfl
theorem trod_frame {w : World} {base : Nat} {spare : Nat → Bool} {held : Bool} {fuel : Nat} {cs : List Value} {x : DataW H × List MemPlace} (h : DataW.trod enc Tryd.prog w base spare held fuel 25 cs = some x) :
    ∃ (k p : Nat) (D : Option Addr) (d dc : Nat) (ds : List UInt8), k < 256 ∧ p < 18446744073709551616 ∧ cs = [.int .u8 k, .int .u64 p, .slice D d dc] ∧ ds.length = d ∧ d ≤ dc ∧ dc ≤ 9223372036854775807 ∧ Rd w D (bys ds) := by
  obtain ⟨ys, n', _, _, hlen, hyl, hg⟩ := DataW.trod_struct Tryd.underlying25 h
  rw [frm_cells] at hlen
  have hone : oneCellFields Tryd.prog _ = true := (by kernel_rfl : (match Tryd.prog.underlying 25 with | some (.struct fs) => oneCellFields Tryd.prog fs | _ => false) = true)
  match cs, hlen with
  | [c0, c1, c2], _ =>
    match ys, hyl with
    | [y0, y1, y2], _ =>
      obtain ⟨o0, k0⟩ := hone_of hone 0 _ rfl
      obtain ⟨o1, k1⟩ := hone_of hone 1 _ rfl
      obtain ⟨o2, k2⟩ := hone_of hone 2 _ rfl
      have g0 := hg 0 _ rfl
      have g1 := hg 1 _ rfl
      have g2 := hg 2 _ rfl
      rw [o0, k0] at g0
      rw [o1, k1] at g1
      rw [o2, k2] at g2
      obtain ⟨k, rfl, hk⟩ := open_u8F (P := Tryd.prog) Tryd.underlying5 (show DataW.trod enc Tryd.prog w base spare held n' 5 [c0] = some y0 from g0)
      obtain ⟨p, rfl, hp⟩ := open_u64F (P := Tryd.prog) Tryd.underlying22 (show DataW.trod enc Tryd.prog w base spare held n' 22 [c1] = some y1 from g1)
      obtain ⟨D, d, dc, ds, rfl, hd, hdc, hdm, hD⟩ := open_bytesF (P := Tryd.prog) Tryd.underlying23 Tryd.underlying5 (by kernel_rfl) (show DataW.trod enc Tryd.prog w base spare held n' 23 [c2] = some y2 from g2)
      exact ⟨k, p, D, d, dc, ds, hk, hp, rfl, hd, hdc, hdm, hD⟩
/-- The frames that came in. -/
theorem open_frames {r : Reach} {b0 : Nat} {w : World} {base : Nat} {spare : Nat → Bool} {held : Bool} {v : Value} {d : DataW H} {ps : List MemPlace} (hval : Value.okWide Tryd.prog w r b0 35 v) (h : DataW.Trod enc Tryd.prog w base spare held 35 v d ps) :
    ∃ (A : Option Addr) (n c : Nat) (fs : List (Nat × Nat × List UInt8)), v = .slice A n c ∧ fs.length = n ∧ n ≤ c ∧ c ≤ 9223372036854775807 ∧ FrArg w A fs := by
  obtain ⟨A, n, c, rfl⟩ := okWide_slice Tryd.underlying35 hval
  obtain ⟨fuel, hf⟩ := h
  rcases open_slice Tryd.underlying35 hf with ⟨hcs, _⟩ | ⟨a, len, cap, m, n', D, Pl, hcs, _, hlc, hcm, hm, _, hx⟩
  · simp [Value.cells] at hcs
    obtain ⟨rfl, rfl, rfl⟩ := hcs
    exact ⟨none, 0, 0, [], rfl, rfl, by omega, by omega, fun i f hi => by simp at hi⟩
  · simp [Value.cells] at hcs
    obtain ⟨rfl, rfl, rfl⟩ := hcs
    have hall : ∀ i, i < n → ∃ f : Nat × Nat × List UInt8, ∃ A' m c', f.1 < 256 ∧ f.2.1 < 18446744073709551616 ∧ w.cell? (a.add (i * 3)) = some (.int .u8 (f.1 : Nat)) ∧ w.cell? ⟨(a.add (i * 3)).block, (a.add (i * 3)).off + 1, none⟩ = some (.int .u64 (f.2.1 : Nat)) ∧ w.cell? ⟨(a.add (i * 3)).block, (a.add (i * 3)).off + 2, none⟩ = some (.slice A' m c') ∧ f.2.2.length = m ∧ m ≤ c' ∧ c' ≤ 9223372036854775807 ∧ Rd w A' (bys f.2.2) := by
      intro i hi
      obtain ⟨cs', hc, ht⟩ := hx i (by rw [hm]; split <;> omega)
      rw [frm_cells] at hc
      obtain ⟨_, hcl, hat⟩ := World.cells?_some hc
      obtain ⟨k, p, D', d', dc, ds, hk, hp, rfl, hd, hdc, hdm, hD⟩ := trod_frame ht
      have a0 := hat 0 (by decide)
      have a1 := hat 1 (by decide)
      have a2 := hat 2 (by decide)
      exact ⟨(k, p, ds), D', d', dc, hk, hp, a0, a1, a2, hd, hdc, hdm, hD⟩
    obtain ⟨g, hg⟩ : ∃ g : Nat → Nat × Nat × List UInt8, ∀ i, i < n → ∃ A' m c', (g i).1 < 256 ∧ (g i).2.1 < 18446744073709551616 ∧ w.cell? (a.add (i * 3)) = some (.int .u8 ((g i).1 : Nat)) ∧ w.cell? ⟨(a.add (i * 3)).block, (a.add (i * 3)).off + 1, none⟩ = some (.int .u64 ((g i).2.1 : Nat)) ∧ w.cell? ⟨(a.add (i * 3)).block, (a.add (i * 3)).off + 2, none⟩ = some (.slice A' m c') ∧ (g i).2.2.length = m ∧ m ≤ c' ∧ c' ≤ 9223372036854775807 ∧ Rd w A' (bys (g i).2.2) :=
      ⟨fun i => if hi : i < n then Classical.choose (hall i hi) else (0, 0, []), fun i hi => by
        have := Classical.choose_spec (hall i hi)
        simp only [dif_pos hi]
        exact this⟩
    refine ⟨some a, n, c, (List.range n).map g, rfl, by simp, hlc, by unfold maxLen at hcm; omega, fun i f hi => ?_⟩
    have hin : i < n := by have := (List.getElem?_eq_some_iff.1 hi).1; simpa using this
    have he : f = g i := by
      rw [List.getElem?_map, List.getElem?_range hin] at hi
      simpa using hi.symm
    obtain ⟨A', m', c', h⟩ := hg i hin
    rw [he]
    exact ⟨a, A', m', c', rfl, h⟩
end Go.Proofs.YtaenoonadodbnaaDoor
