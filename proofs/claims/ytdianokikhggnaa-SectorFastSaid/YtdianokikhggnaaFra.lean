/- What a call leaves: memory but for some blocks. -/
import Derived.Test.YtdianokikhggnaaTys
namespace Go.Px
set_option maxRecDepth 20000
open Go.RowKit
set_option linter.unusedVariables false
/-- w' is w, with new blocks, and with other things in the blocks of X. -/
structure Fr (X : Nat → Prop) (w w' : World) : Prop where
  os : w'.os = w.os
  tape : w'.tape = w.tape
  output : w'.output = w.output
  size : w.heap.size ≤ w'.heap.size
  blk : ∀ k, k < w.heap.size → ¬ X k → w'.heap[k]? = w.heap[k]?
section
variable {X Y : Nat → Prop} {w w' w'' : World} {A : Option Addr} {xs : List Value}
theorem Fr.refl (X : Nat → Prop) (w : World) : Fr X w w := ⟨rfl, rfl, rfl, Nat.le_refl _, fun _ _ _ => rfl⟩
theorem Fr.trans (h : Fr X w w') (k : Fr X w' w'') : Fr X w w'' :=
  ⟨k.os.trans h.os, k.tape.trans h.tape, k.output.trans h.output, Nat.le_trans h.size k.size, fun i hi hx => (k.blk i (Nat.lt_of_lt_of_le hi h.size) hx).trans (h.blk i hi hx)⟩
/-- The second may write into blocks that are new to the first, besides. -/
theorem Fr.trans' (h : Fr X w w') (k : Fr Y w' w'') (hY : ∀ b, Y b → X b ∨ w.heap.size ≤ b) : Fr X w w'' :=
  ⟨k.os.trans h.os, k.tape.trans h.tape, k.output.trans h.output, Nat.le_trans h.size k.size, fun i hi hx => (k.blk i (Nat.lt_of_lt_of_le hi h.size) (fun hy => by rcases hY i hy with h | h; exact hx h; omega)).trans (h.blk i hi hx)⟩
theorem Fr.mono (h : Fr X w w') (hX : ∀ b, X b → Y b) : Fr Y w w' := ⟨h.os, h.tape, h.output, h.size, fun i hi hy => h.blk i hi (fun hx => hy (hX i hx))⟩
theorem Fr.mono' (h : Fr X w w') (hX : ∀ b, X b → Y b ∨ w.heap.size ≤ b) : Fr Y w w' := ⟨h.os, h.tape, h.output, h.size, fun i hi hy => h.blk i hi (fun hx => by rcases hX i hx with h | h; exact hy h; omega)⟩
theorem Fr.of_below (h : Below w.heap.size w w') : Fr X w w' := ⟨h.os, h.tape, h.output, h.size, fun k hk _ => h.block k hk⟩
theorem Fr.of_grown {r : Option Nat} (h : w.grownBy w' r) (hr : ∀ k, r = some k → X k) : Fr X w w' := ⟨h.os, h.tape, h.output, h.size, fun k hk hx => h.block k hk (fun e => hx (hr k e.symm))⟩
theorem Fr.set (w : World) (a : Addr) (u : Value) (ha : X a.block) : Fr X w (w.setCell a u) := ⟨rfl, rfl, rfl, by simp, fun k _ hx => Below.heap_setCell w a u k (fun e => hx (by rw [e]; exact ha))⟩
theorem Fr.drew (h : Fr X w w') : Fr X w w'.drew := ⟨h.os, h.tape, h.output, h.size, h.blk⟩
theorem Fr.below {B : Nat} {a : World} (h : Fr X w w') (hb : Below B a w) (hB : B ≤ w.heap.size) (hX : ∀ k, X k → B ≤ k) : Below B a w' :=
  hb.trans ⟨h.os, h.tape, h.output, by have := h.size; omega, fun i hi => h.blk i (by omega) (fun hx => by have := hX i hx; omega)⟩
theorem Fr.lo {B : Nat} (h : Fr X w w') (hB : B ≤ w.heap.size) (hX : ∀ k, X k → B ≤ k) : Below B w w' := h.below (Below.refl _ _) hB hX
theorem Fr.cell (h : Fr X w w') {a : Addr} {u : Value} (hc : w.cell? a = some u) (hx : ¬ X a.block) : w'.cell? a = some u := by
  have hl := World.block_lt_of_cell? w a hc
  unfold World.cell? at *
  rw [h.blk _ hl hx]; exact hc
theorem Blk.fr {g : Nat} {vs : List Value} {T : TypeId} (hB : Blk w g vs T) (h : Fr X w w') (hx : ¬ X g) : Blk w' g vs T := (h.blk g hB.lt hx).trans hB
theorem Rd.fr (hr : Rd w A xs) (h : Fr X w w') (hx : xs ≠ [] → ∀ a, A = some a → ¬ X a.block) : Rd w' A xs := fun j u hu => by
  obtain ⟨a, rfl, hc⟩ := hr j u hu
  exact ⟨a, rfl, h.cell hc (by rw [add_block]; exact hx (fun e => by rw [e] at hu; simp at hu) a rfl)⟩
theorem Ty.Is.fr {Q : Nat → Prop} {t : Ty} {x : t.Den} {cs : List Value} (h : t.Is w Q x cs) (hf : Fr X w w') (hx : ∀ b, Q b → ¬ X b) : t.Is w' Q x cs :=
  Ty.Is.keep (fun A xs hr hq => hr.fr hf (fun hne a ha => hx _ (hq hne a ha))) (fun _ h => h) t x cs h
theorem Ty.Rows.fr {Q : Nat → Prop} {t : Ty} {xs : List t.Den} {cs : List Value} (h : t.Rows w Q xs cs) (hf : Fr X w w') (hx : ∀ b, Q b → ¬ X b) : t.Rows w' Q xs cs := ⟨h.1, fun j x hj => (h.2 j x hj).fr hf hx⟩
end
end Go.Px
