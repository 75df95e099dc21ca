/- A region that draws its order, walked once, over a class of worlds (those that keep what lay in one): each operation yields one value in every world of the class. -/
import Derived.Test.YthejdacemcldgaaLib
import Derived.Deep.Quiet
import Derived.Deep.QuietTactic
import Derived.BigQuiet
namespace Go.Px
set_option maxRecDepth 20000
open Go.RowKit
/-- A world of a class. -/
structure InC (C : World → Prop) where
  W : World
  h : C W
instance inC_below (w : World) : Nonempty (InC fun W => Below w.heap.size w W) := ⟨⟨w, Below.refl _ _⟩⟩
theorem wp_region_in {P : Program} {id : Nat} {Q : Exit → Act → World → Prop} {a : Act} {w : World} {l : List Oper} (C : World → Prop) (hC : C w.drew) (hm : P.follows .mixedOrders = true) (hB : Region.lexB .any l.toArray = true)
    (h : wpQuiet P l.toArray (fun w' => ∃ x : InC C, w' = x.W) (fun a' => ∀ w', (∃ x : InC C, w' = x.W) → Q .normal a' w') l a) : (Code.region id l.toArray true).wp P Q a w :=
  wp_region_quiet (C := fun w' => ∃ x : InC C, w' = x.W) hm hB ⟨⟨_, hC⟩, rfl⟩ (by simpa using h)
theorem Calls.in_of {P : Program} {f : FuncId} {args : Array Value} {C : World → Prop} {x : InC C} {v : Value} (h : Calls P f args x.W fun e w' => e = .returned v ∧ C w') : Calls P f args x.W fun e w' => e = .returned v ∧ ∃ y : InC C, w' = y.W :=
  h.mono fun _ w' ⟨he, hb⟩ => ⟨he, ⟨⟨w', hb⟩, rfl⟩⟩
theorem Calls.in_same {P : Program} {f : FuncId} {args : Array Value} {C : World → Prop} {x : InC C} {v : Value} (h : Calls P f args x.W fun e w' => e = .returned v ∧ x.W = w') : Calls P f args x.W fun e w' => e = .returned v ∧ ∃ y : InC C, w' = y.W :=
  h.mono fun _ _ ⟨he, hb⟩ => ⟨he, x, hb.symm⟩
theorem Calls.in_below {P : Program} {f : FuncId} {args : Array Value} {w : World} {x : InC (fun W => Below w.heap.size w W)} {v : Value} (h : Calls P f args x.W fun e w' => e = .returned v ∧ Below x.W.heap.size x.W w') : Calls P f args x.W fun e w' => e = .returned v ∧ ∃ y : InC (fun W => Below w.heap.size w W), w' = y.W :=
  h.mono fun _ w' ⟨he, hb⟩ => ⟨he, ⟨w', x.h.trans (hb.mono x.h.size)⟩, rfl⟩
theorem below_cell {w w' : World} (hb : Below w.heap.size w w') {a : Addr} {u : Value} (h : w.cell? a = some u) : w'.cell? a = some u := (hb.cell (p := a) (World.block_lt_of_cell? w _ h)).trans h
end Go.Px
