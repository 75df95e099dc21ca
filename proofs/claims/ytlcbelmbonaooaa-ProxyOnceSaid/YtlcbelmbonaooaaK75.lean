/- Texts joined (shake.py). -/
import Derived.Deep.QuietTactic
import Derived.BigQuiet
import Derived.WalkSpells
import Derived.Outline
import Derived.Deep.DeepFit
import Derived.Deep.RegionWith
import Derived.Test.YtlcbelmbonaooaaK72
import Derived.Test.YtlcbelmbonaooaaK74
namespace Go.Proofs.Ytlcbelmbonaooaa
set_option maxRecDepth 20000
open Go.RowKit Go.Px
set_option linter.unusedVariables false

section
variable {w w' : World} {v r s b z N : Nat} {bs : List UInt8} {vs : List Int} {last : Int}
end
@[go_sem] theorem neqnil_bytes (w : World) (A : Option Addr) (n c n' c' : Nat) : (binOp .neq 26 (.slice A n c) (.slice none n' c')).run Try.prog w = .ok (.bool (!A.isNone)) w := run_neq_slice_nil_any w _ _ A n c n' c' Try.underlying26
def stampL (vs : List Int) (i : Nat) (num : Int) : Nat → List Int
  | 0 => vs
  | k + 1 => (stampL vs i num k).set (i + k) num
theorem stampL_length (vs : List Int) (i : Nat) (num : Int) : ∀ k, (stampL vs i num k).length = vs.length
  | 0 => rfl
  | k + 1 => by simp [stampL, stampL_length vs i num k]
end Go.Proofs.Ytlcbelmbonaooaa
namespace Go.Proofs.Ytlcbelmbonaooaa
set_option maxRecDepth 20000
open Go.RowKit Go.Px
set_option linter.unusedVariables false
def segB (bs : List UInt8) (p n z : Nat) : List UInt8 := (bs.drop (p * z)).take (n * z)
def splB (bs : List UInt8) (off : Nat) (xs : List UInt8) : List UInt8 := bs.take off ++ xs ++ bs.drop (off + xs.length)
theorem splB_length {bs xs : List UInt8} {off : Nat} (h : off + xs.length ≤ bs.length) : (splB bs off xs).length = bs.length := by
  unfold splB; simp only [List.length_append, List.length_take, List.length_drop]; omega
end Go.Proofs.Ytlcbelmbonaooaa
namespace Go.Proofs.Ytlcbelmbonaooaa
set_option maxRecDepth 20000
open Go.RowKit Go.Px
set_option linter.unusedVariables false

/-- The error of a request, its code, its data, the volume behind it. -/
def doE (b z last : Int) (k : Nat) (p n : Int) (d o : Nat) (num : Int) : Int := if serB num = true ∧ ¬ num < last then ftE b z k p n d o else 5
def doK (b z : Nat) (bs : List UInt8) (k : Nat) (p n : Int) (d : Nat) (os : List UInt8) : Nat :=
  if ftC b z k p n d os.length = 1 then (if k = 5 ∧ (segB bs p.toNat 1 z == os) = false then 4 else 1) else (ftC b z k p n d os.length).toNat
def doD (b z : Nat) (bs : List UInt8) (k : Nat) (p n : Int) (d : Nat) (os : List UInt8) : List UInt8 :=
  if ftC b z k p n d os.length = 1 then (if k = 1 then segB bs p.toNat n.toNat z else if k = 5 ∧ (segB bs p.toNat 1 z == os) = false then segB bs p.toNat 1 z else []) else []
/-- Does it change blocks? -/
def doW (b z : Nat) (bs : List UInt8) (k : Nat) (p n : Int) (d : Nat) (os : List UInt8) : Bool :=
  decide (ftC b z k p n d os.length = 1) && (decide (k = 2) || decide (k = 3) || (decide (k = 5) && (segB bs p.toNat 1 z == os)))
def doN (k : Nat) (n : Int) : Nat := if k = 5 then 1 else n.toNat
def doP (z : Nat) (k : Nat) (n : Int) (ds : List UInt8) : List UInt8 := if k = 3 then List.replicate (n.toNat * z) 0 else ds
def doB (b z : Nat) (bs : List UInt8) (k : Nat) (p n : Int) (ds os : List UInt8) : List UInt8 :=
  if doW b z bs k p n ds.length os = true then splB bs (p.toNat * z) (doP z k n ds) else bs
def doV (b z : Nat) (bs : List UInt8) (vs : List Int) (k : Nat) (p n : Int) (ds os : List UInt8) (num : Int) : List Int :=
  if doW b z bs k p n ds.length os = true then stampL vs p.toNat num (doN k n) else vs
/-- All that was there but the volume is as it was. -/
structure Upd (v r s : Nat) (w w' : World) : Prop where
  os : w'.os = w.os
  tape : w'.tape = w.tape
  output : w'.output = w.output
  size : w.heap.size ≤ w'.heap.size
  blk : ∀ k, k < w.heap.size → k ≠ v → k ≠ r → k ≠ s → w'.heap[k]? = w.heap[k]?
section
variable {v r s : Nat} {w w' w'' : World}
theorem Upd.trans (h : Upd v r s w w') (k : Upd v r s w' w'') : Upd v r s w w'' :=
  ⟨k.os.trans h.os, k.tape.trans h.tape, k.output.trans h.output, Nat.le_trans h.size k.size, fun i hi h1 h2 h3 => (k.blk i (Nat.lt_of_lt_of_le hi h.size) h1 h2 h3).trans (h.blk i hi h1 h2 h3)⟩
theorem Upd.of_below (h : Below w.heap.size w w') : Upd v r s w w' := ⟨h.os, h.tape, h.output, h.size, fun k hk _ _ _ => h.block k hk⟩
theorem Upd.below {B : Nat} {W : World} (h : Upd v r s w w') (hb : Below B W w) (hB : B ≤ w.heap.size) (hv : B ≤ v) (hr : B ≤ r) (hs : B ≤ s) : Below B W w' :=
  ⟨h.os.trans hb.os, h.tape.trans hb.tape, h.output.trans hb.output, Nat.le_trans hb.size h.size, fun k hk => (h.blk k (by omega) (by omega) (by omega) (by omega)).trans (hb.block k hk)⟩
end
end Go.Proofs.Ytlcbelmbonaooaa
namespace Go.Proofs.Ytlcbelmbonaooaa
set_option maxRecDepth 20000
open Go.RowKit Go.Px
set_option linter.unusedVariables false

theorem fit_good {b z : Nat} {k : Nat} {p n : Int} {d o : Nat} (hE : ftE b z k p n d o = 0) (hC : ftC b z k p n d o = 1) :
    0 ≤ p ∧ 0 ≤ n ∧ (k = 4 ∨ (k = 5 ∧ p < b ∧ d = z ∧ o = z) ∨ ((k = 1 ∨ k = 2 ∨ k = 3) ∧ 1 ≤ n ∧ n ≤ 64 ∧ p + n ≤ b ∧ (k = 2 → (d : Int) = n * z))) := by
  have hE' := hE
  unfold ftE at hE
  split at hE
  · rename_i h; exact absurd hE h
  · rcases fmE_two k p n d o with ⟨hp, _⟩ | hp
    · obtain ⟨⟨⟨p1, _⟩, ⟨n1, _⟩, _, _⟩, hk⟩ := hp
      refine ⟨p1, n1, ?_⟩
      unfold ftC at hC
      rw [hE', if_neg (by decide)] at hC
      by_cases h4 : k = 4
      · exact .inl h4
      · rw [if_neg h4] at hC
        by_cases h5 : k = 5
        · rw [if_pos h5] at hC
          split at hC
          · cases hC
          · split at hC
            · cases hC
            · exact .inr (.inl ⟨h5, by omega, by omega, by omega⟩)
        · rw [if_neg h5] at hC
          split at hC
          · cases hC
          · split at hC
            · cases hC
            · rename_i h6 h7
              refine .inr (.inr ⟨by omega, by omega, by omega, by omega, fun h2 => ?_⟩)
              exact Classical.not_not.1 fun hh => h7 ⟨h2, hh⟩
    · rw [hp] at hE; cases hE
section
variable (b z : Nat) (bs : List UInt8) (vs : List Int) (last : Int) (k : Nat) (p n : Int) (ds os : List UInt8) (num : Int)
def doKE : Nat := if doE b z last k p n ds.length os.length num = 0 then doK b z bs k p n ds.length os else 0
def doDE : List UInt8 := if doE b z last k p n ds.length os.length num = 0 then doD b z bs k p n ds.length os else []
def doBE : List UInt8 := if doE b z last k p n ds.length os.length num = 0 then doB b z bs k p n ds os else bs
def doVE : List Int := if doE b z last k p n ds.length os.length num = 0 then doV b z bs vs k p n ds os num else vs
def doLE : Int := if doE b z last k p n ds.length os.length num = 0 then num else last
end
end Go.Proofs.Ytlcbelmbonaooaa
