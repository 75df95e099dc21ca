/- volume.Do. -/
import Derived.Test.YtjilkaciopiabaaDoorF05b
import Derived.Test.YtjilkaciopiabaaDoorF04b
import Derived.Deep.RegionWith
namespace Go.Proofs.YtjilkaciopiabaaDoor
open Go.RowKit Go.Px
set_option linter.unusedVariables false

/-- The error of a request, its code, its data, the volume behind it. -/
def doE (b z last : Int) (k : Nat) (p n : Int) (d o : Nat) (num : Int) : Int := if serB num = true ∧ ¬ num < last then ftE b z k p n d o else 5
def doK (b z : Nat) (bs : List UInt8) (k : Nat) (p n : Int) (d : Nat) (os : List UInt8) : Nat :=
  if ftC b z k p n d os.length = 1 then (if k = 5 ∧ (segB bs p.toNat 1 z == os) = false then 4 else 1) else (ftC b z k p n d os.length).toNat
def doD (b z : Nat) (bs : List UInt8) (k : Nat) (p n : Int) (d : Nat) (os : List UInt8) : List UInt8 :=
  if ftC b z k p n d os.length = 1 then (if k = 1 then segB bs p.toNat n.toNat z else if k = 5 ∧ (segB bs p.toNat 1 z == os) = false then segB bs p.toNat 1 z else []) else []
/-- Does it change blocks? -/
def doW (b z : Nat) (bs : List UInt8) (k : Nat) (p n : Int) (d : Nat) (os : List UInt8) : Bool :=
  decide (ftC b z k p n d os.length = 1) && (decide (k = 2) || decide (k = 3) || (decide (k = 5) && (segB bs p.toNat 1 z == os)))
def doN (k : Nat) (n : Int) : Nat := if k = 5 then 1 else n.toNat
def doP (z : Nat) (k : Nat) (n : Int) (ds : List UInt8) : List UInt8 := if k = 3 then List.replicate (n.toNat * z) 0 else ds
def doB (b z : Nat) (bs : List UInt8) (k : Nat) (p n : Int) (ds os : List UInt8) : List UInt8 :=
  if doW b z bs k p n ds.length os = true then splB bs (p.toNat * z) (doP z k n ds) else bs
def doV (b z : Nat) (bs : List UInt8) (vs : List Int) (k : Nat) (p n : Int) (ds os : List UInt8) (num : Int) : List Int :=
  if doW b z bs k p n ds.length os = true then stampL vs p.toNat num (doN k n) else vs
/-- All that was there but the volume is as it was. -/
structure Upd (v r s : Nat) (w w' : World) : Prop where
  os : w'.os = w.os
  tape : w'.tape = w.tape
  output : w'.output = w.output
  size : w.heap.size ≤ w'.heap.size
  blk : ∀ k, k < w.heap.size → k ≠ v → k ≠ r → k ≠ s → w'.heap[k]? = w.heap[k]?
section
variable {v r s : Nat} {w w' w'' : World}
theorem Upd.trans (h : Upd v r s w w') (k : Upd v r s w' w'') : Upd v r s w w'' :=
  ⟨k.os.trans h.os, k.tape.trans h.tape, k.output.trans h.output, Nat.le_trans h.size k.size, fun i hi h1 h2 h3 => (k.blk i (Nat.lt_of_lt_of_le hi h.size) h1 h2 h3).trans (h.blk i hi h1 h2 h3)⟩
theorem Upd.of_below (h : Below w.heap.size w w') : Upd v r s w w' := ⟨h.os, h.tape, h.output, h.size, fun k hk _ _ _ => h.block k hk⟩
theorem Upd.setV (w : World) (j : Nat) (u : Value) : Upd v r s w (w.setCell ⟨v, j, none⟩ u) := ⟨rfl, rfl, rfl, by simp, fun k _ h _ _ => heap_setCell_other w ⟨v, j, none⟩ k u h⟩
theorem Upd.set_v (h : Upd v r s w w') (j : Nat) (u : Value) : Upd v r s w (w'.setCell ⟨v, j, none⟩ u) := h.trans (Upd.setV w' j u)
theorem Upd.set_far (h : Upd v r s w w') {g : Nat} (hg : w.heap.size ≤ g) (j : Nat) (u : Value) : Upd v r s w (w'.setCell ⟨g, j, none⟩ u) :=
  ⟨h.os, h.tape, h.output, by simpa using h.size, fun k hk h1 h2 h3 => (heap_setCell_other w' ⟨g, j, none⟩ k u (by show k ≠ g; omega)).trans (h.blk k hk h1 h2 h3)⟩
theorem Upd.below {B : Nat} {W : World} (h : Upd v r s w w') (hb : Below B W w) (hB : B ≤ w.heap.size) (hv : B ≤ v) (hr : B ≤ r) (hs : B ≤ s) : Below B W w' :=
  ⟨h.os.trans hb.os, h.tape.trans hb.tape, h.output.trans hb.output, Nat.le_trans hb.size h.size, fun k hk => (h.blk k (by omega) (by omega) (by omega) (by omega)).trans (hb.block k hk)⟩
end
def DoIs (v r s b z N : Nat) (E : Int) (C : Nat) (data : List UInt8) (bs' : List UInt8) (vs' : List Int) (last : Int) (w : World) (e : Ending) (w' : World) : Prop :=
  ∃ A c, e = .returned (.tuple #[resv C A data.length c, .int .i64 E]) ∧ Rd w' A (bys data) ∧ (∀ a, A = some a → w.heap.size ≤ a.block) ∧ VolIs w' v r s b z N bs' vs' last ∧ Upd v r s w w'
theorem VolIs.setLast {w : World} {v r s b z N : Nat} {bs : List UInt8} {vs : List Int} {last : Int} (h : VolIs w v r s b z N bs vs last) (x : Int) : VolIs (w.setCell ⟨v, 4, none⟩ (.int .i64 x)) v r s b z N bs vs x :=
  { h with blk := h.blk.set 4 (.int .i64 x), row := h.row.apart (Ne.symm h.vr) 4 _, ver := h.ver.apart (Ne.symm h.vs_) 4 _ }
set_option maxHeartbeats 3200000 in
theorem do_badnum (w : World) (v r s b z N : Nat) (bs : List UInt8) (vs : List Int) (last : Int) (k : Nat) (p n : Int) (D : Option Addr) (d dc : Nat) (O : Option Addr) (o oc : Nat) (num : Int) (h : VolIs w v r s b z N bs vs last) (hbad : ¬ (serB num = true ∧ ¬ num < last)) :
    Calls Tryd.prog 11 #[.pointer (some ⟨v, 0, none⟩), opv k p n D d dc O o oc, .int .i64 num] w (DoIs v r s b z N 5 0 [] bs vs last w) := by
  obtain ⟨g, hg⟩ : ∃ g, w.heap.size = g := ⟨_, rfl⟩
  obtain ⟨w0, hw0⟩ : ∃ w0, (w.alloc (.cells #[.int .u8 k, .int .i64 p, .int .i64 n, .slice D d dc, .slice O o oc] 38)).alloc (.cells #[.int .u8 0, .slice none 0 0] 49) = w0 := ⟨_, rfl⟩
  have hZ : Blk w0 (g + 1) [.int .u8 0, .slice none 0 0] 49 := by
    rw [← hw0, ← hg]
    have := Blk.new (w.alloc (.cells #[.int .u8 k, .int .i64 p, .int .i64 n, .slice D d dc, .slice O o oc] 38)) [.int .u8 0, .slice none 0 0] 49
    rwa [World.size_alloc] at this
  have hb0 : Below w.heap.size w w0 := by rw [← hw0]; exact ((Below.refl _ _).alloc (Nat.le_refl _) _).alloc (by simp) _
  have hV0 := h.below hb0
  have x4 := hV0.blk.cell (j := 4) rfl
  have y0 := hZ.cell (j := 0) rfl
  have y1 := hZ.cell (j := 1) rfl
  have f0 := hZ.frozen 0
  have f1 := hZ.frozen 1
  have slt := h.ver.lt
  have vlt := h.blk.lt
  have rlt := h.row.lt
  have fin : DoIs v r s b z N 5 0 [] bs vs last w (.returned (.tuple #[resv 0 none 0 0, .int .i64 5])) ((w0.setCell ⟨g + 1, 0, none⟩ (.int .u8 0)).setCell ⟨g + 1, 1, none⟩ (.slice none 0 0)) :=
    ⟨none, 0, rfl, Rd.nil, (fun a ha => by cases ha), (hV0.far (by omega) (by omega) (by omega) 0 _).far (by omega) (by omega) (by omega) 1 _, Upd.of_below ((hb0.setCell (leBk (by omega)) _).setCell (leBk (by omega)) _)⟩
  have Fin := hide fin
  clear fin
  cases hs : serB num with
  | false =>
    have Hs := hide hs
    clear hs
    go_enter Tryd.func11, Tryd.ntmps11
    go_wp2_with fail
    go_fit (made_any w0 v r s b z N bs vs last hV0)
    rintro x w1 ⟨rfl, rfl⟩
    go_wp2_with fail
    go_fit (serial_any num w0)
    rw [Hs.out]
    rintro x w1 ⟨rfl, rfl⟩
    go_wp2
    refine bodyPost_ret (results_cell2 rfl rfl ((hZ.set 0 (.int .u8 0)).set 1 (.slice none 0 0)) Tryd.underlying49 rfl (by kernel_rfl)) rfl ?_
    exact Fin.out
  | true =>
    have hl : num < last := by
      rw [hs] at hbad
      exact Classical.not_not.1 (fun hh => hbad ⟨rfl, hh⟩)
    have Hs := hide hs
    clear hs hbad
    go_enter Tryd.func11, Tryd.ntmps11
    go_wp2_with fail
    go_fit (made_any w0 v r s b z N bs vs last hV0)
    rintro x w1 ⟨rfl, rfl⟩
    go_wp2_with fail
    go_fit (serial_any num w0)
    rw [Hs.out]
    rintro x w1 ⟨rfl, rfl⟩
    go_wp2
    refine bodyPost_ret (results_cell2 rfl rfl ((hZ.set 0 (.int .u8 0)).set 1 (.slice none 0 0)) Tryd.underlying49 rfl (by kernel_rfl)) rfl ?_
    exact Fin.out
end Go.Proofs.YtjilkaciopiabaaDoor
