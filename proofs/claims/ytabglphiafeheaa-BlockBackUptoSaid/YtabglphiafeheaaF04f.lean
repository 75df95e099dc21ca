/- reader.op, where all is well. -/
import Derived.Test.YtabglphiafeheaaF04e
namespace Go.Proofs.Ytabglphiafeheaa
open Go.RowKit Go.Px
set_option linter.unusedVariables false

structure DecOk (bs : List UInt8) (k p n : Nat) (ds : List UInt8) (t1 : Int) (os : List UInt8) (t2 : Int) : Prop where
  e0 : getE bs 0 1 = 0
  v0 : getV bs 0 1 = k
  i0 : getI bs 0 1 = 1
  e1 : getE bs 1 4 = 0
  v1 : getV bs 1 4 = p
  i1 : getI bs 1 4 = 5
  e2 : getE bs 5 4 = 0
  v2 : getV bs 5 4 = n
  i2 : getI bs 5 4 = 9
  e3 : textE bs 9 = 0
  s3 : textS bs 9 = ds
  i3 : textI bs 9 = t1
  e4 : textE bs t1 = 0
  s4 : textS bs t1 = os
  i4 : textI bs t1 = t2
  hk : k < 256
  hp : p ≤ 4294967295
  hn : n ≤ 4294967295
  t0 : 0 ≤ t1 ∧ t1 ≤ 140737488355328
  f : fmE k p n ds.length os.length = 0
/-- A piece of memory from block B on. -/
def Up (B : Nat) (A : Option Addr) : Prop := ∀ a, A = some a → B ≤ a.block
def OpIs (b : Nat) (T : TypeId) (A : Option Addr) (m c : Nat) (k p n : Nat) (ds os : List UInt8) (t2 : Int) (B : Nat) (w : World) (e : Ending) (w' : World) : Prop :=
  ∃ D dc O oc, e = .returned (opv k p n D ds.length dc O os.length oc) ∧ Rd w' D (bys ds) ∧ Rd w' O (bys os) ∧ Up B D ∧ Up B O ∧ Blk w' b [.slice A m c, .int .i64 t2] T ∧ Below B w w'

/-- What a step on the block b leaves of all else. -/
structure Keep (b : Nat) (w w' : World) : Prop where
  blk : ∀ g vs T, g ≠ b → Blk w g vs T → Blk w' g vs T
  below : ∀ B W, B ≤ b → B ≤ w.heap.size → Below B W w → Below B W w'
  own : ∀ base e n v xs, b < base → w.ownsRow base e 1 v n xs → w'.ownsRow base e 1 v n xs
  size : w.heap.size ≤ w'.heap.size
theorem Keep.step {b : Nat} {w W : World} (hbl : b < w.heap.size) (h : Below w.heap.size w W) (u : Value) : Keep b w (W.setCell ⟨b, 1, none⟩ u) where
  blk g vs T hg hB := (hB.below h).apart hg 1 u
  below B W0 hB hs hW := (hW.trans (h.mono hs)).setCell hB _
  own base e n v xs hb ho := ownsRow_setCell_below (own_below ho (by exact h)) (show (⟨b, 1, none⟩ : Addr).block < base from hb) _
  size := by simpa using h.size
section
variable (b : Nat) (T : TypeId) (A : Option Addr) (m c : Nat) (bs : List UInt8) (at_ n : Int) (v : Nat) (i : Int) (w : World) (hB : Blk w b [.slice A m c, .int .i64 at_] T) (hm : bs.length = m) (hmc : m ≤ c) (hc : c ≤ 9223372036854775807) (hr : Rd w A (bys bs))
    (ha : -9223372036854775808 ≤ at_) (ha2 : at_ ≤ 9223372036854775807)
include hB hm hmc hc hr ha ha2
theorem lnumK (hE : getE bs at_ n = 0) (hV : getV bs at_ n = v) (hI : getI bs at_ n = i) :
    Calls Try.prog 51 #[.pointer (some ⟨b, 0, none⟩), .int .i64 n] w fun e w' => e = .returned (.int .u64 v) ∧ Blk w' b [.slice A m c, .int .i64 i] T ∧ Keep b w w' := by
  refine (lnum_any b T A m c bs at_ n v i w hB hm hmc hc hr ha ha2 hE hV hI).mono ?_
  rintro e w' ⟨q, rfl, rfl⟩
  exact ⟨rfl, Blk.set (w := w.drewN q) hB 1 (.int .i64 i), Keep.step hB.lt (below_drewN (Below.refl _ _) q) _⟩
theorem lintK (hE : getE bs at_ n = 0) (hV : getV bs at_ n = v) (hI : getI bs at_ n = i) (hv : v ≤ 9223372036854775807) :
    Calls Try.prog 52 #[.pointer (some ⟨b, 0, none⟩), .int .i64 n] w fun e w' => e = .returned (.int .i64 v) ∧ Blk w' b [.slice A m c, .int .i64 i] T ∧ Keep b w w' := by
  refine (lint_any b T A m c bs at_ n v i w hB hm hmc hc hr ha ha2 hE hV hI hv).mono ?_
  rintro e w' ⟨q, rfl, rfl⟩
  exact ⟨rfl, Blk.set (w := w.drewN q) hB 1 (.int .i64 i), Keep.step hB.lt (below_drewN (Below.refl _ _) q) _⟩
theorem ltextK (hm8 : m ≤ 140737488355328) (s : List UInt8) (hE : textE bs at_ = 0) (hS : textS bs at_ = s) (hI : textI bs at_ = i) :
    Calls Try.prog 53 #[.pointer (some ⟨b, 0, none⟩)] w fun e w' => ∃ D dc, e = .returned (.slice D s.length dc) ∧ w'.ownsRow w.heap.size 5 1 (.slice D s.length dc) s.length (bys s) ∧ Blk w' b [.slice A m c, .int .i64 i] T ∧ Keep b w w' := by
  refine (ltext_any b T A m c bs at_ s i w hB hm hmc hm8 hc hr ha ha2 hE hS hI).mono ?_
  rintro e w' ⟨D, dc, W, rfl, ho, hb, rfl⟩
  exact ⟨D, dc, rfl, ownsRow_setCell_below ho (show (⟨b, 1, none⟩ : Addr).block < w.heap.size from hB.lt) _, (hB.below hb).set 1 (.int .i64 i), Keep.step hB.lt hb _⟩
end

/-- A row's readings, and where its block lies. -/
structure Put (w : World) (A : Option Addr) (xs : List Value) (lo hi : Nat) : Prop where
  rd : Rd w A xs
  at_ : ∀ a, A = some a → lo ≤ a.block ∧ a.block < hi
theorem Put.of {w : World} {base e n c : Nat} {A : Option Addr} {xs : List Value} (h : w.ownsRow base e 1 (.slice A n c) n xs) : Put w A xs base w.heap.size := by
  obtain ⟨A', c', hv, _, _, _, h1, h2⟩ := own_out h
  cases hv
  exact ⟨h1, h2⟩
theorem Put.on {w w' : World} {A : Option Addr} {xs : List Value} {lo hi lo' hi' : Nat} (h : Put w A xs lo hi) (h' : Put w' A xs lo' hi') : Put w' A xs lo hi := ⟨h'.rd, h.at_⟩
theorem Put.below {w w' : World} {A : Option Addr} {xs : List Value} {lo hi : Nat} (h : Put w A xs lo hi) (hb : Below w.heap.size w w') : Put w' A xs lo hi := ⟨h.rd.below hb, h.at_⟩
theorem Put.alloc {w : World} {A : Option Addr} {xs : List Value} {lo hi : Nat} (h : Put w A xs lo hi) (o : Obj) : Put (w.alloc o) A xs lo hi := ⟨h.rd.alloc o, h.at_⟩
theorem Put.set {w : World} {A : Option Addr} {xs : List Value} {lo hi : Nat} (h : Put w A xs lo hi) {g : Nat} (hg : g < lo ∨ hi ≤ g) (j : Nat) (u : Value) : Put (w.setCell ⟨g, j, none⟩ u) A xs lo hi :=
  ⟨fun k v hk => by
    obtain ⟨a, rfl, hc⟩ := h.rd k v hk
    have := h.at_ a rfl
    refine ⟨a, rfl, ?_⟩
    rw [World.cell?_setCell_far w ⟨g, j, none⟩ _ u (by rw [add_block]; show g ≠ a.block; omega)]
    exact hc, h.at_⟩
theorem szA (w : World) (o : Obj) : (w.alloc o).heap.size = w.heap.size + 1 := by simp
theorem szD (w : World) : w.drew.heap.size = w.heap.size := rfl

theorem le_blk {B g j : Nat} (h : B ≤ g) : B ≤ (⟨g, j, none⟩ : Addr).block := h
theorem Put.setRow {w : World} {A : Option Addr} {xs : List Value} {lo hi : Nat} (h : Put w A xs lo hi) {g : Nat} (hg : g < lo ∨ hi ≤ g) (us : List Value) : Put (w.setRow g us.toArray) A xs lo hi :=
  ⟨fun k v hk => by
    obtain ⟨a, rfl, hc⟩ := h.rd k v hk
    have := h.at_ a rfl
    refine ⟨a, rfl, ?_⟩
    rw [← hc]
    have hb : (a.add k).block = a.block := add_block a k
    unfold World.cell?
    rw [heap_setRow_other w g (a.add k).block us.toArray (by rw [hb]; omega)], h.at_⟩
theorem op_one (k : Nat) (p n : Int) (D : Option Addr) (d dc : Nat) (O : Option Addr) (o oc : Nat) : ∀ u ∈ ([.int .u8 k, .int .i64 p, .int .i64 n, .slice D d dc, .slice O o oc] : List Value), u.oneCell' = true := by
  intro u hu; simp at hu; rcases hu with rfl | rfl | rfl | rfl | rfl <;> rfl

set_option maxHeartbeats 25600000 in
theorem op_any (b : Nat) (T : TypeId) (A : Option Addr) (m c : Nat) (bs : List UInt8) (k p n : Nat) (ds : List UInt8) (t1 : Int) (os : List UInt8) (t2 : Int) (B : Nat) (w : World) (hB : Blk w b [.slice A m c, .int .i64 0] T) (hm : bs.length = m) (hmc : m ≤ c) (hm8 : m ≤ 140737488355328) (hc : c ≤ 9223372036854775807) (hr : Rd w A (bys bs))
    (hlo : Lo B A) (hBb : B ≤ b) (ok : DecOk bs k p n ds t1 os t2) :
    Calls Try.prog 40 #[.pointer (some ⟨b, 0, none⟩)] w (OpIs b T A m c k p n ds os t2 B w) := by
  have hbl := hB.lt
  have hb0 : Below B w (w.alloc (.cells #[.int .u8 0, .int .i64 0, .int .i64 0, .slice none 0 0, .slice none 0 0] 27)) := (Below.refl _ _).alloc (by omega) _
  have hR : Blk (w.alloc (.cells #[.int .u8 0, .int .i64 0, .int .i64 0, .slice none 0 0, .slice none 0 0] 27)) w.heap.size [.int .u8 0, .int .i64 0, .int .i64 0, .slice none 0 0, .slice none 0 0] 27 := Blk.new w [.int .u8 0, .int .i64 0, .int .i64 0, .slice none 0 0, .slice none 0 0] _
  have hBa := hB.alloc (.cells #[.int .u8 0, .int .i64 0, .int .i64 0, .slice none 0 0, .slice none 0 0] 27)
  obtain ⟨gr, hgr⟩ : ∃ g, w.heap.size = g := ⟨_, rfl⟩
  obtain ⟨w0, hw0⟩ : ∃ w0, w.alloc (.cells #[.int .u8 0, .int .i64 0, .int .i64 0, .slice none 0 0, .slice none 0 0] 27) = w0 := ⟨_, rfl⟩
  rw [hw0] at hb0 hR hBa
  rw [hgr] at hR
  have hgb : b < gr := by omega
  have Hm := hide hm
  have Ok := hide ok
  have hkv := ok.hk
  have hpv := ok.hp
  have hnv := ok.hn
  have ht0 := ok.t0
  have hB0 : Blk w0.drew b [.slice A m c, .int .i64 0] T := hBa
  have hR0 : Blk w0.drew gr [.int .u8 0, .int .i64 0, .int .i64 0, .slice none 0 0, .slice none 0 0] 27 := hR
  have hbw0 : Below B w w0.drew := hb0.drew
  have hB0x : Blk (w0.alloc (.cells #[.int .u8 0, .int .i64 0, .int .i64 0, .slice none 0 0, .slice none 0 0] 27)).drew b [.slice A m c, .int .i64 0] T := (hBa.alloc _).drew
  have hR0x : Blk (w0.alloc (.cells #[.int .u8 0, .int .i64 0, .int .i64 0, .slice none 0 0, .slice none 0 0] 27)).drew gr [.int .u8 0, .int .i64 0, .int .i64 0, .slice none 0 0, .slice none 0 0] 27 := (hR.alloc _).drew
  have hbw0x : Below B w (w0.alloc (.cells #[.int .u8 0, .int .i64 0, .int .i64 0, .slice none 0 0, .slice none 0 0] 27)).drew := (hb0.alloc (by have := hBa.lt; omega) _).drew
  have hX0n : Blk (w0.alloc (.cells #[.int .u8 0, .int .i64 0, .int .i64 0, .slice none 0 0, .slice none 0 0] 27)).drew w0.heap.size [.int .u8 0, .int .i64 0, .int .i64 0, .slice none 0 0, .slice none 0 0] 27 := (Blk.new w0 [.int .u8 0, .int .i64 0, .int .i64 0, .slice none 0 0, .slice none 0 0] _).drew
  have hne0 : w0.heap.size ≠ b := by have := hBa.lt; omega
  have hkw : IntKind.u8.wrap (k : Int) = (k : Int) := by rw [IntKind.wrap_u8]; omega
  clear hm ok
  go_enter Try.func40, Try.ntmps40
  go_wp2
  go_region_with (first
    | (go_at_call 51; (with_reducible refine (lnumK b T A m c bs 0 1 k 1 _ (by first | exact hB0 | exact hB0x) Hm.out hmc hc (hr.lo hlo (by first | exact hbw0 | exact hbw0x)) (by omega) (by omega) Ok.out.e0 Ok.out.v0 Ok.out.i0).mono ?_); rintro x w1 ⟨rfl, hB1, hK1⟩; have hR1 := hK1.blk gr _ _ (by omega) (by first | exact hR0 | exact hR0x); have hsz1 : b < w1.heap.size := hB1.lt; have hbw1 : Below B w w1 := hK1.below B w hBb (Nat.le_trans hBb (Nat.le_of_lt (Blk.lt (by first | exact hB0 | exact hB0x)))) (by first | exact hbw0 | exact hbw0x); (first | (have hY := hK1.blk _ _ _ hne0 hX0n; have hYn := hne0) | (have hY := hK1.blk _ _ _ hYn hY) | skip); have hne1 : w1.heap.size ≠ b := (by omega); have hB1x := hB1.alloc (.cells #[.int .u8 0, .int .i64 0, .int .i64 0, .slice none 0 0, .slice none 0 0] 27); have hR1x := hR1.alloc (.cells #[.int .u8 0, .int .i64 0, .int .i64 0, .slice none 0 0, .slice none 0 0] 27); have hbw1x := hbw1.alloc (by omega) (.cells #[.int .u8 0, .int .i64 0, .int .i64 0, .slice none 0 0, .slice none 0 0] 27); have hX1n := Blk.new w1 [.int .u8 0, .int .i64 0, .int .i64 0, .slice none 0 0, .slice none 0 0] 27)
    | (go_at_call 52; (with_reducible refine (lintK b T A m c bs 1 4 p 5 _ (by first | exact hB1 | exact hB1x) Hm.out hmc hc (hr.lo hlo (by first | exact hbw1 | exact hbw1x)) (by omega) (by omega) Ok.out.e1 Ok.out.v1 Ok.out.i1 (by omega)).mono ?_); rintro x w2 ⟨rfl, hB2, hK2⟩; have hR2 := hK2.blk gr _ _ (by omega) (by first | exact hR1 | exact hR1x); have hsz2 : b < w2.heap.size := hB2.lt; have hbw2 : Below B w w2 := hK2.below B w hBb (Nat.le_trans hBb (Nat.le_of_lt (Blk.lt (by first | exact hB1 | exact hB1x)))) (by first | exact hbw1 | exact hbw1x); (first | (have hY := hK2.blk _ _ _ hne1 hX1n; have hYn := hne1) | (have hY := hK2.blk _ _ _ hYn hY) | skip); have hne2 : w2.heap.size ≠ b := (by omega); have hB2x := hB2.alloc (.cells #[.int .u8 0, .int .i64 0, .int .i64 0, .slice none 0 0, .slice none 0 0] 27); have hR2x := hR2.alloc (.cells #[.int .u8 0, .int .i64 0, .int .i64 0, .slice none 0 0, .slice none 0 0] 27); have hbw2x := hbw2.alloc (by omega) (.cells #[.int .u8 0, .int .i64 0, .int .i64 0, .slice none 0 0, .slice none 0 0] 27); have hX2n := Blk.new w2 [.int .u8 0, .int .i64 0, .int .i64 0, .slice none 0 0, .slice none 0 0] 27)
    | (go_at_call 52; (with_reducible refine (lintK b T A m c bs 5 4 n 9 _ (by first | exact hB2 | exact hB2x) Hm.out hmc hc (hr.lo hlo (by first | exact hbw2 | exact hbw2x)) (by omega) (by omega) Ok.out.e2 Ok.out.v2 Ok.out.i2 (by omega)).mono ?_); rintro x w3 ⟨rfl, hB3, hK3⟩; have hR3 := hK3.blk gr _ _ (by omega) (by first | exact hR2 | exact hR2x); have hsz3 : b < w3.heap.size := hB3.lt; have hbw3 : Below B w w3 := hK3.below B w hBb (Nat.le_trans hBb (Nat.le_of_lt (Blk.lt (by first | exact hB2 | exact hB2x)))) (by first | exact hbw2 | exact hbw2x); (first | (have hY := hK3.blk _ _ _ hne2 hX2n; have hYn := hne2) | (have hY := hK3.blk _ _ _ hYn hY) | skip); have hne3 : w3.heap.size ≠ b := (by omega); have hB3x := hB3.alloc (.cells #[.int .u8 0, .int .i64 0, .int .i64 0, .slice none 0 0, .slice none 0 0] 27); have hR3x := hR3.alloc (.cells #[.int .u8 0, .int .i64 0, .int .i64 0, .slice none 0 0, .slice none 0 0] 27); have hbw3x := hbw3.alloc (by omega) (.cells #[.int .u8 0, .int .i64 0, .int .i64 0, .slice none 0 0, .slice none 0 0] 27); have hX3n := Blk.new w3 [.int .u8 0, .int .i64 0, .int .i64 0, .slice none 0 0, .slice none 0 0] 27)
    | (go_at_call 53; (with_reducible refine (ltextK b T A m c bs 9 t1 _ (by first | exact hB3 | exact hB3x) Hm.out hmc hc (hr.lo hlo (by first | exact hbw3 | exact hbw3x)) (by omega) (by omega) hm8 ds Ok.out.e3 Ok.out.s3 Ok.out.i3).mono ?_); rintro x w4 ⟨D, dc, rfl, hD4, hB4, hK4⟩; have hR4 := hK4.blk gr _ _ (by omega) (by first | exact hR3 | exact hR3x); have hsz4 : b < w4.heap.size := hB4.lt; have hbw4 : Below B w w4 := hK4.below B w hBb (Nat.le_trans hBb (Nat.le_of_lt (Blk.lt (by first | exact hB3 | exact hB3x)))) (by first | exact hbw3 | exact hbw3x); (first | (have hY := hK4.blk _ _ _ hne3 hX3n; have hYn := hne3) | (have hY := hK4.blk _ _ _ hYn hY) | skip); have hne4 : w4.heap.size ≠ b := (by omega); have hB4x := hB4.alloc (.cells #[.int .u8 0, .int .i64 0, .int .i64 0, .slice none 0 0, .slice none 0 0] 27); have hR4x := hR4.alloc (.cells #[.int .u8 0, .int .i64 0, .int .i64 0, .slice none 0 0, .slice none 0 0] 27); have hbw4x := hbw4.alloc (by omega) (.cells #[.int .u8 0, .int .i64 0, .int .i64 0, .slice none 0 0, .slice none 0 0] 27); have hX4n := Blk.new w4 [.int .u8 0, .int .i64 0, .int .i64 0, .slice none 0 0, .slice none 0 0] 27; have hDb : b < w3.heap.size := hB3.lt)
    | (go_at_call 53; (with_reducible refine (ltextK b T A m c bs t1 t2 _ (by first | exact hB4 | exact hB4x) Hm.out hmc hc (hr.lo hlo (by first | exact hbw4 | exact hbw4x)) (by omega) (by omega) hm8 os Ok.out.e4 Ok.out.s4 Ok.out.i4).mono ?_); rintro x w5 ⟨O, oc, rfl, hO5, hB5, hK5⟩; have hR5 := hK5.blk gr _ _ (by omega) (by first | exact hR4 | exact hR4x); have hsz5 : b < w5.heap.size := hB5.lt; have hbw5 : Below B w w5 := hK5.below B w hBb (Nat.le_trans hBb (Nat.le_of_lt (Blk.lt (by first | exact hB4 | exact hB4x)))) (by first | exact hbw4 | exact hbw4x); (first | (have hY := hK5.blk _ _ _ hne4 hX4n; have hYn := hne4) | (have hY := hK5.blk _ _ _ hYn hY) | skip); have hne5 : w5.heap.size ≠ b := (by omega); have hB5x := hB5.alloc (.cells #[.int .u8 0, .int .i64 0, .int .i64 0, .slice none 0 0, .slice none 0 0] 27); have hR5x := hR5.alloc (.cells #[.int .u8 0, .int .i64 0, .int .i64 0, .slice none 0 0, .slice none 0 0] 27); have hbw5x := hbw5.alloc (by omega) (.cells #[.int .u8 0, .int .i64 0, .int .i64 0, .slice none 0 0, .slice none 0 0] 27); have hX5n := Blk.new w5 [.int .u8 0, .int .i64 0, .int .i64 0, .slice none 0 0, .slice none 0 0] 27; (first | (have y0 := hY.cell (j := 0) rfl; have z0 := hY.frozen 0; have y1 := hY.cell (j := 1) rfl; have z1 := hY.frozen 1; have y2 := hY.cell (j := 2) rfl; have z2 := hY.frozen 2; have y3 := hY.cell (j := 3) rfl; have z3 := hY.frozen 3; have y4 := hY.cell (j := 4) rfl; have z4 := hY.frozen 4) | skip)))
  all_goals
    go_wp2_with fail
  all_goals
    have s1 := hK1.size
    have s2 := hK2.size
    have s3 := hK3.size
    have s4 := hK4.size
    have s5 := hK5.size
    have s0 := hR.lt
    first
      | (have oD := hK5.own _ _ _ _ _ (by first | exact hDb | (rw [szA]; omega)) hD4)
      | (have oD := hK5.own _ _ _ _ _ (by first | exact hDb | (rw [szA]; omega)) (World.ownsRow.alloc hD4 _))
    have pD := (Put.of hD4).on (Put.of oD)
    have pO := Put.of hO5
    (try simp only [szA, szD] at s1 s2 s3 s4 s5 pD pO)
    refine (form_any k p n D ds.length dc O os.length oc _ hkv).mono ?_
    rintro x w6 ⟨hx, hb6⟩
    rw [Ok.out.f] at hx
    subst hx
    have gB : Blk w6 b [.slice A m c, .int .i64 t2] T := Blk.below (by first | with_reducible exact hB5.alloc _ | with_reducible exact ((((hB5.apart (Ne.symm hYn) 0 _).apart (Ne.symm hYn) 1 _).apart (Ne.symm hYn) 2 _).apart (Ne.symm hYn) 3 _).apart (Ne.symm hYn) 4 _) hb6
    have gR : Blk w6 gr [.int .u8 0, .int .i64 0, .int .i64 0, .slice none 0 0, .slice none 0 0] 27 := Blk.below (by first | with_reducible exact hR5.alloc _ | with_reducible exact ((((hR5.apart (by omega) 0 _).apart (by omega) 1 _).apart (by omega) 2 _).apart (by omega) 3 _).apart (by omega) 4 _) hb6
    have gD : Put w6 D (bys ds) _ _ := Put.below (by first | with_reducible exact pD.alloc _ | with_reducible exact ((((pD.set (by omega) 0 _).set (by omega) 1 _).set (by omega) 2 _).set (by omega) 3 _).set (by omega) 4 _) hb6
    have gO : Put w6 O (bys os) _ _ := Put.below (by first | with_reducible exact pO.alloc _ | with_reducible exact ((((pO.set (by omega) 0 _).set (by omega) 1 _).set (by omega) 2 _).set (by omega) 3 _).set (by omega) 4 _) hb6
    have sz0 := hBa.lt
    have gW : Below B w w6 := Below.trans (by first | with_reducible exact hbw5.alloc (by omega) _ | with_reducible exact ((((hbw5.setCell (le_blk (by omega)) _).setCell (le_blk (by omega)) _).setCell (le_blk (by omega)) _).setCell (le_blk (by omega)) _).setCell (le_blk (by omega)) _) (hb6.mono (by simp; omega))
    have gV := Blk.below (vs := [.int .u8 k, .int .i64 p, .int .i64 n, .slice D ds.length dc, .slice O os.length oc]) (T := 27) (by first | with_reducible exact Blk.new w5 [.int .u8 k, .int .i64 p, .int .i64 n, .slice D ds.length dc, .slice O os.length oc] _ | exact ((((hY.set 0 (.int .u8 k)).set 1 (.int .i64 p)).set 2 (.int .i64 n)).set 3 (.slice D ds.length dc)).set 4 (.slice O os.length oc)) hb6
    go_wp2_with (first | (with_reducible refine stop_load 27 rfl ?_) | (with_reducible refine stop_store 27 rfl ?_))
    refine go_load rfl rfl rfl gV Try.underlying27 rfl (by kernel_rfl) ?_
    go_wp2_with (first | (with_reducible refine stop_load 27 rfl ?_) | (with_reducible refine stop_store 27 rfl ?_))
    refine go_store rfl rfl rfl rfl rfl gR (by kernel_rfl) rfl (op_one _ _ _ _ _ _ _ _ _) ?_
    go_wp2_with fail
    have fD := gD.setRow (g := gr) (by omega) [.int .u8 k, .int .i64 p, .int .i64 n, .slice D ds.length dc, .slice O os.length oc]
    have fO := gO.setRow (g := gr) (by omega) [.int .u8 k, .int .i64 p, .int .i64 n, .slice D ds.length dc, .slice O os.length oc]
    refine bodyPost_ret (results_cell rfl rfl (gR.setAll [.int .u8 k, .int .i64 p, .int .i64 n, .slice D ds.length dc, .slice O os.length oc]) Try.underlying27 rfl (by kernel_rfl)) rfl ?_
    exact ⟨D, dc, O, oc, rfl, fD.rd, fO.rd, fun a ha => Nat.le_trans (by omega) (fD.at_ a ha).1, fun a ha => Nat.le_trans (by omega) (fO.at_ a ha).1, gB.apartAll (by omega) _, below_setRow gW (by omega) _⟩
end Go.Proofs.Ytabglphiafeheaa
