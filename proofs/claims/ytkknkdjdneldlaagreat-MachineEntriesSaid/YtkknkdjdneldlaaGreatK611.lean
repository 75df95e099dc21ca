/- Texts joined (shake.py). -/
import Derived.Outline
import Derived.Test.YtkknkdjdneldlaaGreatK61
import Derived.Test.YtkknkdjdneldlaaGreatK62
namespace Go.Proofs.YtkknkdjdneldlaaGreat
set_option maxRecDepth 20000
open Go.RowKit Go.Px
set_option linter.unusedVariables false

structure DecOk (bs : List UInt8) (k p n : Nat) (ds : List UInt8) (t1 : Int) (os : List UInt8) (t2 : Int) : Prop where
  e0 : getE bs 0 1 = 0
  v0 : getV bs 0 1 = k
  i0 : getI bs 0 1 = 1
  e1 : getE bs 1 4 = 0
  v1 : getV bs 1 4 = p
  i1 : getI bs 1 4 = 5
  e2 : getE bs 5 4 = 0
  v2 : getV bs 5 4 = n
  i2 : getI bs 5 4 = 9
  e3 : textE bs 9 = 0
  s3 : textS bs 9 = ds
  i3 : textI bs 9 = t1
  e4 : textE bs t1 = 0
  s4 : textS bs t1 = os
  i4 : textI bs t1 = t2
  hk : k < 256
  hp : p ≤ 4294967295
  hn : n ≤ 4294967295
  t0 : 0 ≤ t1 ∧ t1 ≤ 140737488355328
  f : fmE k p n ds.length os.length = 0
/-- A piece of memory from block B on. -/
def Up (B : Nat) (A : Option Addr) : Prop := ∀ a, A = some a → B ≤ a.block
/-- What a step on the block b leaves of all else. -/
structure Keep (b : Nat) (w w' : World) : Prop where
  blk : ∀ g vs T, g ≠ b → Blk w g vs T → Blk w' g vs T
  below : ∀ B W, B ≤ b → B ≤ w.heap.size → Below B W w → Below B W w'
  own : ∀ base e n v xs, b < base → w.ownsRow base e 1 v n xs → w'.ownsRow base e 1 v n xs
  size : w.heap.size ≤ w'.heap.size
theorem Keep.step {b : Nat} {w W : World} (hbl : b < w.heap.size) (h : Below w.heap.size w W) (u : Value) : Keep b w (W.setCell ⟨b, 1, none⟩ u) where
  blk g vs T hg hB := (hB.below h).apart hg 1 u
  below B W0 hB hs hW := (hW.trans (h.mono hs)).setCell hB _
  own base e n v xs hb ho := ownsRow_setCell_below (own_below ho (by exact h)) (show (⟨b, 1, none⟩ : Addr).block < base from hb) _
  size := by simpa using h.size
section
variable (b : Nat) (T : TypeId) (A : Option Addr) (m c : Nat) (bs : List UInt8) (at_ n : Int) (v : Nat) (i : Int) (w : World) (hB : Blk w b [.slice A m c, .int .i64 at_] T) (hm : bs.length = m) (hmc : m ≤ c) (hc : c ≤ 9223372036854775807) (hr : Rd w A (bys bs))
    (ha : -9223372036854775808 ≤ at_) (ha2 : at_ ≤ 9223372036854775807)
include hB hm hmc hc hr ha ha2
theorem lnumK (hE : getE bs at_ n = 0) (hV : getV bs at_ n = v) (hI : getI bs at_ n = i) :
    Calls Tryz.prog 129 #[.pointer (some ⟨b, 0, none⟩), .int .i64 n] w fun e w' => e = .returned (.int .u64 v) ∧ Blk w' b [.slice A m c, .int .i64 i] T ∧ Keep b w w' := by
  refine (lnum_any b T A m c bs at_ n v i w hB hm hmc hc hr ha ha2 hE hV hI).mono ?_
  rintro e w' ⟨q, rfl, rfl⟩
  exact ⟨rfl, Blk.set (w := w.drewN q) hB 1 (.int .i64 i), Keep.step hB.lt (below_drewN (Below.refl _ _) q) _⟩
theorem lintK (hE : getE bs at_ n = 0) (hV : getV bs at_ n = v) (hI : getI bs at_ n = i) (hv : v ≤ 9223372036854775807) :
    Calls Tryz.prog 130 #[.pointer (some ⟨b, 0, none⟩), .int .i64 n] w fun e w' => e = .returned (.int .i64 v) ∧ Blk w' b [.slice A m c, .int .i64 i] T ∧ Keep b w w' := by
  refine (lint_any b T A m c bs at_ n v i w hB hm hmc hc hr ha ha2 hE hV hI hv).mono ?_
  rintro e w' ⟨q, rfl, rfl⟩
  exact ⟨rfl, Blk.set (w := w.drewN q) hB 1 (.int .i64 i), Keep.step hB.lt (below_drewN (Below.refl _ _) q) _⟩
theorem ltextK (hm8 : m ≤ 140737488355328) (s : List UInt8) (hE : textE bs at_ = 0) (hS : textS bs at_ = s) (hI : textI bs at_ = i) :
    Calls Tryz.prog 140 #[.pointer (some ⟨b, 0, none⟩)] w fun e w' => ∃ D dc, e = .returned (.slice D s.length dc) ∧ w'.ownsRow w.heap.size 5 1 (.slice D s.length dc) s.length (bys s) ∧ Blk w' b [.slice A m c, .int .i64 i] T ∧ Keep b w w' := by
  refine (ltext_any b T A m c bs at_ s i w hB hm hmc hm8 hc hr ha ha2 hE hS hI).mono ?_
  rintro e w' ⟨D, dc, W, rfl, ho, hb, rfl⟩
  exact ⟨D, dc, rfl, ownsRow_setCell_below ho (show (⟨b, 1, none⟩ : Addr).block < w.heap.size from hB.lt) _, (hB.below hb).set 1 (.int .i64 i), Keep.step hB.lt hb _⟩
end

/-- A row's readings, and where its block lies. -/
structure Put (w : World) (A : Option Addr) (xs : List Value) (lo hi : Nat) : Prop where
  rd : Rd w A xs
  at_ : ∀ a, A = some a → lo ≤ a.block ∧ a.block < hi
theorem Put.of {w : World} {base e n c : Nat} {A : Option Addr} {xs : List Value} (h : w.ownsRow base e 1 (.slice A n c) n xs) : Put w A xs base w.heap.size := by
  obtain ⟨A', c', hv, _, _, _, h1, h2⟩ := own_out h
  cases hv
  exact ⟨h1, h2⟩
theorem Put.on {w w' : World} {A : Option Addr} {xs : List Value} {lo hi lo' hi' : Nat} (h : Put w A xs lo hi) (h' : Put w' A xs lo' hi') : Put w' A xs lo hi := ⟨h'.rd, h.at_⟩
theorem Put.below {w w' : World} {A : Option Addr} {xs : List Value} {lo hi : Nat} (h : Put w A xs lo hi) (hb : Below w.heap.size w w') : Put w' A xs lo hi := ⟨h.rd.below hb, h.at_⟩
theorem Put.alloc {w : World} {A : Option Addr} {xs : List Value} {lo hi : Nat} (h : Put w A xs lo hi) (o : Obj) : Put (w.alloc o) A xs lo hi := ⟨h.rd.alloc o, h.at_⟩
theorem Put.set {w : World} {A : Option Addr} {xs : List Value} {lo hi : Nat} (h : Put w A xs lo hi) {g : Nat} (hg : g < lo ∨ hi ≤ g) (j : Nat) (u : Value) : Put (w.setCell ⟨g, j, none⟩ u) A xs lo hi :=
  ⟨fun k v hk => by
    obtain ⟨a, rfl, hc⟩ := h.rd k v hk
    have := h.at_ a rfl
    refine ⟨a, rfl, ?_⟩
    rw [World.cell?_setCell_far w ⟨g, j, none⟩ _ u (by rw [add_block]; show g ≠ a.block; omega)]
    exact hc, h.at_⟩
theorem szA (w : World) (o : Obj) : (w.alloc o).heap.size = w.heap.size + 1 := by simp
theorem szD (w : World) : w.drew.heap.size = w.heap.size := rfl

theorem le_blk {B g j : Nat} (h : B ≤ g) : B ≤ (⟨g, j, none⟩ : Addr).block := h
theorem Put.setRow {w : World} {A : Option Addr} {xs : List Value} {lo hi : Nat} (h : Put w A xs lo hi) {g : Nat} (hg : g < lo ∨ hi ≤ g) (us : List Value) : Put (w.setRow g us.toArray) A xs lo hi :=
  ⟨fun k v hk => by
    obtain ⟨a, rfl, hc⟩ := h.rd k v hk
    have := h.at_ a rfl
    refine ⟨a, rfl, ?_⟩
    rw [← hc]
    have hb : (a.add k).block = a.block := add_block a k
    unfold World.cell?
    rw [heap_setRow_other w g (a.add k).block us.toArray (by rw [hb]; omega)], h.at_⟩
theorem op_one (k : Nat) (p n : Int) (D : Option Addr) (d dc : Nat) (O : Option Addr) (o oc : Nat) : ∀ u ∈ ([.int .u8 k, .int .i64 p, .int .i64 n, .slice D d dc, .slice O o oc] : List Value), u.oneCell' = true := by
  intro u hu; simp at hu; rcases hu with rfl | rfl | rfl | rfl | rfl <;> rfl

end Go.Proofs.YtkknkdjdneldlaaGreat
namespace Go.Proofs.YtkknkdjdneldlaaGreat
set_option maxRecDepth 20000
open Go.RowKit Go.Px
set_option linter.unusedVariables false
set_option linter.unusedSimpArgs false
def stopped (x : Int) : List PanicEntry := [{ v := .iface 178 (.agg #[.int .i64 x]), recovered := false }]
theorem stop_bad (x : Int) (hx : x ≠ 0) (w : World) : Calls Tryz.prog 75 #[.int .i64 x] w fun e w' => e = .panicked (stopped x) ∧ w = w' := by
  have h1 : (x != 0) = true := by simpa using hx
  have h2 : (x == 0) = false := by simpa using hx
  clear hx
  go_enter Tryz.func75, Tryz.ntmps75
  go_wp2
  exact ⟨rfl, rfl, rfl⟩
theorem caught_bad (x z : Int) (w : World) : Calls Tryz.prog 71 #[.iface 178 (.agg #[.int .i64 x]), .int .i64 z] w fun e w' => e = .returned (.int .i64 x) ∧ w' = w.alloc (.cells #[.int .i64 x] 178) := by
  have hta : ∀ w, (Instr.typeAssert (.iface 178 (.agg #[.int .i64 x])) 20 178 true).run Tryz.prog w = .ok (.tuple #[.agg #[.int .i64 x], .bool true]) w := fun w => by kernel_rfl
  go_enter Tryz.func71, Tryz.ntmps71
  go_wp2
  go_ret
  exact ⟨rfl, rfl⟩
theorem recov_any (p : Addr) (x z : Int) (w : World) (hc : w.cell? p = some (.int .i64 z)) (hf : w.frozen? p = false) (hp : p.block < w.heap.size) :
    CallsD Tryz.prog 157 #[.pointer (some p)] (.panicking (stopped x)) w fun e u' w' => e = .returned (.tuple #[]) ∧ u' = .panicking [{ v := .iface 178 (.agg #[.int .i64 x]), recovered := true }] ∧ w' = ((w.drew.alloc (.cells #[.int .i64 x] 178)).setCell p (.int .i64 x)) := by
  have hC := caught_bad x z w.drew
  have hb := (Below.refl w.heap.size w).alloc (Nat.le_refl _) (.cells #[.int .i64 x] 178)
  have hca := (hb.cell (p := p) hp).trans hc
  have hfa := (hb.frozen (p := p) hp).trans hf
  clear hb
  refine callsD_of_wpS Tryz.func157 rfl fun c₀ cs hu => ?_
  refine wpS_two (by kernel_rfl) rfl (by kernel_rfl) (by kernel_rfl) (by kernel_rfl) (by kernel_rfl) (by kernel_rfl) ?_ ?_
  all_goals
    simp [wpOpsS, go_sem, recoverD, hu, stopped, Tryz.ntmps157, Exit.thenS, hc, hf]
    refine hC.mono ?_
    rintro e w' ⟨rfl, rfl⟩
    simp [go_sem, hca, hfa]
    cases c₀
    simp_all [bodyPostS, results, Tryz.results157]

theorem grown_drewN (w : World) (r : Option Nat) (q : Nat) : w.grownBy (w.drewN q) r := ⟨rfl, rfl, rfl, Nat.le_refl _, fun _ _ _ => rfl⟩
def act0 : Act := { tmps := #[], defers := [] }
theorem twoWays {p q : Prop} (h : p) (_ : q) : p := h
def txE (e : Int) : Int := if e = 2 then 42 else e
section
variable (b : Nat) (T : TypeId) (A : Option Addr) (m c : Nat) (bs : List UInt8) (at_ n : Int) (x : Int) (w : World) (hB : Blk w b [.slice A m c, .int .i64 at_] T) (hm : bs.length = m) (hmc : m ≤ c) (hc : c ≤ 9223372036854775807) (hr : Rd w A (bys bs))
    (ha : -9223372036854775808 ≤ at_) (ha2 : at_ ≤ 9223372036854775807)
include hB hm hmc hc hr ha ha2
set_option maxHeartbeats 800000 in
theorem lnum_bad (hE : getE bs at_ n = x) (hx : x ≠ 0) : Calls Tryz.prog 129 #[.pointer (some ⟨b, 0, none⟩), .int .i64 n] w fun e w' => e = .panicked (stopped x) ∧ w.grownBy w' (some b) := by
  have HQ : ∀ q, Calls Tryz.prog 156 #[.slice A m c, .int .i64 at_, .int .i64 n] (w.drewN q) fun e w' => e = .returned (.tuple #[.int .u64 (getV bs at_ n), .int .i64 (getI bs at_ n), .int .i64 x]) ∧ w' = w.drewN q := fun q => by
    refine (get_any A m c bs at_ n _ hm hmc hc (hr.drewN q) ha ha2).mono ?_
    rw [hE]
    rintro e w' ⟨rfl, rfl⟩
    exact ⟨rfl, rfl⟩
  have x0 := hB.cell (j := 0) rfl
  have x1 := hB.cell (j := 1) rfl
  have f1 := hB.frozen 1
  have Hx := hide hx
  clear hE hm hx
  go_enter Tryz.func129, Tryz.ntmps129
  go_wp2
  go_quiet ((go_at_call 156; exact Calls.quiet_of_same (HQ _)))
  go_wp2_with fail
  go_fit (stop_bad x Hx.out _)
  rintro e w' ⟨rfl, rfl⟩
  exact ⟨rfl, rfl, grown_drewN _ _ _⟩
set_option maxHeartbeats 400000 in
theorem lint_bad (hE : getE bs at_ n = x) (hx : x ≠ 0) : Calls Tryz.prog 130 #[.pointer (some ⟨b, 0, none⟩), .int .i64 n] w fun e w' => e = .panicked (stopped x) ∧ w.grownBy w' (some b) := by
  have H := hide (lnum_bad b T A m c bs at_ n x w hB hm hmc hc hr ha ha2 hE hx)
  clear hE hm hx
  go_enter Tryz.func130, Tryz.ntmps130
  go_wp2_with fail
  refine H.out.mono ?_
  rintro e w' ⟨rfl, hg⟩
  exact ⟨rfl, rfl, hg⟩
set_option maxHeartbeats 800000 in
theorem ltext_bad (hm8 : m ≤ 140737488355328) (hE : txE (textE bs at_) = x) (hx : x ≠ 0) : Calls Tryz.prog 140 #[.pointer (some ⟨b, 0, none⟩)] w fun e w' => e = .panicked (stopped x) ∧ w.grownBy w' (some b) := by
  have HT := hide (getText_any A m c bs at_ w.drew hm hmc hm8 hc hr.drew ha ha2)
  have x0 := hB.cell (j := 0) rfl
  have x1 := hB.cell (j := 1) rfl
  have S0 : w.drew.cell? ⟨b, 0, none⟩ = some (.slice A m c) ∧ w.drew.cell? ⟨b, 1, none⟩ = some (.int .i64 at_) := ⟨x0, x1⟩
  have Hx := hide hx
  obtain ⟨y, hy⟩ : ∃ y, textE bs at_ = y := ⟨_, rfl⟩
  rw [hy] at hE
  have HY := hide hy
  clear hy hm hx
  by_cases h2 : y = 2
  · subst h2
    have hx42 : x = 42 := by rw [← hE]; rfl
    subst hx42
    clear hE
    go_enter Tryz.func140, Tryz.ntmps140
    go_wp2
    go_region_with (first
      | (go_at_call 160; refine HT.out.mono ?_; rw [HY.out]; rintro e w1 ⟨u1, rfl, ho1, hb1⟩; obtain ⟨A1, c1, rfl, _, _, _, _, _⟩ := own_out ho1))
    all_goals
      go_wp2_with fail
      go_fit (stop_bad 42 Hx.out _)
      rintro e w' ⟨rfl, rfl⟩
      exact ⟨rfl, rfl, grown_of_below ((Below.refl _ _).drew.trans hb1) _⟩
  · have hxy : x = y := by rw [← hE]; unfold txE; rw [if_neg h2]
    subst hxy
    have h2' : (x == 2) = false := by simpa using h2
    clear hE h2
    go_enter Tryz.func140, Tryz.ntmps140
    go_wp2
    go_region_with (first
      | (go_at_call 160; refine HT.out.mono ?_; rw [HY.out]; rintro e w1 ⟨u1, rfl, ho1, hb1⟩; obtain ⟨A1, c1, rfl, _, _, _, _, _⟩ := own_out ho1))
    all_goals
      go_wp2_with fail
      go_fit (stop_bad x Hx.out _)
      rintro e w' ⟨rfl, rfl⟩
      exact ⟨rfl, rfl, grown_of_below ((Below.refl _ _).drew.trans hb1) _⟩
end

theorem gt {a b c : World} {r : Option Nat} (h : a.grownBy b r) (k : b.grownBy c r) : a.grownBy c r := grown_chain h k (.inl rfl)
theorem galloc {a b : World} {r : Option Nat} (h : a.grownBy b r) (o : Obj) : a.grownBy (b.alloc o) r := gt h (grown_of_below ((Below.refl _ _).alloc (Nat.le_refl _) o) r)
theorem gdrew {a b : World} {r : Option Nat} (h : a.grownBy b r) : a.grownBy b.drew r := gt h (grown_of_below (Below.refl _ _).drew r)
theorem gset4 {a b : World} {g : Nat} (h : a.grownBy b (some g)) (j : Nat) (u : Value) : a.grownBy (b.setCell ⟨g, j, none⟩ u) (some g) :=
  gt h ⟨rfl, rfl, rfl, by simp, fun k hk hne => heap_setCell_other b ⟨g, j, none⟩ k u (by intro e; exact hne (by rw [e]))⟩
section
variable (b : Nat) (T : TypeId) (A : Option Addr) (m c : Nat) (bs : List UInt8) (at_ n : Int) (v : Nat) (i : Int) (w : World) (hB : Blk w b [.slice A m c, .int .i64 at_] T) (hm : bs.length = m) (hmc : m ≤ c) (hc : c ≤ 9223372036854775807) (hr : Rd w A (bys bs))
    (ha : -9223372036854775808 ≤ at_) (ha2 : at_ ≤ 9223372036854775807)
include hB hm hmc hc hr ha ha2
theorem lnumG (hE : getE bs at_ n = 0) (hV : getV bs at_ n = v) (hI : getI bs at_ n = i) :
    Calls Tryz.prog 129 #[.pointer (some ⟨b, 0, none⟩), .int .i64 n] w fun e w' => e = .returned (.int .u64 v) ∧ Blk w' b [.slice A m c, .int .i64 i] T ∧ w.grownBy w' (some b) := by
  refine (lnum_any b T A m c bs at_ n v i w hB hm hmc hc hr ha ha2 hE hV hI).mono ?_
  rintro e w' ⟨q, rfl, rfl⟩
  exact ⟨rfl, Blk.set (w := w.drewN q) hB 1 (.int .i64 i), gset4 (grown_drewN w _ q) _ _⟩
theorem lintG (hE : getE bs at_ n = 0) (hV : getV bs at_ n = v) (hI : getI bs at_ n = i) (hv : v ≤ 9223372036854775807) :
    Calls Tryz.prog 130 #[.pointer (some ⟨b, 0, none⟩), .int .i64 n] w fun e w' => e = .returned (.int .i64 v) ∧ Blk w' b [.slice A m c, .int .i64 i] T ∧ w.grownBy w' (some b) := by
  refine (lint_any b T A m c bs at_ n v i w hB hm hmc hc hr ha ha2 hE hV hI hv).mono ?_
  rintro e w' ⟨q, rfl, rfl⟩
  exact ⟨rfl, Blk.set (w := w.drewN q) hB 1 (.int .i64 i), gset4 (grown_drewN w _ q) _ _⟩
theorem ltextG (hm8 : m ≤ 140737488355328) (s : List UInt8) (hE : textE bs at_ = 0) (hS : textS bs at_ = s) (hI : textI bs at_ = i) :
    Calls Tryz.prog 140 #[.pointer (some ⟨b, 0, none⟩)] w fun e w' => ∃ D dc, e = .returned (.slice D s.length dc) ∧ w'.ownsRow w.heap.size 5 1 (.slice D s.length dc) s.length (bys s) ∧ Blk w' b [.slice A m c, .int .i64 i] T ∧ w.grownBy w' (some b) := by
  refine (ltext_any b T A m c bs at_ s i w hB hm hmc hm8 hc hr ha ha2 hE hS hI).mono ?_
  rintro e w' ⟨D, dc, W, rfl, ho, hb, rfl⟩
  exact ⟨D, dc, rfl, ownsRow_setCell_below ho (show (⟨b, 1, none⟩ : Addr).block < w.heap.size from hB.lt) _, (hB.below hb).set 1 (.int .i64 i), gset4 (grown_of_below hb _) _ _⟩
end
end Go.Proofs.YtkknkdjdneldlaaGreat
namespace Go.Proofs.YtkknkdjdneldlaaGreat
set_option maxRecDepth 20000
open Go.RowKit Go.Px
set_option linter.unusedVariables false
set_option linter.unusedSimpArgs false
def OpBad (b : Nat) (x : Int) (w : World) (e : Ending) (w' : World) : Prop := e = .panicked (stopped x) ∧ w.grownBy w' (some b)

set_option maxHeartbeats 6400000 in
theorem op_bad0 (b : Nat) (T : TypeId) (A : Option Addr) (m c : Nat) (bs : List UInt8) (k p n : Nat) (ds : List UInt8) (t1 : Int) (x : Int) (w : World) (hB : Blk w b [.slice A m c, .int .i64 0] T) (hm : bs.length = m) (hmc : m ≤ c) (hm8 : m ≤ 140737488355328) (hc : c ≤ 9223372036854775807) (hr : Rd w A (bys bs))
    (hne : ∀ a, A = some a → some a.block ≠ some b) (ex : getE bs 0 1 = x) (hx : x ≠ 0) :
    Calls Tryz.prog 158 #[.pointer (some ⟨b, 0, none⟩)] w (OpBad b x w) := by
  obtain ⟨w0, hw0⟩ : ∃ w0, w.alloc (.cells #[.int .u8 0, .int .i64 0, .int .i64 0, .slice none 0 0, .slice none 0 0] 47) = w0 := ⟨_, rfl⟩
  have hBa : Blk w0 b [.slice A m c, .int .i64 0] T := by rw [← hw0]; exact hB.alloc _
  have Ga : w.grownBy w0 (some b) := by rw [← hw0]; exact galloc (grown_refl _ _) _
  have Hm := hide hm
  have EX := hide ex
  have NX := hide hx
  have hB0 : Blk w0.drew b [.slice A m c, .int .i64 0] T := hBa
  have hB0x : Blk (w0.alloc (.cells #[.int .u8 0, .int .i64 0, .int .i64 0, .slice none 0 0, .slice none 0 0] 47)).drew b [.slice A m c, .int .i64 0] T := (hBa.alloc _).drew
  have G0 : w.grownBy w0.drew (some b) := gdrew Ga
  have G0x : w.grownBy (w0.alloc (.cells #[.int .u8 0, .int .i64 0, .int .i64 0, .slice none 0 0, .slice none 0 0] 47)).drew (some b) := gdrew (galloc Ga _)
  clear hm ex hx
  go_enter Tryz.func158, Tryz.ntmps158
  go_wp2
  go_region_with (first
    | (go_at_call 129; (with_reducible refine (lnum_bad b T A m c bs 0 1 x _ (by first | exact hB0 | exact hB0x) Hm.out hmc hc (hr.grown (by first | exact G0 | exact G0x) hne) (by omega) (by omega) EX.out NX.out).mono ?_); rintro e wx ⟨rfl, KX⟩; have GX := gt (by first | exact G0 | exact G0x) KX; refine twoWays (q := wpAny Tryz.prog Region.Mode.any #[] (fun _ _ _ => True) 0 #[] act0 wx) ⟨rfl, rfl, GX⟩ ?_))
  all_goals trivial

set_option maxHeartbeats 6400000 in
theorem op_bad1 (b : Nat) (T : TypeId) (A : Option Addr) (m c : Nat) (bs : List UInt8) (k p n : Nat) (ds : List UInt8) (t1 : Int) (x : Int) (w : World) (hB : Blk w b [.slice A m c, .int .i64 0] T) (hm : bs.length = m) (hmc : m ≤ c) (hm8 : m ≤ 140737488355328) (hc : c ≤ 9223372036854775807) (hr : Rd w A (bys bs))
    (hne : ∀ a, A = some a → some a.block ≠ some b) (e0 : getE bs 0 1 = 0) (v0 : getV bs 0 1 = k) (i0 : getI bs 0 1 = 1) (ex : getE bs 1 4 = x) (hx : x ≠ 0) :
    Calls Tryz.prog 158 #[.pointer (some ⟨b, 0, none⟩)] w (OpBad b x w) := by
  obtain ⟨w0, hw0⟩ : ∃ w0, w.alloc (.cells #[.int .u8 0, .int .i64 0, .int .i64 0, .slice none 0 0, .slice none 0 0] 47) = w0 := ⟨_, rfl⟩
  have hBa : Blk w0 b [.slice A m c, .int .i64 0] T := by rw [← hw0]; exact hB.alloc _
  have Ga : w.grownBy w0 (some b) := by rw [← hw0]; exact galloc (grown_refl _ _) _
  have Hm := hide hm
  have E0 := hide e0
  have V0 := hide v0
  have I0 := hide i0
  have EX := hide ex
  have NX := hide hx
  have hB0 : Blk w0.drew b [.slice A m c, .int .i64 0] T := hBa
  have hB0x : Blk (w0.alloc (.cells #[.int .u8 0, .int .i64 0, .int .i64 0, .slice none 0 0, .slice none 0 0] 47)).drew b [.slice A m c, .int .i64 0] T := (hBa.alloc _).drew
  have G0 : w.grownBy w0.drew (some b) := gdrew Ga
  have G0x : w.grownBy (w0.alloc (.cells #[.int .u8 0, .int .i64 0, .int .i64 0, .slice none 0 0, .slice none 0 0] 47)).drew (some b) := gdrew (galloc Ga _)
  clear hm ex hx e0 v0 i0
  go_enter Tryz.func158, Tryz.ntmps158
  go_wp2
  go_region_with (first
    | (go_at_call 129; (with_reducible refine (lnumG b T A m c bs 0 1 k 1 _ (by first | exact hB0 | exact hB0x) Hm.out hmc hc (hr.grown (by first | exact G0 | exact G0x) hne) (by omega) (by omega) E0.out V0.out I0.out).mono ?_); rintro e w1 ⟨rfl, hB1, K1⟩; have G1 := gt (by first | exact G0 | exact G0x) K1; have hB1x := hB1.alloc (.cells #[.int .u8 0, .int .i64 0, .int .i64 0, .slice none 0 0, .slice none 0 0] 47); have G1x := galloc G1 (.cells #[.int .u8 0, .int .i64 0, .int .i64 0, .slice none 0 0, .slice none 0 0] 47); have L1 := hB1.lt)
    | (go_at_call 130; (with_reducible refine (lint_bad b T A m c bs 1 4 x _ (by first | exact hB1 | exact hB1x) Hm.out hmc hc (hr.grown (by first | exact G1 | exact G1x) hne) (by omega) (by omega) EX.out NX.out).mono ?_); rintro e wx ⟨rfl, KX⟩; have GX := gt (by first | exact G1 | exact G1x) KX; refine twoWays (q := wpAny Tryz.prog Region.Mode.any #[] (fun _ _ _ => True) 0 #[] act0 wx) ⟨rfl, rfl, GX⟩ ?_))
  all_goals trivial

set_option maxHeartbeats 6400000 in
theorem op_bad2 (b : Nat) (T : TypeId) (A : Option Addr) (m c : Nat) (bs : List UInt8) (k p n : Nat) (ds : List UInt8) (t1 : Int) (x : Int) (w : World) (hB : Blk w b [.slice A m c, .int .i64 0] T) (hm : bs.length = m) (hmc : m ≤ c) (hm8 : m ≤ 140737488355328) (hc : c ≤ 9223372036854775807) (hr : Rd w A (bys bs))
    (hne : ∀ a, A = some a → some a.block ≠ some b) (e0 : getE bs 0 1 = 0) (v0 : getV bs 0 1 = k) (i0 : getI bs 0 1 = 1) (e1 : getE bs 1 4 = 0) (v1 : getV bs 1 4 = p) (i1 : getI bs 1 4 = 5) (hv1 : p ≤ 4294967295) (ex : getE bs 5 4 = x) (hx : x ≠ 0) :
    Calls Tryz.prog 158 #[.pointer (some ⟨b, 0, none⟩)] w (OpBad b x w) := by
  obtain ⟨w0, hw0⟩ : ∃ w0, w.alloc (.cells #[.int .u8 0, .int .i64 0, .int .i64 0, .slice none 0 0, .slice none 0 0] 47) = w0 := ⟨_, rfl⟩
  have hBa : Blk w0 b [.slice A m c, .int .i64 0] T := by rw [← hw0]; exact hB.alloc _
  have Ga : w.grownBy w0 (some b) := by rw [← hw0]; exact galloc (grown_refl _ _) _
  have Hm := hide hm
  have E0 := hide e0
  have V0 := hide v0
  have I0 := hide i0
  have E1 := hide e1
  have V1 := hide v1
  have I1 := hide i1
  have EX := hide ex
  have NX := hide hx
  have hB0 : Blk w0.drew b [.slice A m c, .int .i64 0] T := hBa
  have hB0x : Blk (w0.alloc (.cells #[.int .u8 0, .int .i64 0, .int .i64 0, .slice none 0 0, .slice none 0 0] 47)).drew b [.slice A m c, .int .i64 0] T := (hBa.alloc _).drew
  have G0 : w.grownBy w0.drew (some b) := gdrew Ga
  have G0x : w.grownBy (w0.alloc (.cells #[.int .u8 0, .int .i64 0, .int .i64 0, .slice none 0 0, .slice none 0 0] 47)).drew (some b) := gdrew (galloc Ga _)
  clear hm ex hx e0 v0 i0 e1 v1 i1
  go_enter Tryz.func158, Tryz.ntmps158
  go_wp2
  go_region_with (first
    | (go_at_call 129; (with_reducible refine (lnumG b T A m c bs 0 1 k 1 _ (by first | exact hB0 | exact hB0x) Hm.out hmc hc (hr.grown (by first | exact G0 | exact G0x) hne) (by omega) (by omega) E0.out V0.out I0.out).mono ?_); rintro e w1 ⟨rfl, hB1, K1⟩; have G1 := gt (by first | exact G0 | exact G0x) K1; have hB1x := hB1.alloc (.cells #[.int .u8 0, .int .i64 0, .int .i64 0, .slice none 0 0, .slice none 0 0] 47); have G1x := galloc G1 (.cells #[.int .u8 0, .int .i64 0, .int .i64 0, .slice none 0 0, .slice none 0 0] 47); have L1 := hB1.lt)
    | (go_at_call 130; (with_reducible refine (lintG b T A m c bs 1 4 p 5 _ (by first | exact hB1 | exact hB1x) Hm.out hmc hc (hr.grown (by first | exact G1 | exact G1x) hne) (by omega) (by omega) E1.out V1.out I1.out (by omega)).mono ?_); rintro e w2 ⟨rfl, hB2, K2⟩; have G2 := gt (by first | exact G1 | exact G1x) K2; have hB2x := hB2.alloc (.cells #[.int .u8 0, .int .i64 0, .int .i64 0, .slice none 0 0, .slice none 0 0] 47); have G2x := galloc G2 (.cells #[.int .u8 0, .int .i64 0, .int .i64 0, .slice none 0 0, .slice none 0 0] 47); have L2 := hB2.lt)
    | (go_at_call 130; (with_reducible refine (lint_bad b T A m c bs 5 4 x _ (by first | exact hB2 | exact hB2x) Hm.out hmc hc (hr.grown (by first | exact G2 | exact G2x) hne) (by omega) (by omega) EX.out NX.out).mono ?_); rintro e wx ⟨rfl, KX⟩; have GX := gt (by first | exact G2 | exact G2x) KX; refine twoWays (q := wpAny Tryz.prog Region.Mode.any #[] (fun _ _ _ => True) 0 #[] act0 wx) ⟨rfl, rfl, GX⟩ ?_))
  all_goals trivial

set_option maxHeartbeats 6400000 in
theorem op_bad3 (b : Nat) (T : TypeId) (A : Option Addr) (m c : Nat) (bs : List UInt8) (k p n : Nat) (ds : List UInt8) (t1 : Int) (x : Int) (w : World) (hB : Blk w b [.slice A m c, .int .i64 0] T) (hm : bs.length = m) (hmc : m ≤ c) (hm8 : m ≤ 140737488355328) (hc : c ≤ 9223372036854775807) (hr : Rd w A (bys bs))
    (hne : ∀ a, A = some a → some a.block ≠ some b) (e0 : getE bs 0 1 = 0) (v0 : getV bs 0 1 = k) (i0 : getI bs 0 1 = 1) (e1 : getE bs 1 4 = 0) (v1 : getV bs 1 4 = p) (i1 : getI bs 1 4 = 5) (hv1 : p ≤ 4294967295) (e2 : getE bs 5 4 = 0) (v2 : getV bs 5 4 = n) (i2 : getI bs 5 4 = 9) (hv2 : n ≤ 4294967295) (ex : txE (textE bs 9) = x) (hx : x ≠ 0) :
    Calls Tryz.prog 158 #[.pointer (some ⟨b, 0, none⟩)] w (OpBad b x w) := by
  obtain ⟨w0, hw0⟩ : ∃ w0, w.alloc (.cells #[.int .u8 0, .int .i64 0, .int .i64 0, .slice none 0 0, .slice none 0 0] 47) = w0 := ⟨_, rfl⟩
  have hBa : Blk w0 b [.slice A m c, .int .i64 0] T := by rw [← hw0]; exact hB.alloc _
  have Ga : w.grownBy w0 (some b) := by rw [← hw0]; exact galloc (grown_refl _ _) _
  have Hm := hide hm
  have E0 := hide e0
  have V0 := hide v0
  have I0 := hide i0
  have E1 := hide e1
  have V1 := hide v1
  have I1 := hide i1
  have E2 := hide e2
  have V2 := hide v2
  have I2 := hide i2
  have EX := hide ex
  have NX := hide hx
  have hB0 : Blk w0.drew b [.slice A m c, .int .i64 0] T := hBa
  have hB0x : Blk (w0.alloc (.cells #[.int .u8 0, .int .i64 0, .int .i64 0, .slice none 0 0, .slice none 0 0] 47)).drew b [.slice A m c, .int .i64 0] T := (hBa.alloc _).drew
  have G0 : w.grownBy w0.drew (some b) := gdrew Ga
  have G0x : w.grownBy (w0.alloc (.cells #[.int .u8 0, .int .i64 0, .int .i64 0, .slice none 0 0, .slice none 0 0] 47)).drew (some b) := gdrew (galloc Ga _)
  clear hm ex hx e0 v0 i0 e1 v1 i1 e2 v2 i2
  go_enter Tryz.func158, Tryz.ntmps158
  go_wp2
  go_region_with (first
    | (go_at_call 129; (with_reducible refine (lnumG b T A m c bs 0 1 k 1 _ (by first | exact hB0 | exact hB0x) Hm.out hmc hc (hr.grown (by first | exact G0 | exact G0x) hne) (by omega) (by omega) E0.out V0.out I0.out).mono ?_); rintro e w1 ⟨rfl, hB1, K1⟩; have G1 := gt (by first | exact G0 | exact G0x) K1; have hB1x := hB1.alloc (.cells #[.int .u8 0, .int .i64 0, .int .i64 0, .slice none 0 0, .slice none 0 0] 47); have G1x := galloc G1 (.cells #[.int .u8 0, .int .i64 0, .int .i64 0, .slice none 0 0, .slice none 0 0] 47); have L1 := hB1.lt)
    | (go_at_call 130; (with_reducible refine (lintG b T A m c bs 1 4 p 5 _ (by first | exact hB1 | exact hB1x) Hm.out hmc hc (hr.grown (by first | exact G1 | exact G1x) hne) (by omega) (by omega) E1.out V1.out I1.out (by omega)).mono ?_); rintro e w2 ⟨rfl, hB2, K2⟩; have G2 := gt (by first | exact G1 | exact G1x) K2; have hB2x := hB2.alloc (.cells #[.int .u8 0, .int .i64 0, .int .i64 0, .slice none 0 0, .slice none 0 0] 47); have G2x := galloc G2 (.cells #[.int .u8 0, .int .i64 0, .int .i64 0, .slice none 0 0, .slice none 0 0] 47); have L2 := hB2.lt)
    | (go_at_call 130; (with_reducible refine (lintG b T A m c bs 5 4 n 9 _ (by first | exact hB2 | exact hB2x) Hm.out hmc hc (hr.grown (by first | exact G2 | exact G2x) hne) (by omega) (by omega) E2.out V2.out I2.out (by omega)).mono ?_); rintro e w3 ⟨rfl, hB3, K3⟩; have G3 := gt (by first | exact G2 | exact G2x) K3; have hB3x := hB3.alloc (.cells #[.int .u8 0, .int .i64 0, .int .i64 0, .slice none 0 0, .slice none 0 0] 47); have G3x := galloc G3 (.cells #[.int .u8 0, .int .i64 0, .int .i64 0, .slice none 0 0, .slice none 0 0] 47); have L3 := hB3.lt)
    | (go_at_call 140; (with_reducible refine (ltext_bad b T A m c bs 9 x _ (by first | exact hB3 | exact hB3x) Hm.out hmc hc (hr.grown (by first | exact G3 | exact G3x) hne) (by omega) (by omega) hm8 EX.out NX.out).mono ?_); rintro e wx ⟨rfl, KX⟩; have GX := gt (by first | exact G3 | exact G3x) KX; refine twoWays (q := wpAny Tryz.prog Region.Mode.any #[] (fun _ _ _ => True) 0 #[] act0 wx) ⟨rfl, rfl, GX⟩ ?_))
  all_goals trivial

set_option maxHeartbeats 6400000 in
theorem op_bad4 (b : Nat) (T : TypeId) (A : Option Addr) (m c : Nat) (bs : List UInt8) (k p n : Nat) (ds : List UInt8) (t1 : Int) (x : Int) (w : World) (hB : Blk w b [.slice A m c, .int .i64 0] T) (hm : bs.length = m) (hmc : m ≤ c) (hm8 : m ≤ 140737488355328) (hc : c ≤ 9223372036854775807) (hr : Rd w A (bys bs))
    (hne : ∀ a, A = some a → some a.block ≠ some b) (e0 : getE bs 0 1 = 0) (v0 : getV bs 0 1 = k) (i0 : getI bs 0 1 = 1) (e1 : getE bs 1 4 = 0) (v1 : getV bs 1 4 = p) (i1 : getI bs 1 4 = 5) (hv1 : p ≤ 4294967295) (e2 : getE bs 5 4 = 0) (v2 : getV bs 5 4 = n) (i2 : getI bs 5 4 = 9) (hv2 : n ≤ 4294967295) (e3 : textE bs 9 = 0) (v3 : textS bs 9 = ds) (i3 : textI bs 9 = t1) (ht1 : 0 ≤ t1 ∧ t1 ≤ 140737488355328) (ex : txE (textE bs t1) = x) (hx : x ≠ 0) :
    Calls Tryz.prog 158 #[.pointer (some ⟨b, 0, none⟩)] w (OpBad b x w) := by
  obtain ⟨w0, hw0⟩ : ∃ w0, w.alloc (.cells #[.int .u8 0, .int .i64 0, .int .i64 0, .slice none 0 0, .slice none 0 0] 47) = w0 := ⟨_, rfl⟩
  have hBa : Blk w0 b [.slice A m c, .int .i64 0] T := by rw [← hw0]; exact hB.alloc _
  have Ga : w.grownBy w0 (some b) := by rw [← hw0]; exact galloc (grown_refl _ _) _
  have Hm := hide hm
  have E0 := hide e0
  have V0 := hide v0
  have I0 := hide i0
  have E1 := hide e1
  have V1 := hide v1
  have I1 := hide i1
  have E2 := hide e2
  have V2 := hide v2
  have I2 := hide i2
  have E3 := hide e3
  have V3 := hide v3
  have I3 := hide i3
  have EX := hide ex
  have NX := hide hx
  have hB0 : Blk w0.drew b [.slice A m c, .int .i64 0] T := hBa
  have hB0x : Blk (w0.alloc (.cells #[.int .u8 0, .int .i64 0, .int .i64 0, .slice none 0 0, .slice none 0 0] 47)).drew b [.slice A m c, .int .i64 0] T := (hBa.alloc _).drew
  have G0 : w.grownBy w0.drew (some b) := gdrew Ga
  have G0x : w.grownBy (w0.alloc (.cells #[.int .u8 0, .int .i64 0, .int .i64 0, .slice none 0 0, .slice none 0 0] 47)).drew (some b) := gdrew (galloc Ga _)
  clear hm ex hx e0 v0 i0 e1 v1 i1 e2 v2 i2 e3 v3 i3
  go_enter Tryz.func158, Tryz.ntmps158
  go_wp2
  go_region_with (first
    | (go_at_call 129; (with_reducible refine (lnumG b T A m c bs 0 1 k 1 _ (by first | exact hB0 | exact hB0x) Hm.out hmc hc (hr.grown (by first | exact G0 | exact G0x) hne) (by omega) (by omega) E0.out V0.out I0.out).mono ?_); rintro e w1 ⟨rfl, hB1, K1⟩; have G1 := gt (by first | exact G0 | exact G0x) K1; have hB1x := hB1.alloc (.cells #[.int .u8 0, .int .i64 0, .int .i64 0, .slice none 0 0, .slice none 0 0] 47); have G1x := galloc G1 (.cells #[.int .u8 0, .int .i64 0, .int .i64 0, .slice none 0 0, .slice none 0 0] 47); have L1 := hB1.lt)
    | (go_at_call 130; (with_reducible refine (lintG b T A m c bs 1 4 p 5 _ (by first | exact hB1 | exact hB1x) Hm.out hmc hc (hr.grown (by first | exact G1 | exact G1x) hne) (by omega) (by omega) E1.out V1.out I1.out (by omega)).mono ?_); rintro e w2 ⟨rfl, hB2, K2⟩; have G2 := gt (by first | exact G1 | exact G1x) K2; have hB2x := hB2.alloc (.cells #[.int .u8 0, .int .i64 0, .int .i64 0, .slice none 0 0, .slice none 0 0] 47); have G2x := galloc G2 (.cells #[.int .u8 0, .int .i64 0, .int .i64 0, .slice none 0 0, .slice none 0 0] 47); have L2 := hB2.lt)
    | (go_at_call 130; (with_reducible refine (lintG b T A m c bs 5 4 n 9 _ (by first | exact hB2 | exact hB2x) Hm.out hmc hc (hr.grown (by first | exact G2 | exact G2x) hne) (by omega) (by omega) E2.out V2.out I2.out (by omega)).mono ?_); rintro e w3 ⟨rfl, hB3, K3⟩; have G3 := gt (by first | exact G2 | exact G2x) K3; have hB3x := hB3.alloc (.cells #[.int .u8 0, .int .i64 0, .int .i64 0, .slice none 0 0, .slice none 0 0] 47); have G3x := galloc G3 (.cells #[.int .u8 0, .int .i64 0, .int .i64 0, .slice none 0 0, .slice none 0 0] 47); have L3 := hB3.lt)
    | (go_at_call 140; (with_reducible refine (ltextG b T A m c bs 9 t1 _ (by first | exact hB3 | exact hB3x) Hm.out hmc hc (hr.grown (by first | exact G3 | exact G3x) hne) (by omega) (by omega) hm8 ds E3.out V3.out I3.out).mono ?_); rintro e w4 ⟨D3, dc3, rfl, hO3, hB4, K4⟩; have G4 := gt (by first | exact G3 | exact G3x) K4; have hB4x := hB4.alloc (.cells #[.int .u8 0, .int .i64 0, .int .i64 0, .slice none 0 0, .slice none 0 0] 47); have G4x := galloc G4 (.cells #[.int .u8 0, .int .i64 0, .int .i64 0, .slice none 0 0, .slice none 0 0] 47); have L4 := hB4.lt)
    | (go_at_call 140; (with_reducible refine (ltext_bad b T A m c bs t1 x _ (by first | exact hB4 | exact hB4x) Hm.out hmc hc (hr.grown (by first | exact G4 | exact G4x) hne) (by omega) (by omega) hm8 EX.out NX.out).mono ?_); rintro e wx ⟨rfl, KX⟩; have GX := gt (by first | exact G4 | exact G4x) KX; refine twoWays (q := wpAny Tryz.prog Region.Mode.any #[] (fun _ _ _ => True) 0 #[] act0 wx) ⟨rfl, rfl, GX⟩ ?_))
  all_goals trivial
end Go.Proofs.YtkknkdjdneldlaaGreat
namespace Go.Proofs.YtkknkdjdneldlaaGreat
set_option maxRecDepth 20000
open Go.RowKit Go.Px
set_option linter.unusedVariables false
structure DecNo (bs : List UInt8) (k p n : Nat) (ds : List UInt8) (t1 : Int) (os : List UInt8) (t2 : Int) : Prop where
  e0 : getE bs 0 1 = 0
  v0 : getV bs 0 1 = k
  i0 : getI bs 0 1 = 1
  e1 : getE bs 1 4 = 0
  v1 : getV bs 1 4 = p
  i1 : getI bs 1 4 = 5
  e2 : getE bs 5 4 = 0
  v2 : getV bs 5 4 = n
  i2 : getI bs 5 4 = 9
  e3 : textE bs 9 = 0
  s3 : textS bs 9 = ds
  i3 : textI bs 9 = t1
  e4 : textE bs t1 = 0
  s4 : textS bs t1 = os
  i4 : textI bs t1 = t2
  hk : k < 256
  hp : p ≤ 4294967295
  hn : n ≤ 4294967295
  t0 : 0 ≤ t1 ∧ t1 ≤ 140737488355328
  f : fmE k p n ds.length os.length = 41
def OpBadB (x : Int) (B : Nat) (w : World) (e : Ending) (w' : World) : Prop := e = .panicked (stopped x) ∧ Below B w w'

set_option maxHeartbeats 25600000 in
theorem op_bad5 (b : Nat) (T : TypeId) (A : Option Addr) (m c : Nat) (bs : List UInt8) (k p n : Nat) (ds : List UInt8) (t1 : Int) (os : List UInt8) (t2 : Int) (B : Nat) (w : World) (hB : Blk w b [.slice A m c, .int .i64 0] T) (hm : bs.length = m) (hmc : m ≤ c) (hm8 : m ≤ 140737488355328) (hc : c ≤ 9223372036854775807) (hr : Rd w A (bys bs))
    (hlo : Lo B A) (hBb : B ≤ b) (ok : DecNo bs k p n ds t1 os t2) :
    Calls Tryz.prog 158 #[.pointer (some ⟨b, 0, none⟩)] w (OpBadB 42 B w) := by
  have hbl := hB.lt
  have hb0 : Below B w (w.alloc (.cells #[.int .u8 0, .int .i64 0, .int .i64 0, .slice none 0 0, .slice none 0 0] 47)) := (Below.refl _ _).alloc (by omega) _
  have hR : Blk (w.alloc (.cells #[.int .u8 0, .int .i64 0, .int .i64 0, .slice none 0 0, .slice none 0 0] 47)) w.heap.size [.int .u8 0, .int .i64 0, .int .i64 0, .slice none 0 0, .slice none 0 0] 47 := Blk.new w [.int .u8 0, .int .i64 0, .int .i64 0, .slice none 0 0, .slice none 0 0] _
  have hBa := hB.alloc (.cells #[.int .u8 0, .int .i64 0, .int .i64 0, .slice none 0 0, .slice none 0 0] 47)
  obtain ⟨gr, hgr⟩ : ∃ g, w.heap.size = g := ⟨_, rfl⟩
  obtain ⟨w0, hw0⟩ : ∃ w0, w.alloc (.cells #[.int .u8 0, .int .i64 0, .int .i64 0, .slice none 0 0, .slice none 0 0] 47) = w0 := ⟨_, rfl⟩
  rw [hw0] at hb0 hR hBa
  rw [hgr] at hR
  have hgb : b < gr := by omega
  have Hm := hide hm
  have Ok := hide ok
  have hkv := ok.hk
  have hpv := ok.hp
  have hnv := ok.hn
  have ht0 := ok.t0
  have hB0 : Blk w0.drew b [.slice A m c, .int .i64 0] T := hBa
  have hR0 : Blk w0.drew gr [.int .u8 0, .int .i64 0, .int .i64 0, .slice none 0 0, .slice none 0 0] 47 := hR
  have hbw0 : Below B w w0.drew := hb0.drew
  have hB0x : Blk (w0.alloc (.cells #[.int .u8 0, .int .i64 0, .int .i64 0, .slice none 0 0, .slice none 0 0] 47)).drew b [.slice A m c, .int .i64 0] T := (hBa.alloc _).drew
  have hR0x : Blk (w0.alloc (.cells #[.int .u8 0, .int .i64 0, .int .i64 0, .slice none 0 0, .slice none 0 0] 47)).drew gr [.int .u8 0, .int .i64 0, .int .i64 0, .slice none 0 0, .slice none 0 0] 47 := (hR.alloc _).drew
  have hbw0x : Below B w (w0.alloc (.cells #[.int .u8 0, .int .i64 0, .int .i64 0, .slice none 0 0, .slice none 0 0] 47)).drew := (hb0.alloc (by have := hBa.lt; omega) _).drew
  have hX0n : Blk (w0.alloc (.cells #[.int .u8 0, .int .i64 0, .int .i64 0, .slice none 0 0, .slice none 0 0] 47)).drew w0.heap.size [.int .u8 0, .int .i64 0, .int .i64 0, .slice none 0 0, .slice none 0 0] 47 := (Blk.new w0 [.int .u8 0, .int .i64 0, .int .i64 0, .slice none 0 0, .slice none 0 0] _).drew
  have hne0 : w0.heap.size ≠ b := by have := hBa.lt; omega
  have hkw : IntKind.u8.wrap (k : Int) = (k : Int) := by rw [IntKind.wrap_u8]; omega
  clear hm ok
  go_enter Tryz.func158, Tryz.ntmps158
  go_wp2
  go_region_with (first
    | (go_at_call 129; (with_reducible refine (lnumK b T A m c bs 0 1 k 1 _ (by first | exact hB0 | exact hB0x) Hm.out hmc hc (hr.lo hlo (by first | exact hbw0 | exact hbw0x)) (by omega) (by omega) Ok.out.e0 Ok.out.v0 Ok.out.i0).mono ?_); rintro x w1 ⟨rfl, hB1, hK1⟩; have hR1 := hK1.blk gr _ _ (by omega) (by first | exact hR0 | exact hR0x); have hsz1 : b < w1.heap.size := hB1.lt; have hbw1 : Below B w w1 := hK1.below B w hBb (Nat.le_trans hBb (Nat.le_of_lt (Blk.lt (by first | exact hB0 | exact hB0x)))) (by first | exact hbw0 | exact hbw0x); (first | (have hY := hK1.blk _ _ _ hne0 hX0n; have hYn := hne0) | (have hY := hK1.blk _ _ _ hYn hY) | skip); have hne1 : w1.heap.size ≠ b := (by omega); have hB1x := hB1.alloc (.cells #[.int .u8 0, .int .i64 0, .int .i64 0, .slice none 0 0, .slice none 0 0] 47); have hR1x := hR1.alloc (.cells #[.int .u8 0, .int .i64 0, .int .i64 0, .slice none 0 0, .slice none 0 0] 47); have hbw1x := hbw1.alloc (by omega) (.cells #[.int .u8 0, .int .i64 0, .int .i64 0, .slice none 0 0, .slice none 0 0] 47); have hX1n := Blk.new w1 [.int .u8 0, .int .i64 0, .int .i64 0, .slice none 0 0, .slice none 0 0] 47)
    | (go_at_call 130; (with_reducible refine (lintK b T A m c bs 1 4 p 5 _ (by first | exact hB1 | exact hB1x) Hm.out hmc hc (hr.lo hlo (by first | exact hbw1 | exact hbw1x)) (by omega) (by omega) Ok.out.e1 Ok.out.v1 Ok.out.i1 (by omega)).mono ?_); rintro x w2 ⟨rfl, hB2, hK2⟩; have hR2 := hK2.blk gr _ _ (by omega) (by first | exact hR1 | exact hR1x); have hsz2 : b < w2.heap.size := hB2.lt; have hbw2 : Below B w w2 := hK2.below B w hBb (Nat.le_trans hBb (Nat.le_of_lt (Blk.lt (by first | exact hB1 | exact hB1x)))) (by first | exact hbw1 | exact hbw1x); (first | (have hY := hK2.blk _ _ _ hne1 hX1n; have hYn := hne1) | (have hY := hK2.blk _ _ _ hYn hY) | skip); have hne2 : w2.heap.size ≠ b := (by omega); have hB2x := hB2.alloc (.cells #[.int .u8 0, .int .i64 0, .int .i64 0, .slice none 0 0, .slice none 0 0] 47); have hR2x := hR2.alloc (.cells #[.int .u8 0, .int .i64 0, .int .i64 0, .slice none 0 0, .slice none 0 0] 47); have hbw2x := hbw2.alloc (by omega) (.cells #[.int .u8 0, .int .i64 0, .int .i64 0, .slice none 0 0, .slice none 0 0] 47); have hX2n := Blk.new w2 [.int .u8 0, .int .i64 0, .int .i64 0, .slice none 0 0, .slice none 0 0] 47)
    | (go_at_call 130; (with_reducible refine (lintK b T A m c bs 5 4 n 9 _ (by first | exact hB2 | exact hB2x) Hm.out hmc hc (hr.lo hlo (by first | exact hbw2 | exact hbw2x)) (by omega) (by omega) Ok.out.e2 Ok.out.v2 Ok.out.i2 (by omega)).mono ?_); rintro x w3 ⟨rfl, hB3, hK3⟩; have hR3 := hK3.blk gr _ _ (by omega) (by first | exact hR2 | exact hR2x); have hsz3 : b < w3.heap.size := hB3.lt; have hbw3 : Below B w w3 := hK3.below B w hBb (Nat.le_trans hBb (Nat.le_of_lt (Blk.lt (by first | exact hB2 | exact hB2x)))) (by first | exact hbw2 | exact hbw2x); (first | (have hY := hK3.blk _ _ _ hne2 hX2n; have hYn := hne2) | (have hY := hK3.blk _ _ _ hYn hY) | skip); have hne3 : w3.heap.size ≠ b := (by omega); have hB3x := hB3.alloc (.cells #[.int .u8 0, .int .i64 0, .int .i64 0, .slice none 0 0, .slice none 0 0] 47); have hR3x := hR3.alloc (.cells #[.int .u8 0, .int .i64 0, .int .i64 0, .slice none 0 0, .slice none 0 0] 47); have hbw3x := hbw3.alloc (by omega) (.cells #[.int .u8 0, .int .i64 0, .int .i64 0, .slice none 0 0, .slice none 0 0] 47); have hX3n := Blk.new w3 [.int .u8 0, .int .i64 0, .int .i64 0, .slice none 0 0, .slice none 0 0] 47)
    | (go_at_call 140; (with_reducible refine (ltextK b T A m c bs 9 t1 _ (by first | exact hB3 | exact hB3x) Hm.out hmc hc (hr.lo hlo (by first | exact hbw3 | exact hbw3x)) (by omega) (by omega) hm8 ds Ok.out.e3 Ok.out.s3 Ok.out.i3).mono ?_); rintro x w4 ⟨D, dc, rfl, hD4, hB4, hK4⟩; have hR4 := hK4.blk gr _ _ (by omega) (by first | exact hR3 | exact hR3x); have hsz4 : b < w4.heap.size := hB4.lt; have hbw4 : Below B w w4 := hK4.below B w hBb (Nat.le_trans hBb (Nat.le_of_lt (Blk.lt (by first | exact hB3 | exact hB3x)))) (by first | exact hbw3 | exact hbw3x); (first | (have hY := hK4.blk _ _ _ hne3 hX3n; have hYn := hne3) | (have hY := hK4.blk _ _ _ hYn hY) | skip); have hne4 : w4.heap.size ≠ b := (by omega); have hB4x := hB4.alloc (.cells #[.int .u8 0, .int .i64 0, .int .i64 0, .slice none 0 0, .slice none 0 0] 47); have hR4x := hR4.alloc (.cells #[.int .u8 0, .int .i64 0, .int .i64 0, .slice none 0 0, .slice none 0 0] 47); have hbw4x := hbw4.alloc (by omega) (.cells #[.int .u8 0, .int .i64 0, .int .i64 0, .slice none 0 0, .slice none 0 0] 47); have hX4n := Blk.new w4 [.int .u8 0, .int .i64 0, .int .i64 0, .slice none 0 0, .slice none 0 0] 47; have hDb : b < w3.heap.size := hB3.lt)
    | (go_at_call 140; (with_reducible refine (ltextK b T A m c bs t1 t2 _ (by first | exact hB4 | exact hB4x) Hm.out hmc hc (hr.lo hlo (by first | exact hbw4 | exact hbw4x)) (by omega) (by omega) hm8 os Ok.out.e4 Ok.out.s4 Ok.out.i4).mono ?_); rintro x w5 ⟨O, oc, rfl, hO5, hB5, hK5⟩; have hR5 := hK5.blk gr _ _ (by omega) (by first | exact hR4 | exact hR4x); have hsz5 : b < w5.heap.size := hB5.lt; have hbw5 : Below B w w5 := hK5.below B w hBb (Nat.le_trans hBb (Nat.le_of_lt (Blk.lt (by first | exact hB4 | exact hB4x)))) (by first | exact hbw4 | exact hbw4x); (first | (have hY := hK5.blk _ _ _ hne4 hX4n; have hYn := hne4) | (have hY := hK5.blk _ _ _ hYn hY) | skip); have hne5 : w5.heap.size ≠ b := (by omega); have hB5x := hB5.alloc (.cells #[.int .u8 0, .int .i64 0, .int .i64 0, .slice none 0 0, .slice none 0 0] 47); have hR5x := hR5.alloc (.cells #[.int .u8 0, .int .i64 0, .int .i64 0, .slice none 0 0, .slice none 0 0] 47); have hbw5x := hbw5.alloc (by omega) (.cells #[.int .u8 0, .int .i64 0, .int .i64 0, .slice none 0 0, .slice none 0 0] 47); have hX5n := Blk.new w5 [.int .u8 0, .int .i64 0, .int .i64 0, .slice none 0 0, .slice none 0 0] 47; (first | (have y0 := hY.cell (j := 0) rfl; have z0 := hY.frozen 0; have y1 := hY.cell (j := 1) rfl; have z1 := hY.frozen 1; have y2 := hY.cell (j := 2) rfl; have z2 := hY.frozen 2; have y3 := hY.cell (j := 3) rfl; have z3 := hY.frozen 3; have y4 := hY.cell (j := 4) rfl; have z4 := hY.frozen 4) | skip)))
  all_goals
    go_wp2_with fail
  all_goals
    have s1 := hK1.size
    have s2 := hK2.size
    have s3 := hK3.size
    have s4 := hK4.size
    have s5 := hK5.size
    have s0 := hR.lt
    first
      | (have oD := hK5.own _ _ _ _ _ (by first | exact hDb | (rw [szA]; omega)) hD4)
      | (have oD := hK5.own _ _ _ _ _ (by first | exact hDb | (rw [szA]; omega)) (World.ownsRow.alloc hD4 _))
    have pD := (Put.of hD4).on (Put.of oD)
    have pO := Put.of hO5
    (try simp only [szA, szD] at s1 s2 s3 s4 s5 pD pO)
    refine (form_any k p n D ds.length dc O os.length oc _ hkv).mono ?_
    rintro x w6 ⟨hx, hb6⟩
    rw [Ok.out.f] at hx
    subst hx
    have sz0 := hBa.lt
    have gW : Below B w w6 := Below.trans (by first | with_reducible exact hbw5.alloc (by omega) _ | with_reducible exact ((((hbw5.setCell (le_blk (by omega)) _).setCell (le_blk (by omega)) _).setCell (le_blk (by omega)) _).setCell (le_blk (by omega)) _).setCell (le_blk (by omega)) _) (hb6.mono (by simp; omega))
    go_wp2_with fail
    refine (stop_bad 42 (by decide) _).mono ?_
    rintro e wx ⟨rfl, rfl⟩
    exact ⟨rfl, rfl, gW⟩
end Go.Proofs.YtkknkdjdneldlaaGreat
namespace Go.Proofs.YtkknkdjdneldlaaGreat
set_option maxRecDepth 20000
open Go.RowKit Go.Px
set_option linter.unusedVariables false
theorem wp_noexit {P : Program} {c : Code} {K : Act → World → Prop} {Q : Exit → Act → World → Prop} {a : Act} {w : World} (h : c.wp P (Exit.then K (fun _ _ _ => False)) a w) : c.wp P (Exit.then K Q) a w :=
  Code.wp_mono (fun e a w h => by cases e <;> first | exact h | exact h.elim) h
theorem of_any (A : Option Addr) (m c : Nat) (w : World) : Calls Tryz.prog 72 #[.slice A m c] w fun e w' => e = .returned (.agg #[.slice A m c, .int .i64 0]) ∧ Below w.heap.size w w' := by
  go_enter Tryz.func72, Tryz.ntmps72
  go_wp2
  refine bodyPost_ret (results_cell rfl rfl (Blk.new w [.slice A m c, .int .i64 0] _) Tryz.underlying122 rfl (by kernel_rfl)) rfl ?_
  exact ⟨rfl, (Below.refl _ _).alloc (Nat.le_refl _) _⟩
theorem at_any (b : Nat) (T : TypeId) (u : Value) (i : Int) (w : World) (hB : Blk w b [u, .int .i64 i] T) : Calls Tryz.prog 76 #[.pointer (some ⟨b, 0, none⟩)] w fun e w' => e = .returned (.int .i64 i) ∧ w = w' := by
  have x1 := hB.cell (j := 1) rfl
  go_enter Tryz.func76, Tryz.ntmps76
  go_wp2
  go_ret
  exact ⟨rfl, rfl⟩
theorem below_of_grown {b : Nat} {w w' : World} (h : w.grownBy w' (some b)) (hb : b ≤ w.heap.size) : Below b w w' :=
  ⟨h.os, h.tape, h.output, h.size, fun k hk => h.block k (Nat.lt_of_lt_of_le hk hb) (by intro e; injection e with e; omega)⟩
set_option maxHeartbeats 3200000 in
theorem dec_bad (A : Option Addr) (m c : Nat) (bs : List UInt8) (x : Int) (w : World) (hr : Rd w A (bys bs))
    (HOP : ∀ b w2, Blk w2 b [.slice A m c, .int .i64 0] 203 → Rd w2 A (bys bs) → w.heap.size + 2 ≤ b → Calls Tryz.prog 158 #[.pointer (some ⟨b, 0, none⟩)] w2 fun e w' => e = .panicked (stopped x) ∧ Below b w2 w') :
    Calls Tryz.prog 131 #[.slice A m c] w fun e w' => e = .returned (.tuple #[opv 0 0 0 none 0 0 none 0 0, .int .i64 0, .int .i64 x]) ∧ Below w.heap.size w w' := by
  have hmf : ∀ (fn : Fn) (first cap : Array Value) (w : World), (Instr.makeFunc fn first cap).run Tryz.prog w = .ok (.func fn first cap) w := fun _ _ _ _ => rfl
  obtain ⟨g, hg⟩ : ∃ g, w.heap.size = g := ⟨_, rfl⟩
  obtain ⟨w0, hw0⟩ : ∃ w0, (w.alloc (.cells #[.int .u8 0, .int .i64 0, .int .i64 0, .slice none 0 0, .slice none 0 0] 47)).alloc (.cells #[.int .i64 0] 41) = w0 := ⟨_, rfl⟩
  have hR : Blk w0 g [.int .u8 0, .int .i64 0, .int .i64 0, .slice none 0 0, .slice none 0 0] 47 := by rw [← hw0, ← hg]; exact (Blk.new w [.int .u8 0, .int .i64 0, .int .i64 0, .slice none 0 0, .slice none 0 0] _).alloc _
  have hE : Blk w0 (g + 1) [.int .i64 0] 41 := by
    rw [← hw0, ← hg]
    have := Blk.new (w.alloc (.cells #[.int .u8 0, .int .i64 0, .int .i64 0, .slice none 0 0, .slice none 0 0] 47)) [.int .i64 0] 41
    rwa [World.size_alloc] at this
  have hb0 : Below w.heap.size w w0 := by rw [← hw0]; exact ((Below.refl _ _).alloc (Nat.le_refl _) _).alloc (by simp) _
  have hr0 := hr.below hb0
  have HO := hide HOP
  clear HOP
  go_enter_defers Tryz.func131, Tryz.ntmps131
  go_wp2_with fail
  go_fit (of_any A m c w0)
  rintro e w1 ⟨rfl, hb1⟩
  have hR1 := hR.below hb1
  have hE1 := hE.below hb1
  have hr1 := hr0.below hb1
  have hb01 := hb0.trans (hb1.mono hb0.size)
  have sz1 := hE1.lt
  obtain ⟨b, hb⟩ : ∃ b, w1.heap.size = b := ⟨_, rfl⟩
  obtain ⟨w2, hw2⟩ : ∃ w2, w1.alloc (.cells #[.slice A m c, .int .i64 0] 203) = w2 := ⟨_, rfl⟩
  have hB2 : Blk w2 b [.slice A m c, .int .i64 0] 203 := by rw [← hw2, ← hb]; exact Blk.new w1 [.slice A m c, .int .i64 0] _
  have hb12 : Below w1.heap.size w1 w2 := by rw [← hw2]; exact (Below.refl _ _).alloc (Nat.le_refl _) _
  have hR2 := hR1.below hb12
  have hE2 := hE1.below hb12
  have hr2 := hr1.below hb12
  have hb02 := hb01.trans (hb12.mono hb01.size)
  have Hw2 := hide hw2
  clear hw2
  go_wp2_with fail
  rw [Hw2.out]
  go_fit (HO.out b w2 hB2 hr2 (by omega))
  rintro e w3 ⟨rfl, hb3⟩
  have hR3 := hR2.lo hb3 (by omega)
  have hE3 := hE2.lo hb3 (by omega)
  have hb03 := hb02.trans (hb3.mono (by omega))
  refine leaves_cons (f := 157) (args := #[.pointer (some ⟨g + 1, 0, none⟩)]) (by simp) (by simp [go_sem]) ?_
  refine (recov_any ⟨g + 1, 0, none⟩ x 0 _ (hE3.cell (j := 0) rfl) (hE3.frozen 0) hE3.lt).mono ?_
  rintro e u w6 ⟨rfl, rfl, rfl⟩
  have hR6 := (hR3.drew.alloc (.cells #[.int .i64 x] 178)).apart (k := g + 1) (by omega) 0 (.int .i64 x)
  have hE6 := (hE3.drew.alloc (.cells #[.int .i64 x] 178)).set 0 (.int .i64 x)
  refine ⟨_, results_cie rfl rfl rfl hR6 Tryz.underlying47 rfl (by kernel_rfl) (hE6.cell (j := 0) rfl) Tryz.underlying41, rfl, ?_⟩
  exact (hb03.drew.alloc (by have := hR3.lt; simp [hg]; omega) _).setCell (by show w.heap.size ≤ g + 1; omega) _
end Go.Proofs.YtkknkdjdneldlaaGreat
namespace Go.Proofs.YtkknkdjdneldlaaGreat
set_option maxRecDepth 20000
open Go.RowKit Go.Px
set_option linter.unusedVariables false
set_option linter.unusedSimpArgs false
theorem own_cap {w : World} {base e size n c : Nat} {A : Option Addr} {xs : List Value} (h : w.ownsRow base e size (.slice A n c) n xs) : n ≤ c ∧ c ≤ 9223372036854775807 := by
  obtain ⟨_, _, hv, _, h1, h2, _⟩ := own_out h
  injection hv with e1 e2 e3
  subst e3
  unfold maxLen at h2
  exact ⟨h1, by omega⟩
def OpIsC (b : Nat) (T : TypeId) (A : Option Addr) (m c : Nat) (k p n : Nat) (ds os : List UInt8) (t2 : Int) (B : Nat) (w : World) (e : Ending) (w' : World) : Prop :=
  ∃ D dc O oc, e = .returned (opv k p n D ds.length dc O os.length oc) ∧ Rd w' D (bys ds) ∧ Rd w' O (bys os) ∧ Up B D ∧ Up B O ∧ Blk w' b [.slice A m c, .int .i64 t2] T ∧ Below B w w' ∧ (ds.length ≤ dc ∧ dc ≤ 9223372036854775807 ∧ os.length ≤ oc ∧ oc ≤ 9223372036854775807)
def DecIsC (k p n : Nat) (ds os : List UInt8) (t2 : Int) (w : World) (e : Ending) (w' : World) : Prop :=
  ∃ D dc O oc, e = .returned (.tuple #[opv k p n D ds.length dc O os.length oc, .int .i64 t2, .int .i64 0]) ∧ Rd w' D (bys ds) ∧ Rd w' O (bys os) ∧ Up w.heap.size D ∧ Up w.heap.size O ∧ Below w.heap.size w w' ∧ (ds.length ≤ dc ∧ dc ≤ 9223372036854775807 ∧ os.length ≤ oc ∧ oc ≤ 9223372036854775807)
def DecAnyC (bs : List UInt8) (w : World) (e : Ending) (w' : World) : Prop :=
  ∃ D dc O oc, e = .returned (.tuple #[opv (opK bs) (opP bs) (opN bs) D (opD bs).length dc O (opO bs).length oc, .int .i64 (opT bs), .int .i64 (opE bs)]) ∧ Rd w' D (bys (opD bs)) ∧ Rd w' O (bys (opO bs)) ∧ Up w.heap.size D ∧ Up w.heap.size O ∧ Below w.heap.size w w' ∧ ((opD bs).length ≤ dc ∧ dc ≤ 9223372036854775807 ∧ (opO bs).length ≤ oc ∧ oc ≤ 9223372036854775807)
theorem decAnyC_bad {bs : List UInt8} {x : Int} {w : World} {e : Ending} {w' : World} (hx : opE bs = x) (h0 : x ≠ 0) (h : e = .returned (.tuple #[opv 0 0 0 none 0 0 none 0 0, .int .i64 0, .int .i64 x]) ∧ Below w.heap.size w w') : DecAnyC bs w e w' := by
  obtain ⟨rfl, hb⟩ := h
  obtain ⟨h1, h2, h3, h4, h5, h6⟩ := opE_no (show opE bs ≠ 0 by rw [hx]; exact h0)
  unfold DecAnyC
  rw [h1, h2, h3, h4, h5, h6, hx]
  exact ⟨none, 0, none, 0, rfl, Rd.nil, Rd.nil, (fun a ha => by cases ha), (fun a ha => by cases ha), hb, by simp⟩
set_option maxHeartbeats 25600000 in
theorem op_anyC (b : Nat) (T : TypeId) (A : Option Addr) (m c : Nat) (bs : List UInt8) (k p n : Nat) (ds : List UInt8) (t1 : Int) (os : List UInt8) (t2 : Int) (B : Nat) (w : World) (hB : Blk w b [.slice A m c, .int .i64 0] T) (hm : bs.length = m) (hmc : m ≤ c) (hm8 : m ≤ 140737488355328) (hc : c ≤ 9223372036854775807) (hr : Rd w A (bys bs))
    (hlo : Lo B A) (hBb : B ≤ b) (ok : DecOk bs k p n ds t1 os t2) :
    Calls Tryz.prog 158 #[.pointer (some ⟨b, 0, none⟩)] w (OpIsC b T A m c k p n ds os t2 B w) := by
  have hbl := hB.lt
  have hb0 : Below B w (w.alloc (.cells #[.int .u8 0, .int .i64 0, .int .i64 0, .slice none 0 0, .slice none 0 0] 47)) := (Below.refl _ _).alloc (by omega) _
  have hR : Blk (w.alloc (.cells #[.int .u8 0, .int .i64 0, .int .i64 0, .slice none 0 0, .slice none 0 0] 47)) w.heap.size [.int .u8 0, .int .i64 0, .int .i64 0, .slice none 0 0, .slice none 0 0] 47 := Blk.new w [.int .u8 0, .int .i64 0, .int .i64 0, .slice none 0 0, .slice none 0 0] _
  have hBa := hB.alloc (.cells #[.int .u8 0, .int .i64 0, .int .i64 0, .slice none 0 0, .slice none 0 0] 47)
  obtain ⟨gr, hgr⟩ : ∃ g, w.heap.size = g := ⟨_, rfl⟩
  obtain ⟨w0, hw0⟩ : ∃ w0, w.alloc (.cells #[.int .u8 0, .int .i64 0, .int .i64 0, .slice none 0 0, .slice none 0 0] 47) = w0 := ⟨_, rfl⟩
  rw [hw0] at hb0 hR hBa
  rw [hgr] at hR
  have hgb : b < gr := by omega
  have Hm := hide hm
  have Ok := hide ok
  have hkv := ok.hk
  have hpv := ok.hp
  have hnv := ok.hn
  have ht0 := ok.t0
  have hB0 : Blk w0.drew b [.slice A m c, .int .i64 0] T := hBa
  have hR0 : Blk w0.drew gr [.int .u8 0, .int .i64 0, .int .i64 0, .slice none 0 0, .slice none 0 0] 47 := hR
  have hbw0 : Below B w w0.drew := hb0.drew
  have hB0x : Blk (w0.alloc (.cells #[.int .u8 0, .int .i64 0, .int .i64 0, .slice none 0 0, .slice none 0 0] 47)).drew b [.slice A m c, .int .i64 0] T := (hBa.alloc _).drew
  have hR0x : Blk (w0.alloc (.cells #[.int .u8 0, .int .i64 0, .int .i64 0, .slice none 0 0, .slice none 0 0] 47)).drew gr [.int .u8 0, .int .i64 0, .int .i64 0, .slice none 0 0, .slice none 0 0] 47 := (hR.alloc _).drew
  have hbw0x : Below B w (w0.alloc (.cells #[.int .u8 0, .int .i64 0, .int .i64 0, .slice none 0 0, .slice none 0 0] 47)).drew := (hb0.alloc (by have := hBa.lt; omega) _).drew
  have hX0n : Blk (w0.alloc (.cells #[.int .u8 0, .int .i64 0, .int .i64 0, .slice none 0 0, .slice none 0 0] 47)).drew w0.heap.size [.int .u8 0, .int .i64 0, .int .i64 0, .slice none 0 0, .slice none 0 0] 47 := (Blk.new w0 [.int .u8 0, .int .i64 0, .int .i64 0, .slice none 0 0, .slice none 0 0] _).drew
  have hne0 : w0.heap.size ≠ b := by have := hBa.lt; omega
  have hkw : IntKind.u8.wrap (k : Int) = (k : Int) := by rw [IntKind.wrap_u8]; omega
  clear hm ok
  go_enter Tryz.func158, Tryz.ntmps158
  go_wp2
  go_region_with (first
    | (go_at_call 129; (with_reducible refine (lnumK b T A m c bs 0 1 k 1 _ (by first | exact hB0 | exact hB0x) Hm.out hmc hc (hr.lo hlo (by first | exact hbw0 | exact hbw0x)) (by omega) (by omega) Ok.out.e0 Ok.out.v0 Ok.out.i0).mono ?_); rintro x w1 ⟨rfl, hB1, hK1⟩; have hR1 := hK1.blk gr _ _ (by omega) (by first | exact hR0 | exact hR0x); have hsz1 : b < w1.heap.size := hB1.lt; have hbw1 : Below B w w1 := hK1.below B w hBb (Nat.le_trans hBb (Nat.le_of_lt (Blk.lt (by first | exact hB0 | exact hB0x)))) (by first | exact hbw0 | exact hbw0x); (first | (have hY := hK1.blk _ _ _ hne0 hX0n; have hYn := hne0) | (have hY := hK1.blk _ _ _ hYn hY) | skip); have hne1 : w1.heap.size ≠ b := (by omega); have hB1x := hB1.alloc (.cells #[.int .u8 0, .int .i64 0, .int .i64 0, .slice none 0 0, .slice none 0 0] 47); have hR1x := hR1.alloc (.cells #[.int .u8 0, .int .i64 0, .int .i64 0, .slice none 0 0, .slice none 0 0] 47); have hbw1x := hbw1.alloc (by omega) (.cells #[.int .u8 0, .int .i64 0, .int .i64 0, .slice none 0 0, .slice none 0 0] 47); have hX1n := Blk.new w1 [.int .u8 0, .int .i64 0, .int .i64 0, .slice none 0 0, .slice none 0 0] 47)
    | (go_at_call 130; (with_reducible refine (lintK b T A m c bs 1 4 p 5 _ (by first | exact hB1 | exact hB1x) Hm.out hmc hc (hr.lo hlo (by first | exact hbw1 | exact hbw1x)) (by omega) (by omega) Ok.out.e1 Ok.out.v1 Ok.out.i1 (by omega)).mono ?_); rintro x w2 ⟨rfl, hB2, hK2⟩; have hR2 := hK2.blk gr _ _ (by omega) (by first | exact hR1 | exact hR1x); have hsz2 : b < w2.heap.size := hB2.lt; have hbw2 : Below B w w2 := hK2.below B w hBb (Nat.le_trans hBb (Nat.le_of_lt (Blk.lt (by first | exact hB1 | exact hB1x)))) (by first | exact hbw1 | exact hbw1x); (first | (have hY := hK2.blk _ _ _ hne1 hX1n; have hYn := hne1) | (have hY := hK2.blk _ _ _ hYn hY) | skip); have hne2 : w2.heap.size ≠ b := (by omega); have hB2x := hB2.alloc (.cells #[.int .u8 0, .int .i64 0, .int .i64 0, .slice none 0 0, .slice none 0 0] 47); have hR2x := hR2.alloc (.cells #[.int .u8 0, .int .i64 0, .int .i64 0, .slice none 0 0, .slice none 0 0] 47); have hbw2x := hbw2.alloc (by omega) (.cells #[.int .u8 0, .int .i64 0, .int .i64 0, .slice none 0 0, .slice none 0 0] 47); have hX2n := Blk.new w2 [.int .u8 0, .int .i64 0, .int .i64 0, .slice none 0 0, .slice none 0 0] 47)
    | (go_at_call 130; (with_reducible refine (lintK b T A m c bs 5 4 n 9 _ (by first | exact hB2 | exact hB2x) Hm.out hmc hc (hr.lo hlo (by first | exact hbw2 | exact hbw2x)) (by omega) (by omega) Ok.out.e2 Ok.out.v2 Ok.out.i2 (by omega)).mono ?_); rintro x w3 ⟨rfl, hB3, hK3⟩; have hR3 := hK3.blk gr _ _ (by omega) (by first | exact hR2 | exact hR2x); have hsz3 : b < w3.heap.size := hB3.lt; have hbw3 : Below B w w3 := hK3.below B w hBb (Nat.le_trans hBb (Nat.le_of_lt (Blk.lt (by first | exact hB2 | exact hB2x)))) (by first | exact hbw2 | exact hbw2x); (first | (have hY := hK3.blk _ _ _ hne2 hX2n; have hYn := hne2) | (have hY := hK3.blk _ _ _ hYn hY) | skip); have hne3 : w3.heap.size ≠ b := (by omega); have hB3x := hB3.alloc (.cells #[.int .u8 0, .int .i64 0, .int .i64 0, .slice none 0 0, .slice none 0 0] 47); have hR3x := hR3.alloc (.cells #[.int .u8 0, .int .i64 0, .int .i64 0, .slice none 0 0, .slice none 0 0] 47); have hbw3x := hbw3.alloc (by omega) (.cells #[.int .u8 0, .int .i64 0, .int .i64 0, .slice none 0 0, .slice none 0 0] 47); have hX3n := Blk.new w3 [.int .u8 0, .int .i64 0, .int .i64 0, .slice none 0 0, .slice none 0 0] 47)
    | (go_at_call 140; (with_reducible refine (ltextK b T A m c bs 9 t1 _ (by first | exact hB3 | exact hB3x) Hm.out hmc hc (hr.lo hlo (by first | exact hbw3 | exact hbw3x)) (by omega) (by omega) hm8 ds Ok.out.e3 Ok.out.s3 Ok.out.i3).mono ?_); rintro x w4 ⟨D, dc, rfl, hD4, hB4, hK4⟩; have hR4 := hK4.blk gr _ _ (by omega) (by first | exact hR3 | exact hR3x); have hsz4 : b < w4.heap.size := hB4.lt; have hbw4 : Below B w w4 := hK4.below B w hBb (Nat.le_trans hBb (Nat.le_of_lt (Blk.lt (by first | exact hB3 | exact hB3x)))) (by first | exact hbw3 | exact hbw3x); (first | (have hY := hK4.blk _ _ _ hne3 hX3n; have hYn := hne3) | (have hY := hK4.blk _ _ _ hYn hY) | skip); have hne4 : w4.heap.size ≠ b := (by omega); have hB4x := hB4.alloc (.cells #[.int .u8 0, .int .i64 0, .int .i64 0, .slice none 0 0, .slice none 0 0] 47); have hR4x := hR4.alloc (.cells #[.int .u8 0, .int .i64 0, .int .i64 0, .slice none 0 0, .slice none 0 0] 47); have hbw4x := hbw4.alloc (by omega) (.cells #[.int .u8 0, .int .i64 0, .int .i64 0, .slice none 0 0, .slice none 0 0] 47); have hX4n := Blk.new w4 [.int .u8 0, .int .i64 0, .int .i64 0, .slice none 0 0, .slice none 0 0] 47; have hDb : b < w3.heap.size := hB3.lt)
    | (go_at_call 140; (with_reducible refine (ltextK b T A m c bs t1 t2 _ (by first | exact hB4 | exact hB4x) Hm.out hmc hc (hr.lo hlo (by first | exact hbw4 | exact hbw4x)) (by omega) (by omega) hm8 os Ok.out.e4 Ok.out.s4 Ok.out.i4).mono ?_); rintro x w5 ⟨O, oc, rfl, hO5, hB5, hK5⟩; have hR5 := hK5.blk gr _ _ (by omega) (by first | exact hR4 | exact hR4x); have hsz5 : b < w5.heap.size := hB5.lt; have hbw5 : Below B w w5 := hK5.below B w hBb (Nat.le_trans hBb (Nat.le_of_lt (Blk.lt (by first | exact hB4 | exact hB4x)))) (by first | exact hbw4 | exact hbw4x); (first | (have hY := hK5.blk _ _ _ hne4 hX4n; have hYn := hne4) | (have hY := hK5.blk _ _ _ hYn hY) | skip); have hne5 : w5.heap.size ≠ b := (by omega); have hB5x := hB5.alloc (.cells #[.int .u8 0, .int .i64 0, .int .i64 0, .slice none 0 0, .slice none 0 0] 47); have hR5x := hR5.alloc (.cells #[.int .u8 0, .int .i64 0, .int .i64 0, .slice none 0 0, .slice none 0 0] 47); have hbw5x := hbw5.alloc (by omega) (.cells #[.int .u8 0, .int .i64 0, .int .i64 0, .slice none 0 0, .slice none 0 0] 47); have hX5n := Blk.new w5 [.int .u8 0, .int .i64 0, .int .i64 0, .slice none 0 0, .slice none 0 0] 47; (first | (have y0 := hY.cell (j := 0) rfl; have z0 := hY.frozen 0; have y1 := hY.cell (j := 1) rfl; have z1 := hY.frozen 1; have y2 := hY.cell (j := 2) rfl; have z2 := hY.frozen 2; have y3 := hY.cell (j := 3) rfl; have z3 := hY.frozen 3; have y4 := hY.cell (j := 4) rfl; have z4 := hY.frozen 4) | skip)))
  all_goals
    go_wp2_with fail
  all_goals
    have cD := own_cap hD4
    have cO := own_cap hO5
    have s1 := hK1.size
    have s2 := hK2.size
    have s3 := hK3.size
    have s4 := hK4.size
    have s5 := hK5.size
    have s0 := hR.lt
    first
      | (have oD := hK5.own _ _ _ _ _ (by first | exact hDb | (rw [szA]; omega)) hD4)
      | (have oD := hK5.own _ _ _ _ _ (by first | exact hDb | (rw [szA]; omega)) (World.ownsRow.alloc hD4 _))
    have pD := (Put.of hD4).on (Put.of oD)
    have pO := Put.of hO5
    (try simp only [szA, szD] at s1 s2 s3 s4 s5 pD pO)
    refine (form_any k p n D ds.length dc O os.length oc _ hkv).mono ?_
    rintro x w6 ⟨hx, hb6⟩
    rw [Ok.out.f] at hx
    subst hx
    have gB : Blk w6 b [.slice A m c, .int .i64 t2] T := Blk.below (by first | with_reducible exact hB5.alloc _ | with_reducible exact ((((hB5.apart (Ne.symm hYn) 0 _).apart (Ne.symm hYn) 1 _).apart (Ne.symm hYn) 2 _).apart (Ne.symm hYn) 3 _).apart (Ne.symm hYn) 4 _) hb6
    have gR : Blk w6 gr [.int .u8 0, .int .i64 0, .int .i64 0, .slice none 0 0, .slice none 0 0] 47 := Blk.below (by first | with_reducible exact hR5.alloc _ | with_reducible exact ((((hR5.apart (by omega) 0 _).apart (by omega) 1 _).apart (by omega) 2 _).apart (by omega) 3 _).apart (by omega) 4 _) hb6
    have gD : Put w6 D (bys ds) _ _ := Put.below (by first | with_reducible exact pD.alloc _ | with_reducible exact ((((pD.set (by omega) 0 _).set (by omega) 1 _).set (by omega) 2 _).set (by omega) 3 _).set (by omega) 4 _) hb6
    have gO : Put w6 O (bys os) _ _ := Put.below (by first | with_reducible exact pO.alloc _ | with_reducible exact ((((pO.set (by omega) 0 _).set (by omega) 1 _).set (by omega) 2 _).set (by omega) 3 _).set (by omega) 4 _) hb6
    have sz0 := hBa.lt
    have gW : Below B w w6 := Below.trans (by first | with_reducible exact hbw5.alloc (by omega) _ | with_reducible exact ((((hbw5.setCell (le_blk (by omega)) _).setCell (le_blk (by omega)) _).setCell (le_blk (by omega)) _).setCell (le_blk (by omega)) _).setCell (le_blk (by omega)) _) (hb6.mono (by simp; omega))
    have gV := Blk.below (vs := [.int .u8 k, .int .i64 p, .int .i64 n, .slice D ds.length dc, .slice O os.length oc]) (T := 47) (by first | with_reducible exact Blk.new w5 [.int .u8 k, .int .i64 p, .int .i64 n, .slice D ds.length dc, .slice O os.length oc] _ | exact ((((hY.set 0 (.int .u8 k)).set 1 (.int .i64 p)).set 2 (.int .i64 n)).set 3 (.slice D ds.length dc)).set 4 (.slice O os.length oc)) hb6
    go_wp2_with (first | (with_reducible refine stop_load 47 rfl ?_) | (with_reducible refine stop_store 47 rfl ?_))
    refine go_load rfl rfl rfl gV Tryz.underlying47 rfl (by kernel_rfl) ?_
    go_wp2_with (first | (with_reducible refine stop_load 47 rfl ?_) | (with_reducible refine stop_store 47 rfl ?_))
    refine go_store rfl rfl rfl rfl rfl gR (by kernel_rfl) rfl (op_one _ _ _ _ _ _ _ _ _) ?_
    go_wp2_with fail
    have fD := gD.setRow (g := gr) (by omega) [.int .u8 k, .int .i64 p, .int .i64 n, .slice D ds.length dc, .slice O os.length oc]
    have fO := gO.setRow (g := gr) (by omega) [.int .u8 k, .int .i64 p, .int .i64 n, .slice D ds.length dc, .slice O os.length oc]
    refine bodyPost_ret (results_cell rfl rfl (gR.setAll [.int .u8 k, .int .i64 p, .int .i64 n, .slice D ds.length dc, .slice O os.length oc]) Tryz.underlying47 rfl (by kernel_rfl)) rfl ?_
    exact ⟨D, dc, O, oc, rfl, fD.rd, fO.rd, fun a ha => Nat.le_trans (by omega) (fD.at_ a ha).1, fun a ha => Nat.le_trans (by omega) (fO.at_ a ha).1, gB.apartAll (by omega) _, below_setRow gW (by omega) _, cD.1, cD.2, cO.1, cO.2⟩
set_option maxHeartbeats 3200000 in
theorem dec_okC (A : Option Addr) (m c : Nat) (bs : List UInt8) (k p n : Nat) (ds : List UInt8) (t1 : Int) (os : List UInt8) (t2 : Int) (w : World) (hm : bs.length = m) (hmc : m ≤ c) (hm8 : m ≤ 140737488355328) (hc : c ≤ 9223372036854775807) (hr : Rd w A (bys bs))
    (hlo : Lo w.heap.size A) (ok : DecOk bs k p n ds t1 os t2) :
    Calls Tryz.prog 131 #[.slice A m c] w (DecIsC k p n ds os t2 w) := by
  have hmf : ∀ (fn : Fn) (first cap : Array Value) (w : World), (Instr.makeFunc fn first cap).run Tryz.prog w = .ok (.func fn first cap) w := fun _ _ _ _ => rfl
  obtain ⟨g, hg⟩ : ∃ g, w.heap.size = g := ⟨_, rfl⟩
  obtain ⟨w0, hw0⟩ : ∃ w0, (w.alloc (.cells #[.int .u8 0, .int .i64 0, .int .i64 0, .slice none 0 0, .slice none 0 0] 47)).alloc (.cells #[.int .i64 0] 41) = w0 := ⟨_, rfl⟩
  have hR : Blk w0 g [.int .u8 0, .int .i64 0, .int .i64 0, .slice none 0 0, .slice none 0 0] 47 := by rw [← hw0, ← hg]; exact (Blk.new w [.int .u8 0, .int .i64 0, .int .i64 0, .slice none 0 0, .slice none 0 0] _).alloc _
  have hE : Blk w0 (g + 1) [.int .i64 0] 41 := by
    rw [← hw0, ← hg]
    have := Blk.new (w.alloc (.cells #[.int .u8 0, .int .i64 0, .int .i64 0, .slice none 0 0, .slice none 0 0] 47)) [.int .i64 0] 41
    rwa [World.size_alloc] at this
  have hb0 : Below w.heap.size w w0 := by rw [← hw0]; exact ((Below.refl _ _).alloc (Nat.le_refl _) _).alloc (by simp) _
  have hr0 := hr.below hb0
  have Ok := hide ok
  have Hm := hide hm
  have hlo' : Lo g A := by rw [← hg]; exact hlo
  clear ok hm hlo
  go_enter_defers Tryz.func131, Tryz.ntmps131
  go_wp2_with fail
  go_fit (of_any A m c w0)
  rintro e w1 ⟨rfl, hb1⟩
  have hR1 := hR.below hb1
  have hE1 := hE.below hb1
  have hr1 := hr0.below hb1
  have hb01 := hb0.trans (hb1.mono hb0.size)
  have sz1 := hE1.lt
  obtain ⟨b, hb⟩ : ∃ b, w1.heap.size = b := ⟨_, rfl⟩
  obtain ⟨w2, hw2⟩ : ∃ w2, w1.alloc (.cells #[.slice A m c, .int .i64 0] 203) = w2 := ⟨_, rfl⟩
  have hB2 : Blk w2 b [.slice A m c, .int .i64 0] 203 := by rw [← hw2, ← hb]; exact Blk.new w1 [.slice A m c, .int .i64 0] _
  have hb12 : Below w1.heap.size w1 w2 := by rw [← hw2]; exact (Below.refl _ _).alloc (Nat.le_refl _) _
  have hR2 := hR1.below hb12
  have hE2 := hE1.below hb12
  have hr2 := hr1.below hb12
  have hb02 := hb01.trans (hb12.mono hb01.size)
  have Hw2 := hide hw2
  clear hw2
  go_wp2_with fail
  rw [Hw2.out]
  go_fit (op_anyC b 203 A m c bs k p n ds t1 os t2 b w2 hB2 Hm.out hmc hm8 hc hr2 (fun a ha => Nat.lt_of_lt_of_le (hlo' a ha) (by omega)) (Nat.le_refl _) Ok.out)
  rintro e w3 ⟨D, dc, O, oc, rfl, hD3, hO3, uD, uO, hB3, hb3, hcap⟩
  have hR3 := hR2.lo hb3 (by omega)
  have hE3 := hE2.lo hb3 (by omega)
  go_wp2_with fail
  obtain ⟨w4, hw4⟩ : ∃ w4, w3.alloc (.cells #[.int .u8 k, .int .i64 p, .int .i64 n, .slice D ds.length dc, .slice O os.length oc] 47) = w4 := ⟨_, rfl⟩
  rw [hw4]
  obtain ⟨v, hv⟩ : ∃ v, w3.heap.size = v := ⟨_, rfl⟩
  have hV4 : Blk w4 v [.int .u8 k, .int .i64 p, .int .i64 n, .slice D ds.length dc, .slice O os.length oc] 47 := by rw [← hw4, ← hv]; exact Blk.new w3 [.int .u8 k, .int .i64 p, .int .i64 n, .slice D ds.length dc, .slice O os.length oc] _
  have hb34 : Below w3.heap.size w3 w4 := by rw [← hw4]; exact (Below.refl _ _).alloc (Nat.le_refl _) _
  have hR4 := hR3.below hb34
  have hE4 := hE3.below hb34
  have hB4 := hB3.below hb34
  have sb := hB3.lt
  have hD4 := hD3.below hb34
  have hO4 := hO3.below hb34
  have hb04 := (hb02.trans (hb3.mono (by omega))).trans (hb34.mono (by have := hb3.size; have := hB2.lt; omega))
  rw [hg] at hb04
  have hB4d := hB4.drew
  rw [hv]
  clear hw4 hv
  have x0 := hR4.cell (j := 0) rfl
  have x1 := hR4.cell (j := 1) rfl
  have x2 := hR4.cell (j := 2) rfl
  have x3 := hR4.cell (j := 3) rfl
  have x4 := hR4.cell (j := 4) rfl
  have f0 := hR4.frozen 0
  have f1 := hR4.frozen 1
  have f2 := hR4.frozen 2
  have f3 := hR4.frozen 3
  have f4 := hR4.frozen 4
  have y0 := hV4.cell (j := 0) rfl
  have y1 := hV4.cell (j := 1) rfl
  have y2 := hV4.cell (j := 2) rfl
  have y3 := hV4.cell (j := 3) rfl
  have y4 := hV4.cell (j := 4) rfl
  have e0 := hE4.cell (j := 0) rfl
  have fe := hE4.frozen 0
  refine wp_noexit ?_
  go_region_with (first
    | (go_at_call 76; (with_reducible refine (at_any b 203 (.slice A m c) t2 _ hB4d).mono ?_); rintro x wa ⟨rfl, rfl⟩))
  all_goals
    go_wp2_with fail
    refine leaves_cons (f := 157) (args := #[.pointer (some ⟨g + 1, 0, none⟩)]) (by simp) (by simp [go_sem]) ?_
    have hR5 := (((((hR4.set 0 (.int .u8 k)).set 1 (.int .i64 p)).set 2 (.int .i64 n)).set 3 (.slice D ds.length dc)).set 4 (.slice O os.length oc)).apart (k := g + 1) (by omega) 0 (.int .i64 0)
    have hE5 := (((((hE4.apart (k := g) (by omega) 0 (.int .u8 k)).apart (k := g) (by omega) 1 (.int .i64 p)).apart (k := g) (by omega) 2 (.int .i64 n)).apart (k := g) (by omega) 3 (.slice D ds.length dc)).apart (k := g) (by omega) 4 (.slice O os.length oc)).set 0 (.int .i64 0)
    refine (idle_any ⟨g + 1, 0, none⟩ 0 _ (hE5.drew.cell (j := 0) rfl) (hE5.drew.frozen 0)).mono ?_
    rintro e u w6 ⟨rfl, rfl, rfl⟩
    have hR6 := hR5.drew.drew.apart (k := g + 1) (by omega) 0 (.int .i64 0)
    have hE6 := hE5.drew.drew.set 0 (.int .i64 0)
    refine ⟨_, results_cie rfl rfl rfl hR6 Tryz.underlying47 rfl (by kernel_rfl) (hE6.cell (j := 0) rfl) Tryz.underlying41, ?_⟩
    have fD := hD4.upset uD (g := g) (by omega) (j := 0) (u := .int .u8 k) |>.upset uD (g := g) (by omega) (j := 1) (u := .int .i64 p) |>.upset uD (g := g) (by omega) (j := 2) (u := .int .i64 n) |>.upset uD (g := g) (by omega) (j := 3) (u := .slice D ds.length dc) |>.upset uD (g := g) (by omega) (j := 4) (u := .slice O os.length oc) |>.upset uD (g := g + 1) (by omega) (j := 0) (u := .int .i64 0) |>.drew.drew |>.upset uD (g := g + 1) (by omega) (j := 0) (u := .int .i64 0)
    have fO := hO4.upset uO (g := g) (by omega) (j := 0) (u := .int .u8 k) |>.upset uO (g := g) (by omega) (j := 1) (u := .int .i64 p) |>.upset uO (g := g) (by omega) (j := 2) (u := .int .i64 n) |>.upset uO (g := g) (by omega) (j := 3) (u := .slice D ds.length dc) |>.upset uO (g := g) (by omega) (j := 4) (u := .slice O os.length oc) |>.upset uO (g := g + 1) (by omega) (j := 0) (u := .int .i64 0) |>.drew.drew |>.upset uO (g := g + 1) (by omega) (j := 0) (u := .int .i64 0)
    have fW := ((((((hb04.setCell (le_blk (B := g) (g := g) (j := 0) (Nat.le_refl _)) (.int .u8 k)).setCell (le_blk (B := g) (g := g) (j := 1) (Nat.le_refl _)) (.int .i64 p)).setCell (le_blk (B := g) (g := g) (j := 2) (Nat.le_refl _)) (.int .i64 n)).setCell (le_blk (B := g) (g := g) (j := 3) (Nat.le_refl _)) (.slice D ds.length dc)).setCell (le_blk (B := g) (g := g) (j := 4) (Nat.le_refl _)) (.slice O os.length oc)).setCell (le_blk (B := g) (g := g + 1) (j := 0) (by omega)) (.int .i64 0)).drew.drew.setCell (le_blk (B := g) (g := g + 1) (j := 0) (by omega)) (.int .i64 0)
    refine ⟨D, dc, O, oc, rfl, fD, fO, fun a ha => ?_, fun a ha => ?_, ?_, hcap⟩
    · have := uD a ha; omega
    · have := uO a ha; omega
    · rw [hg]; exact fW
set_option maxHeartbeats 1600000 in
theorem dec_anyC (A : Option Addr) (m c : Nat) (bs : List UInt8) (w : World) (hm : bs.length = m) (hmc : m ≤ c) (hm8 : m ≤ 140737488355328) (hc : c ≤ 9223372036854775807) (hr : Rd w A (bys bs)) (hlo : Lo w.heap.size A) :
    Calls Tryz.prog 131 #[.slice A m c] w (DecAnyC bs w) := by
  have hne : ∀ b, w.heap.size + 2 ≤ b → ∀ a, A = some a → some a.block ≠ some b := fun b hb a ha h => by
    injection h with h; have := hlo a ha; omega
  by_cases h9 : bs.length < 9
  · have hx : opE bs = 10 := by unfold opE; rw [if_pos h9]
    refine (dec_bad A m c bs 10 w hr fun b w2 hB hr2 hb => ?_).mono fun e w' h => decAnyC_bad hx (by decide) h
    by_cases h1 : bs.length < 1
    · refine (op_bad0 b _ A m c bs 0 0 0 [] 0 10 w2 hB hm hmc hm8 hc hr2 (hne b hb) (short_get bs 0 1 (by decide) (by decide) (by decide) (by omega) (by omega)) (by decide)).mono ?_
      rintro e w' ⟨he, hg⟩; exact ⟨he, below_of_grown hg (Nat.le_of_lt hB.lt)⟩
    · have e0 := long_get bs 0 1 (by decide) (by decide) (by decide) (by omega)
      by_cases h5 : bs.length < 5
      · refine (op_bad1 b _ A m c bs _ 0 0 [] 0 10 w2 hB hm hmc hm8 hc hr2 (hne b hb) e0 rfl (getI_of e0) (short_get bs 1 4 (by decide) (by decide) (by decide) (by omega) (by omega)) (by decide)).mono ?_
        rintro e w' ⟨he, hg⟩; exact ⟨he, below_of_grown hg (Nat.le_of_lt hB.lt)⟩
      · have e1 := long_get bs 1 4 (by decide) (by decide) (by decide) (by omega)
        refine (op_bad2 b _ A m c bs _ _ 0 [] 0 10 w2 hB hm hmc hm8 hc hr2 (hne b hb) e0 rfl (getI_of e0) e1 rfl (getI_of e1) (getV_4 bs 1) (short_get bs 5 4 (by decide) (by decide) (by decide) (by omega) (by omega)) (by decide)).mono ?_
        rintro e w' ⟨he, hg⟩; exact ⟨he, below_of_grown hg (Nat.le_of_lt hB.lt)⟩
  · have e0 := long_get bs 0 1 (by decide) (by decide) (by decide) (by omega)
    have e1 := long_get bs 1 4 (by decide) (by decide) (by decide) (by omega)
    have e2 := long_get bs 5 4 (by decide) (by decide) (by decide) (by omega)
    have hx : opE bs = if textE bs 9 ≠ 0 then brE (textE bs 9) else if textE bs (textI bs 9) ≠ 0 then brE (textE bs (textI bs 9))
      else if fmE (getV bs 0 1) (getV bs 1 4) (getV bs 5 4) (textS bs 9).length (textS bs (textI bs 9)).length ≠ 0 then 42 else 0 := by unfold opE; rw [if_neg h9]
    by_cases h3 : textE bs 9 = 0
    · have hb3 := textI_bd h3
      rw [if_neg (by rw [h3]; decide)] at hx
      by_cases h4 : textE bs (textI bs 9) = 0
      · rw [if_neg (by rw [h4]; decide)] at hx
        rcases fmE_two (getV bs 0 1) (getV bs 1 4) (getV bs 5 4) (textS bs 9).length (textS bs (textI bs 9)).length with ⟨_, hf⟩ | hf
        · have hx0 : opE bs = 0 := by rw [hx, if_neg (by rw [hf]; decide)]
          refine (dec_okC A m c bs (getV bs 0 1) (getV bs 1 4) (getV bs 5 4) (textS bs 9) (textI bs 9) (textS bs (textI bs 9)) (textI bs (textI bs 9)) w hm hmc hm8 hc hr hlo ⟨e0, rfl, getI_of e0, e1, rfl, getI_of e1, e2, rfl, getI_of e2, h3, rfl, rfl, h4, rfl, rfl, getV_1 bs 0, getV_4 bs 1, getV_4 bs 5, ⟨by omega, by omega⟩, hf⟩).mono ?_
          rintro e w' ⟨D, dc, O, oc, he, h⟩
          obtain ⟨g1, g2, g3, g4, g5, g6⟩ := opE_yes hx0
          unfold DecAnyC
          rw [g1, g2, g3, g4, g5, g6, hx0]
          exact ⟨D, dc, O, oc, he, h⟩
        · have hx42 : opE bs = 42 := by rw [hx, if_pos (by rw [hf]; decide)]
          refine (dec_bad A m c bs 42 w hr fun b w2 hB hr2 hb => ?_).mono fun e w' h => decAnyC_bad hx42 (by decide) h
          exact op_bad5 b _ A m c bs (getV bs 0 1) (getV bs 1 4) (getV bs 5 4) (textS bs 9) (textI bs 9) (textS bs (textI bs 9)) (textI bs (textI bs 9)) b w2 hB hm hmc hm8 hc hr2 (fun a ha => by have := hlo a ha; omega) (Nat.le_refl _) ⟨e0, rfl, getI_of e0, e1, rfl, getI_of e1, e2, rfl, getI_of e2, h3, rfl, rfl, h4, rfl, rfl, getV_1 bs 0, getV_4 bs 1, getV_4 bs 5, ⟨by omega, by omega⟩, hf⟩
      · have hx4 : opE bs = txE (textE bs (textI bs 9)) := by rw [hx, if_pos h4]; rfl
        have hn : txE (textE bs (textI bs 9)) ≠ 0 := by
          rcases textE_cases bs (textI bs 9) (by omega) (by omega) with e | e | e
          · exact absurd e h4
          · rw [e]; decide
          · rw [e]; decide
        refine (dec_bad A m c bs _ w hr fun b w2 hB hr2 hb => ?_).mono fun e w' h => decAnyC_bad hx4 hn h
        refine (op_bad4 b _ A m c bs _ _ _ _ (textI bs 9) _ w2 hB hm hmc hm8 hc hr2 (hne b hb) e0 rfl (getI_of e0) e1 rfl (getI_of e1) (getV_4 bs 1) e2 rfl (getI_of e2) (getV_4 bs 5) h3 rfl rfl ⟨by omega, by omega⟩ rfl hn).mono ?_
        rintro e w' ⟨he, hg⟩; exact ⟨he, below_of_grown hg (Nat.le_of_lt hB.lt)⟩
    · have hx3 : opE bs = txE (textE bs 9) := by rw [hx, if_pos h3]; rfl
      have hn : txE (textE bs 9) ≠ 0 := by
        rcases textE_cases bs 9 (by omega) (by omega) with e | e | e
        · exact absurd e h3
        · rw [e]; decide
        · rw [e]; decide
      refine (dec_bad A m c bs _ w hr fun b w2 hB hr2 hb => ?_).mono fun e w' h => decAnyC_bad hx3 hn h
      refine (op_bad3 b _ A m c bs _ _ _ [] 0 _ w2 hB hm hmc hm8 hc hr2 (hne b hb) e0 rfl (getI_of e0) e1 rfl (getI_of e1) (getV_4 bs 1) e2 rfl (getI_of e2) (getV_4 bs 5) rfl hn).mono ?_
      rintro e w' ⟨he, hg⟩; exact ⟨he, below_of_grown hg (Nat.le_of_lt hB.lt)⟩
end Go.Proofs.YtkknkdjdneldlaaGreat
