/- fault.Stop of a fault, fault.Caught of one; cursor.Left's readers where something is wrong. -/
import Derived.Test.YtabglphiafeheaaF04f
namespace Go.Proofs.Ytabglphiafeheaa
open Go.RowKit Go.Px
set_option linter.unusedVariables false
set_option linter.unusedSimpArgs false
def stopped (x : Int) : List PanicEntry := [{ v := .iface 80 (.agg #[.int .i64 x]), recovered := false }]
theorem stop_bad (x : Int) (hx : x ≠ 0) (w : World) : Calls Try.prog 54 #[.int .i64 x] w fun e w' => e = .panicked (stopped x) ∧ w = w' := by
  have h1 : (x != 0) = true := by simpa using hx
  have h2 : (x == 0) = false := by simpa using hx
  clear hx
  go_enter Try.func54, Try.ntmps54
  go_wp2
  exact ⟨rfl, rfl, rfl⟩
theorem caught_bad (x z : Int) (w : World) : Calls Try.prog 38 #[.iface 80 (.agg #[.int .i64 x]), .int .i64 z] w fun e w' => e = .returned (.int .i64 x) ∧ w' = w.alloc (.cells #[.int .i64 x] 80) := by
  have hta : ∀ w, (Instr.typeAssert (.iface 80 (.agg #[.int .i64 x])) 20 80 true).run Try.prog w = .ok (.tuple #[.agg #[.int .i64 x], .bool true]) w := fun w => by kernel_rfl
  go_enter Try.func38, Try.ntmps38
  go_wp2
  go_ret
  exact ⟨rfl, rfl⟩
theorem recov_any (p : Addr) (x z : Int) (w : World) (hc : w.cell? p = some (.int .i64 z)) (hf : w.frozen? p = false) (hp : p.block < w.heap.size) :
    CallsD Try.prog 37 #[.pointer (some p)] (.panicking (stopped x)) w fun e u' w' => e = .returned (.tuple #[]) ∧ u' = .panicking [{ v := .iface 80 (.agg #[.int .i64 x]), recovered := true }] ∧ w' = ((w.drew.alloc (.cells #[.int .i64 x] 80)).setCell p (.int .i64 x)) := by
  have hC := caught_bad x z w.drew
  have hb := (Below.refl w.heap.size w).alloc (Nat.le_refl _) (.cells #[.int .i64 x] 80)
  have hca := (hb.cell (p := p) hp).trans hc
  have hfa := (hb.frozen (p := p) hp).trans hf
  clear hb
  refine callsD_of_wpS Try.func37 rfl fun c₀ cs hu => ?_
  refine wpS_two (by kernel_rfl) rfl (by kernel_rfl) (by kernel_rfl) (by kernel_rfl) (by kernel_rfl) (by kernel_rfl) ?_ ?_
  all_goals
    simp [wpOpsS, go_sem, recoverD, hu, stopped, Try.ntmps37, Exit.thenS, hc, hf]
    refine hC.mono ?_
    rintro e w' ⟨rfl, rfl⟩
    simp [go_sem, hca, hfa]
    cases c₀
    simp_all [bodyPostS, results, Try.results37]

theorem grown_drewN (w : World) (r : Option Nat) (q : Nat) : w.grownBy (w.drewN q) r := ⟨rfl, rfl, rfl, Nat.le_refl _, fun _ _ _ => rfl⟩
def act0 : Act := { tmps := #[], defers := [] }
theorem twoWays {p q : Prop} (h : p) (_ : q) : p := h
def txE (e : Int) : Int := if e = 2 then 42 else e
section
variable (b : Nat) (T : TypeId) (A : Option Addr) (m c : Nat) (bs : List UInt8) (at_ n : Int) (x : Int) (w : World) (hB : Blk w b [.slice A m c, .int .i64 at_] T) (hm : bs.length = m) (hmc : m ≤ c) (hc : c ≤ 9223372036854775807) (hr : Rd w A (bys bs))
    (ha : -9223372036854775808 ≤ at_) (ha2 : at_ ≤ 9223372036854775807)
include hB hm hmc hc hr ha ha2
set_option maxHeartbeats 800000 in
theorem lnum_bad (hE : getE bs at_ n = x) (hx : x ≠ 0) : Calls Try.prog 51 #[.pointer (some ⟨b, 0, none⟩), .int .i64 n] w fun e w' => e = .panicked (stopped x) ∧ w.grownBy w' (some b) := by
  have HQ : ∀ q, Calls Try.prog 56 #[.slice A m c, .int .i64 at_, .int .i64 n] (w.drewN q) fun e w' => e = .returned (.tuple #[.int .u64 (getV bs at_ n), .int .i64 (getI bs at_ n), .int .i64 x]) ∧ w' = w.drewN q := fun q => by
    refine (get_any A m c bs at_ n _ hm hmc hc (hr.drewN q) ha ha2).mono ?_
    rw [hE]
    rintro e w' ⟨rfl, rfl⟩
    exact ⟨rfl, rfl⟩
  have x0 := hB.cell (j := 0) rfl
  have x1 := hB.cell (j := 1) rfl
  have f1 := hB.frozen 1
  have Hx := hide hx
  clear hE hm hx
  go_enter Try.func51, Try.ntmps51
  go_wp2
  go_quiet ((go_at_call 56; exact Calls.quiet_of_same (HQ _)))
  go_wp2_with fail
  go_fit (stop_bad x Hx.out _)
  rintro e w' ⟨rfl, rfl⟩
  exact ⟨rfl, rfl, grown_drewN _ _ _⟩
set_option maxHeartbeats 400000 in
theorem lint_bad (hE : getE bs at_ n = x) (hx : x ≠ 0) : Calls Try.prog 52 #[.pointer (some ⟨b, 0, none⟩), .int .i64 n] w fun e w' => e = .panicked (stopped x) ∧ w.grownBy w' (some b) := by
  have H := hide (lnum_bad b T A m c bs at_ n x w hB hm hmc hc hr ha ha2 hE hx)
  clear hE hm hx
  go_enter Try.func52, Try.ntmps52
  go_wp2_with fail
  refine H.out.mono ?_
  rintro e w' ⟨rfl, hg⟩
  exact ⟨rfl, rfl, hg⟩
set_option maxHeartbeats 800000 in
theorem ltext_bad (hm8 : m ≤ 140737488355328) (hE : txE (textE bs at_) = x) (hx : x ≠ 0) : Calls Try.prog 53 #[.pointer (some ⟨b, 0, none⟩)] w fun e w' => e = .panicked (stopped x) ∧ w.grownBy w' (some b) := by
  have HT := hide (getText_any A m c bs at_ w.drew hm hmc hm8 hc hr.drew ha ha2)
  have x0 := hB.cell (j := 0) rfl
  have x1 := hB.cell (j := 1) rfl
  have S0 : w.drew.cell? ⟨b, 0, none⟩ = some (.slice A m c) ∧ w.drew.cell? ⟨b, 1, none⟩ = some (.int .i64 at_) := ⟨x0, x1⟩
  have Hx := hide hx
  obtain ⟨y, hy⟩ : ∃ y, textE bs at_ = y := ⟨_, rfl⟩
  rw [hy] at hE
  have HY := hide hy
  clear hy hm hx
  by_cases h2 : y = 2
  · subst h2
    have hx42 : x = 42 := by rw [← hE]; rfl
    subst hx42
    clear hE
    go_enter Try.func53, Try.ntmps53
    go_wp2
    go_region_with (first
      | (go_at_call 57; refine HT.out.mono ?_; rw [HY.out]; rintro e w1 ⟨u1, rfl, ho1, hb1⟩; obtain ⟨A1, c1, rfl, _, _, _, _, _⟩ := own_out ho1))
    all_goals
      go_wp2_with fail
      go_fit (stop_bad 42 Hx.out _)
      rintro e w' ⟨rfl, rfl⟩
      exact ⟨rfl, rfl, grown_of_below ((Below.refl _ _).drew.trans hb1) _⟩
  · have hxy : x = y := by rw [← hE]; unfold txE; rw [if_neg h2]
    subst hxy
    have h2' : (x == 2) = false := by simpa using h2
    clear hE h2
    go_enter Try.func53, Try.ntmps53
    go_wp2
    go_region_with (first
      | (go_at_call 57; refine HT.out.mono ?_; rw [HY.out]; rintro e w1 ⟨u1, rfl, ho1, hb1⟩; obtain ⟨A1, c1, rfl, _, _, _, _, _⟩ := own_out ho1))
    all_goals
      go_wp2_with fail
      go_fit (stop_bad x Hx.out _)
      rintro e w' ⟨rfl, rfl⟩
      exact ⟨rfl, rfl, grown_of_below ((Below.refl _ _).drew.trans hb1) _⟩
end

theorem gt {a b c : World} {r : Option Nat} (h : a.grownBy b r) (k : b.grownBy c r) : a.grownBy c r := grown_chain h k (.inl rfl)
theorem galloc {a b : World} {r : Option Nat} (h : a.grownBy b r) (o : Obj) : a.grownBy (b.alloc o) r := gt h (grown_of_below ((Below.refl _ _).alloc (Nat.le_refl _) o) r)
theorem gdrew {a b : World} {r : Option Nat} (h : a.grownBy b r) : a.grownBy b.drew r := gt h (grown_of_below (Below.refl _ _).drew r)
theorem gset {a b : World} {g : Nat} (h : a.grownBy b (some g)) (j : Nat) (u : Value) : a.grownBy (b.setCell ⟨g, j, none⟩ u) (some g) :=
  gt h ⟨rfl, rfl, rfl, by simp, fun k hk hne => heap_setCell_other b ⟨g, j, none⟩ k u (by intro e; exact hne (by rw [e]))⟩
section
variable (b : Nat) (T : TypeId) (A : Option Addr) (m c : Nat) (bs : List UInt8) (at_ n : Int) (v : Nat) (i : Int) (w : World) (hB : Blk w b [.slice A m c, .int .i64 at_] T) (hm : bs.length = m) (hmc : m ≤ c) (hc : c ≤ 9223372036854775807) (hr : Rd w A (bys bs))
    (ha : -9223372036854775808 ≤ at_) (ha2 : at_ ≤ 9223372036854775807)
include hB hm hmc hc hr ha ha2
theorem lnumG (hE : getE bs at_ n = 0) (hV : getV bs at_ n = v) (hI : getI bs at_ n = i) :
    Calls Try.prog 51 #[.pointer (some ⟨b, 0, none⟩), .int .i64 n] w fun e w' => e = .returned (.int .u64 v) ∧ Blk w' b [.slice A m c, .int .i64 i] T ∧ w.grownBy w' (some b) := by
  refine (lnum_any b T A m c bs at_ n v i w hB hm hmc hc hr ha ha2 hE hV hI).mono ?_
  rintro e w' ⟨q, rfl, rfl⟩
  exact ⟨rfl, Blk.set (w := w.drewN q) hB 1 (.int .i64 i), gset (grown_drewN w _ q) _ _⟩
theorem lintG (hE : getE bs at_ n = 0) (hV : getV bs at_ n = v) (hI : getI bs at_ n = i) (hv : v ≤ 9223372036854775807) :
    Calls Try.prog 52 #[.pointer (some ⟨b, 0, none⟩), .int .i64 n] w fun e w' => e = .returned (.int .i64 v) ∧ Blk w' b [.slice A m c, .int .i64 i] T ∧ w.grownBy w' (some b) := by
  refine (lint_any b T A m c bs at_ n v i w hB hm hmc hc hr ha ha2 hE hV hI hv).mono ?_
  rintro e w' ⟨q, rfl, rfl⟩
  exact ⟨rfl, Blk.set (w := w.drewN q) hB 1 (.int .i64 i), gset (grown_drewN w _ q) _ _⟩
theorem ltextG (hm8 : m ≤ 140737488355328) (s : List UInt8) (hE : textE bs at_ = 0) (hS : textS bs at_ = s) (hI : textI bs at_ = i) :
    Calls Try.prog 53 #[.pointer (some ⟨b, 0, none⟩)] w fun e w' => ∃ D dc, e = .returned (.slice D s.length dc) ∧ w'.ownsRow w.heap.size 5 1 (.slice D s.length dc) s.length (bys s) ∧ Blk w' b [.slice A m c, .int .i64 i] T ∧ w.grownBy w' (some b) := by
  refine (ltext_any b T A m c bs at_ s i w hB hm hmc hm8 hc hr ha ha2 hE hS hI).mono ?_
  rintro e w' ⟨D, dc, W, rfl, ho, hb, rfl⟩
  exact ⟨D, dc, rfl, ownsRow_setCell_below ho (show (⟨b, 1, none⟩ : Addr).block < w.heap.size from hB.lt) _, (hB.below hb).set 1 (.int .i64 i), gset (grown_of_below hb _) _ _⟩
end
end Go.Proofs.Ytabglphiafeheaa
