/- cursor.Left: Number, Int, Text, where all is well. -/
import Derived.Test.YtabglphiafeheaaF04d
import Derived.Deep.RegionHeldLaw
import Derived.Deep.QuietTactic
import Derived.BigQuiet
namespace Go.Proofs.Ytabglphiafeheaa
open Go.RowKit Go.Px
set_option linter.unusedVariables false

theorem below_drewN {B : Nat} {w w' : World} (h : Below B w w') (n : Nat) : Below B w (w'.drewN n) := ⟨h.os, h.tape, h.output, h.size, h.block⟩
def NumIs (b : Nat) (v : Nat) (i : Int) (w : World) (e : Ending) (w' : World) : Prop := ∃ q, e = .returned (.int .u64 v) ∧ w' = (w.drewN q).setCell ⟨b, 1, none⟩ (.int .i64 i)
def IntIs (b : Nat) (v : Nat) (i : Int) (w : World) (e : Ending) (w' : World) : Prop := ∃ q, e = .returned (.int .i64 v) ∧ w' = (w.drewN q).setCell ⟨b, 1, none⟩ (.int .i64 i)

set_option maxHeartbeats 800000 in
theorem lnum_any (b : Nat) (T : TypeId) (A : Option Addr) (m c : Nat) (bs : List UInt8) (at_ n : Int) (v : Nat) (i : Int) (w : World) (hB : Blk w b [.slice A m c, .int .i64 at_] T) (hm : bs.length = m) (hmc : m ≤ c) (hc : c ≤ 9223372036854775807) (hr : Rd w A (bys bs))
    (ha : -9223372036854775808 ≤ at_) (ha2 : at_ ≤ 9223372036854775807) (hE : getE bs at_ n = 0) (hV : getV bs at_ n = v) (hI : getI bs at_ n = i) :
    Calls Try.prog 51 #[.pointer (some ⟨b, 0, none⟩), .int .i64 n] w (NumIs b v i w) := by
  have HQ : ∀ q, Calls Try.prog 56 #[.slice A m c, .int .i64 at_, .int .i64 n] (w.drewN q) fun e w' => e = .returned (.tuple #[.int .u64 v, .int .i64 i, .int .i64 0]) ∧ w' = w.drewN q := fun q => by
    refine (get_any A m c bs at_ n _ hm hmc hc (hr.drewN q) ha ha2).mono ?_
    rw [hE, hV, hI]
    rintro e w' ⟨rfl, rfl⟩
    exact ⟨rfl, rfl⟩
  have x0 := hB.cell (j := 0) rfl
  have x1 := hB.cell (j := 1) rfl
  have f1 := hB.frozen 1
  clear hE hV hI hm
  go_enter Try.func51, Try.ntmps51
  go_wp2
  go_quiet ((go_at_call 56; exact Calls.quiet_of_same (HQ _)))
  go_wp2_with fail
  go_fit (stop_any _)
  rintro e w' ⟨rfl, rfl⟩
  go_wp2
  go_ret
  exact ⟨_, rfl, rfl⟩
set_option maxHeartbeats 400000 in
theorem lint_any (b : Nat) (T : TypeId) (A : Option Addr) (m c : Nat) (bs : List UInt8) (at_ n : Int) (v : Nat) (i : Int) (w : World) (hB : Blk w b [.slice A m c, .int .i64 at_] T) (hm : bs.length = m) (hmc : m ≤ c) (hc : c ≤ 9223372036854775807) (hr : Rd w A (bys bs))
    (ha : -9223372036854775808 ≤ at_) (ha2 : at_ ≤ 9223372036854775807) (hE : getE bs at_ n = 0) (hV : getV bs at_ n = v) (hI : getI bs at_ n = i) (hv : v ≤ 9223372036854775807) :
    Calls Try.prog 52 #[.pointer (some ⟨b, 0, none⟩), .int .i64 n] w (IntIs b v i w) := by
  have H := hide (lnum_any b T A m c bs at_ n v i w hB hm hmc hc hr ha ha2 hE hV hI)
  clear hE hV hI hm
  go_enter Try.func52, Try.ntmps52
  go_wp2_with fail
  refine H.out.mono ?_
  rintro e w' ⟨q, rfl, rfl⟩
  go_wp2
  go_ret
  exact ⟨q, rfl, rfl⟩
def TxtIs (b : Nat) (s : List UInt8) (i : Int) (w : World) (e : Ending) (w' : World) : Prop := ∃ A c W, e = .returned (.slice A s.length c) ∧ W.ownsRow w.heap.size 5 1 (.slice A s.length c) s.length (bys s) ∧ Below w.heap.size w W ∧ w' = W.setCell ⟨b, 1, none⟩ (.int .i64 i)
set_option maxHeartbeats 800000 in
theorem ltext_any (b : Nat) (T : TypeId) (A : Option Addr) (m c : Nat) (bs : List UInt8) (at_ : Int) (s : List UInt8) (i : Int) (w : World) (hB : Blk w b [.slice A m c, .int .i64 at_] T) (hm : bs.length = m) (hmc : m ≤ c) (hm8 : m ≤ 140737488355328) (hc : c ≤ 9223372036854775807) (hr : Rd w A (bys bs))
    (ha : -9223372036854775808 ≤ at_) (ha2 : at_ ≤ 9223372036854775807) (hE : textE bs at_ = 0) (hS : textS bs at_ = s) (hI : textI bs at_ = i) :
    Calls Try.prog 53 #[.pointer (some ⟨b, 0, none⟩)] w (TxtIs b s i w) := by
  have HT := hide (getText_any A m c bs at_ w.drew hm hmc hm8 hc hr.drew ha ha2)
  have x0 := hB.cell (j := 0) rfl
  have x1 := hB.cell (j := 1) rfl
  have S0 : w.drew.cell? ⟨b, 0, none⟩ = some (.slice A m c) ∧ w.drew.cell? ⟨b, 1, none⟩ = some (.int .i64 at_) := ⟨x0, x1⟩
  have HE := hide hE
  have HS := hide hS
  have HI := hide hI
  clear hE hS hI hm
  go_enter Try.func53, Try.ntmps53
  go_wp2
  go_region_with (first
    | (go_at_call 57; refine HT.out.mono ?_; rw [HE.out, HS.out, HI.out]; rintro e w1 ⟨u1, rfl, ho1, hb1⟩; obtain ⟨A1, c1, rfl, _, _, _, _, _⟩ := own_out ho1))
  all_goals
    have hB1 := Blk.below (w := w.drew) hB hb1
    have y1 := hB1.cell (j := 1) rfl
    have g1 := hB1.frozen 1
    go_wp2_with fail
    go_fit (stop_any _)
    rintro e w' ⟨rfl, rfl⟩
    go_wp2
    go_ret
    exact ⟨A1, c1, w1, rfl, ho1, (Below.refl _ _).drew.trans hb1, rfl⟩
end Go.Proofs.Ytabglphiafeheaa
