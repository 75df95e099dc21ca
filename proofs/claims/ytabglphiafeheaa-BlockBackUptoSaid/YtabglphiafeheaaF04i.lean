/- reader.op where something is wrong. -/
import Derived.Test.YtabglphiafeheaaF04h
namespace Go.Proofs.Ytabglphiafeheaa
open Go.RowKit Go.Px
set_option linter.unusedVariables false
set_option linter.unusedSimpArgs false
def OpBad (b : Nat) (x : Int) (w : World) (e : Ending) (w' : World) : Prop := e = .panicked (stopped x) ∧ w.grownBy w' (some b)

set_option maxHeartbeats 6400000 in
theorem op_bad0 (b : Nat) (T : TypeId) (A : Option Addr) (m c : Nat) (bs : List UInt8) (k p n : Nat) (ds : List UInt8) (t1 : Int) (x : Int) (w : World) (hB : Blk w b [.slice A m c, .int .i64 0] T) (hm : bs.length = m) (hmc : m ≤ c) (hm8 : m ≤ 140737488355328) (hc : c ≤ 9223372036854775807) (hr : Rd w A (bys bs))
    (hne : ∀ a, A = some a → some a.block ≠ some b) (ex : getE bs 0 1 = x) (hx : x ≠ 0) :
    Calls Try.prog 40 #[.pointer (some ⟨b, 0, none⟩)] w (OpBad b x w) := by
  obtain ⟨w0, hw0⟩ : ∃ w0, w.alloc (.cells #[.int .u8 0, .int .i64 0, .int .i64 0, .slice none 0 0, .slice none 0 0] 27) = w0 := ⟨_, rfl⟩
  have hBa : Blk w0 b [.slice A m c, .int .i64 0] T := by rw [← hw0]; exact hB.alloc _
  have Ga : w.grownBy w0 (some b) := by rw [← hw0]; exact galloc (grown_refl _ _) _
  have Hm := hide hm
  have EX := hide ex
  have NX := hide hx
  have hB0 : Blk w0.drew b [.slice A m c, .int .i64 0] T := hBa
  have hB0x : Blk (w0.alloc (.cells #[.int .u8 0, .int .i64 0, .int .i64 0, .slice none 0 0, .slice none 0 0] 27)).drew b [.slice A m c, .int .i64 0] T := (hBa.alloc _).drew
  have G0 : w.grownBy w0.drew (some b) := gdrew Ga
  have G0x : w.grownBy (w0.alloc (.cells #[.int .u8 0, .int .i64 0, .int .i64 0, .slice none 0 0, .slice none 0 0] 27)).drew (some b) := gdrew (galloc Ga _)
  clear hm ex hx
  go_enter Try.func40, Try.ntmps40
  go_wp2
  go_region_with (first
    | (go_at_call 51; (with_reducible refine (lnum_bad b T A m c bs 0 1 x _ (by first | exact hB0 | exact hB0x) Hm.out hmc hc (hr.grown (by first | exact G0 | exact G0x) hne) (by omega) (by omega) EX.out NX.out).mono ?_); rintro e wx ⟨rfl, KX⟩; have GX := gt (by first | exact G0 | exact G0x) KX; refine twoWays (q := wpAny Try.prog Region.Mode.any #[] (fun _ _ _ => True) 0 #[] act0 wx) ⟨rfl, rfl, GX⟩ ?_))
  all_goals trivial

set_option maxHeartbeats 6400000 in
theorem op_bad1 (b : Nat) (T : TypeId) (A : Option Addr) (m c : Nat) (bs : List UInt8) (k p n : Nat) (ds : List UInt8) (t1 : Int) (x : Int) (w : World) (hB : Blk w b [.slice A m c, .int .i64 0] T) (hm : bs.length = m) (hmc : m ≤ c) (hm8 : m ≤ 140737488355328) (hc : c ≤ 9223372036854775807) (hr : Rd w A (bys bs))
    (hne : ∀ a, A = some a → some a.block ≠ some b) (e0 : getE bs 0 1 = 0) (v0 : getV bs 0 1 = k) (i0 : getI bs 0 1 = 1) (ex : getE bs 1 4 = x) (hx : x ≠ 0) :
    Calls Try.prog 40 #[.pointer (some ⟨b, 0, none⟩)] w (OpBad b x w) := by
  obtain ⟨w0, hw0⟩ : ∃ w0, w.alloc (.cells #[.int .u8 0, .int .i64 0, .int .i64 0, .slice none 0 0, .slice none 0 0] 27) = w0 := ⟨_, rfl⟩
  have hBa : Blk w0 b [.slice A m c, .int .i64 0] T := by rw [← hw0]; exact hB.alloc _
  have Ga : w.grownBy w0 (some b) := by rw [← hw0]; exact galloc (grown_refl _ _) _
  have Hm := hide hm
  have E0 := hide e0
  have V0 := hide v0
  have I0 := hide i0
  have EX := hide ex
  have NX := hide hx
  have hB0 : Blk w0.drew b [.slice A m c, .int .i64 0] T := hBa
  have hB0x : Blk (w0.alloc (.cells #[.int .u8 0, .int .i64 0, .int .i64 0, .slice none 0 0, .slice none 0 0] 27)).drew b [.slice A m c, .int .i64 0] T := (hBa.alloc _).drew
  have G0 : w.grownBy w0.drew (some b) := gdrew Ga
  have G0x : w.grownBy (w0.alloc (.cells #[.int .u8 0, .int .i64 0, .int .i64 0, .slice none 0 0, .slice none 0 0] 27)).drew (some b) := gdrew (galloc Ga _)
  clear hm ex hx e0 v0 i0
  go_enter Try.func40, Try.ntmps40
  go_wp2
  go_region_with (first
    | (go_at_call 51; (with_reducible refine (lnumG b T A m c bs 0 1 k 1 _ (by first | exact hB0 | exact hB0x) Hm.out hmc hc (hr.grown (by first | exact G0 | exact G0x) hne) (by omega) (by omega) E0.out V0.out I0.out).mono ?_); rintro e w1 ⟨rfl, hB1, K1⟩; have G1 := gt (by first | exact G0 | exact G0x) K1; have hB1x := hB1.alloc (.cells #[.int .u8 0, .int .i64 0, .int .i64 0, .slice none 0 0, .slice none 0 0] 27); have G1x := galloc G1 (.cells #[.int .u8 0, .int .i64 0, .int .i64 0, .slice none 0 0, .slice none 0 0] 27); have L1 := hB1.lt)
    | (go_at_call 52; (with_reducible refine (lint_bad b T A m c bs 1 4 x _ (by first | exact hB1 | exact hB1x) Hm.out hmc hc (hr.grown (by first | exact G1 | exact G1x) hne) (by omega) (by omega) EX.out NX.out).mono ?_); rintro e wx ⟨rfl, KX⟩; have GX := gt (by first | exact G1 | exact G1x) KX; refine twoWays (q := wpAny Try.prog Region.Mode.any #[] (fun _ _ _ => True) 0 #[] act0 wx) ⟨rfl, rfl, GX⟩ ?_))
  all_goals trivial

set_option maxHeartbeats 6400000 in
theorem op_bad2 (b : Nat) (T : TypeId) (A : Option Addr) (m c : Nat) (bs : List UInt8) (k p n : Nat) (ds : List UInt8) (t1 : Int) (x : Int) (w : World) (hB : Blk w b [.slice A m c, .int .i64 0] T) (hm : bs.length = m) (hmc : m ≤ c) (hm8 : m ≤ 140737488355328) (hc : c ≤ 9223372036854775807) (hr : Rd w A (bys bs))
    (hne : ∀ a, A = some a → some a.block ≠ some b) (e0 : getE bs 0 1 = 0) (v0 : getV bs 0 1 = k) (i0 : getI bs 0 1 = 1) (e1 : getE bs 1 4 = 0) (v1 : getV bs 1 4 = p) (i1 : getI bs 1 4 = 5) (hv1 : p ≤ 4294967295) (ex : getE bs 5 4 = x) (hx : x ≠ 0) :
    Calls Try.prog 40 #[.pointer (some ⟨b, 0, none⟩)] w (OpBad b x w) := by
  obtain ⟨w0, hw0⟩ : ∃ w0, w.alloc (.cells #[.int .u8 0, .int .i64 0, .int .i64 0, .slice none 0 0, .slice none 0 0] 27) = w0 := ⟨_, rfl⟩
  have hBa : Blk w0 b [.slice A m c, .int .i64 0] T := by rw [← hw0]; exact hB.alloc _
  have Ga : w.grownBy w0 (some b) := by rw [← hw0]; exact galloc (grown_refl _ _) _
  have Hm := hide hm
  have E0 := hide e0
  have V0 := hide v0
  have I0 := hide i0
  have E1 := hide e1
  have V1 := hide v1
  have I1 := hide i1
  have EX := hide ex
  have NX := hide hx
  have hB0 : Blk w0.drew b [.slice A m c, .int .i64 0] T := hBa
  have hB0x : Blk (w0.alloc (.cells #[.int .u8 0, .int .i64 0, .int .i64 0, .slice none 0 0, .slice none 0 0] 27)).drew b [.slice A m c, .int .i64 0] T := (hBa.alloc _).drew
  have G0 : w.grownBy w0.drew (some b) := gdrew Ga
  have G0x : w.grownBy (w0.alloc (.cells #[.int .u8 0, .int .i64 0, .int .i64 0, .slice none 0 0, .slice none 0 0] 27)).drew (some b) := gdrew (galloc Ga _)
  clear hm ex hx e0 v0 i0 e1 v1 i1
  go_enter Try.func40, Try.ntmps40
  go_wp2
  go_region_with (first
    | (go_at_call 51; (with_reducible refine (lnumG b T A m c bs 0 1 k 1 _ (by first | exact hB0 | exact hB0x) Hm.out hmc hc (hr.grown (by first | exact G0 | exact G0x) hne) (by omega) (by omega) E0.out V0.out I0.out).mono ?_); rintro e w1 ⟨rfl, hB1, K1⟩; have G1 := gt (by first | exact G0 | exact G0x) K1; have hB1x := hB1.alloc (.cells #[.int .u8 0, .int .i64 0, .int .i64 0, .slice none 0 0, .slice none 0 0] 27); have G1x := galloc G1 (.cells #[.int .u8 0, .int .i64 0, .int .i64 0, .slice none 0 0, .slice none 0 0] 27); have L1 := hB1.lt)
    | (go_at_call 52; (with_reducible refine (lintG b T A m c bs 1 4 p 5 _ (by first | exact hB1 | exact hB1x) Hm.out hmc hc (hr.grown (by first | exact G1 | exact G1x) hne) (by omega) (by omega) E1.out V1.out I1.out (by omega)).mono ?_); rintro e w2 ⟨rfl, hB2, K2⟩; have G2 := gt (by first | exact G1 | exact G1x) K2; have hB2x := hB2.alloc (.cells #[.int .u8 0, .int .i64 0, .int .i64 0, .slice none 0 0, .slice none 0 0] 27); have G2x := galloc G2 (.cells #[.int .u8 0, .int .i64 0, .int .i64 0, .slice none 0 0, .slice none 0 0] 27); have L2 := hB2.lt)
    | (go_at_call 52; (with_reducible refine (lint_bad b T A m c bs 5 4 x _ (by first | exact hB2 | exact hB2x) Hm.out hmc hc (hr.grown (by first | exact G2 | exact G2x) hne) (by omega) (by omega) EX.out NX.out).mono ?_); rintro e wx ⟨rfl, KX⟩; have GX := gt (by first | exact G2 | exact G2x) KX; refine twoWays (q := wpAny Try.prog Region.Mode.any #[] (fun _ _ _ => True) 0 #[] act0 wx) ⟨rfl, rfl, GX⟩ ?_))
  all_goals trivial

set_option maxHeartbeats 6400000 in
theorem op_bad3 (b : Nat) (T : TypeId) (A : Option Addr) (m c : Nat) (bs : List UInt8) (k p n : Nat) (ds : List UInt8) (t1 : Int) (x : Int) (w : World) (hB : Blk w b [.slice A m c, .int .i64 0] T) (hm : bs.length = m) (hmc : m ≤ c) (hm8 : m ≤ 140737488355328) (hc : c ≤ 9223372036854775807) (hr : Rd w A (bys bs))
    (hne : ∀ a, A = some a → some a.block ≠ some b) (e0 : getE bs 0 1 = 0) (v0 : getV bs 0 1 = k) (i0 : getI bs 0 1 = 1) (e1 : getE bs 1 4 = 0) (v1 : getV bs 1 4 = p) (i1 : getI bs 1 4 = 5) (hv1 : p ≤ 4294967295) (e2 : getE bs 5 4 = 0) (v2 : getV bs 5 4 = n) (i2 : getI bs 5 4 = 9) (hv2 : n ≤ 4294967295) (ex : txE (textE bs 9) = x) (hx : x ≠ 0) :
    Calls Try.prog 40 #[.pointer (some ⟨b, 0, none⟩)] w (OpBad b x w) := by
  obtain ⟨w0, hw0⟩ : ∃ w0, w.alloc (.cells #[.int .u8 0, .int .i64 0, .int .i64 0, .slice none 0 0, .slice none 0 0] 27) = w0 := ⟨_, rfl⟩
  have hBa : Blk w0 b [.slice A m c, .int .i64 0] T := by rw [← hw0]; exact hB.alloc _
  have Ga : w.grownBy w0 (some b) := by rw [← hw0]; exact galloc (grown_refl _ _) _
  have Hm := hide hm
  have E0 := hide e0
  have V0 := hide v0
  have I0 := hide i0
  have E1 := hide e1
  have V1 := hide v1
  have I1 := hide i1
  have E2 := hide e2
  have V2 := hide v2
  have I2 := hide i2
  have EX := hide ex
  have NX := hide hx
  have hB0 : Blk w0.drew b [.slice A m c, .int .i64 0] T := hBa
  have hB0x : Blk (w0.alloc (.cells #[.int .u8 0, .int .i64 0, .int .i64 0, .slice none 0 0, .slice none 0 0] 27)).drew b [.slice A m c, .int .i64 0] T := (hBa.alloc _).drew
  have G0 : w.grownBy w0.drew (some b) := gdrew Ga
  have G0x : w.grownBy (w0.alloc (.cells #[.int .u8 0, .int .i64 0, .int .i64 0, .slice none 0 0, .slice none 0 0] 27)).drew (some b) := gdrew (galloc Ga _)
  clear hm ex hx e0 v0 i0 e1 v1 i1 e2 v2 i2
  go_enter Try.func40, Try.ntmps40
  go_wp2
  go_region_with (first
    | (go_at_call 51; (with_reducible refine (lnumG b T A m c bs 0 1 k 1 _ (by first | exact hB0 | exact hB0x) Hm.out hmc hc (hr.grown (by first | exact G0 | exact G0x) hne) (by omega) (by omega) E0.out V0.out I0.out).mono ?_); rintro e w1 ⟨rfl, hB1, K1⟩; have G1 := gt (by first | exact G0 | exact G0x) K1; have hB1x := hB1.alloc (.cells #[.int .u8 0, .int .i64 0, .int .i64 0, .slice none 0 0, .slice none 0 0] 27); have G1x := galloc G1 (.cells #[.int .u8 0, .int .i64 0, .int .i64 0, .slice none 0 0, .slice none 0 0] 27); have L1 := hB1.lt)
    | (go_at_call 52; (with_reducible refine (lintG b T A m c bs 1 4 p 5 _ (by first | exact hB1 | exact hB1x) Hm.out hmc hc (hr.grown (by first | exact G1 | exact G1x) hne) (by omega) (by omega) E1.out V1.out I1.out (by omega)).mono ?_); rintro e w2 ⟨rfl, hB2, K2⟩; have G2 := gt (by first | exact G1 | exact G1x) K2; have hB2x := hB2.alloc (.cells #[.int .u8 0, .int .i64 0, .int .i64 0, .slice none 0 0, .slice none 0 0] 27); have G2x := galloc G2 (.cells #[.int .u8 0, .int .i64 0, .int .i64 0, .slice none 0 0, .slice none 0 0] 27); have L2 := hB2.lt)
    | (go_at_call 52; (with_reducible refine (lintG b T A m c bs 5 4 n 9 _ (by first | exact hB2 | exact hB2x) Hm.out hmc hc (hr.grown (by first | exact G2 | exact G2x) hne) (by omega) (by omega) E2.out V2.out I2.out (by omega)).mono ?_); rintro e w3 ⟨rfl, hB3, K3⟩; have G3 := gt (by first | exact G2 | exact G2x) K3; have hB3x := hB3.alloc (.cells #[.int .u8 0, .int .i64 0, .int .i64 0, .slice none 0 0, .slice none 0 0] 27); have G3x := galloc G3 (.cells #[.int .u8 0, .int .i64 0, .int .i64 0, .slice none 0 0, .slice none 0 0] 27); have L3 := hB3.lt)
    | (go_at_call 53; (with_reducible refine (ltext_bad b T A m c bs 9 x _ (by first | exact hB3 | exact hB3x) Hm.out hmc hc (hr.grown (by first | exact G3 | exact G3x) hne) (by omega) (by omega) hm8 EX.out NX.out).mono ?_); rintro e wx ⟨rfl, KX⟩; have GX := gt (by first | exact G3 | exact G3x) KX; refine twoWays (q := wpAny Try.prog Region.Mode.any #[] (fun _ _ _ => True) 0 #[] act0 wx) ⟨rfl, rfl, GX⟩ ?_))
  all_goals trivial

set_option maxHeartbeats 6400000 in
theorem op_bad4 (b : Nat) (T : TypeId) (A : Option Addr) (m c : Nat) (bs : List UInt8) (k p n : Nat) (ds : List UInt8) (t1 : Int) (x : Int) (w : World) (hB : Blk w b [.slice A m c, .int .i64 0] T) (hm : bs.length = m) (hmc : m ≤ c) (hm8 : m ≤ 140737488355328) (hc : c ≤ 9223372036854775807) (hr : Rd w A (bys bs))
    (hne : ∀ a, A = some a → some a.block ≠ some b) (e0 : getE bs 0 1 = 0) (v0 : getV bs 0 1 = k) (i0 : getI bs 0 1 = 1) (e1 : getE bs 1 4 = 0) (v1 : getV bs 1 4 = p) (i1 : getI bs 1 4 = 5) (hv1 : p ≤ 4294967295) (e2 : getE bs 5 4 = 0) (v2 : getV bs 5 4 = n) (i2 : getI bs 5 4 = 9) (hv2 : n ≤ 4294967295) (e3 : textE bs 9 = 0) (v3 : textS bs 9 = ds) (i3 : textI bs 9 = t1) (ht1 : 0 ≤ t1 ∧ t1 ≤ 140737488355328) (ex : txE (textE bs t1) = x) (hx : x ≠ 0) :
    Calls Try.prog 40 #[.pointer (some ⟨b, 0, none⟩)] w (OpBad b x w) := by
  obtain ⟨w0, hw0⟩ : ∃ w0, w.alloc (.cells #[.int .u8 0, .int .i64 0, .int .i64 0, .slice none 0 0, .slice none 0 0] 27) = w0 := ⟨_, rfl⟩
  have hBa : Blk w0 b [.slice A m c, .int .i64 0] T := by rw [← hw0]; exact hB.alloc _
  have Ga : w.grownBy w0 (some b) := by rw [← hw0]; exact galloc (grown_refl _ _) _
  have Hm := hide hm
  have E0 := hide e0
  have V0 := hide v0
  have I0 := hide i0
  have E1 := hide e1
  have V1 := hide v1
  have I1 := hide i1
  have E2 := hide e2
  have V2 := hide v2
  have I2 := hide i2
  have E3 := hide e3
  have V3 := hide v3
  have I3 := hide i3
  have EX := hide ex
  have NX := hide hx
  have hB0 : Blk w0.drew b [.slice A m c, .int .i64 0] T := hBa
  have hB0x : Blk (w0.alloc (.cells #[.int .u8 0, .int .i64 0, .int .i64 0, .slice none 0 0, .slice none 0 0] 27)).drew b [.slice A m c, .int .i64 0] T := (hBa.alloc _).drew
  have G0 : w.grownBy w0.drew (some b) := gdrew Ga
  have G0x : w.grownBy (w0.alloc (.cells #[.int .u8 0, .int .i64 0, .int .i64 0, .slice none 0 0, .slice none 0 0] 27)).drew (some b) := gdrew (galloc Ga _)
  clear hm ex hx e0 v0 i0 e1 v1 i1 e2 v2 i2 e3 v3 i3
  go_enter Try.func40, Try.ntmps40
  go_wp2
  go_region_with (first
    | (go_at_call 51; (with_reducible refine (lnumG b T A m c bs 0 1 k 1 _ (by first | exact hB0 | exact hB0x) Hm.out hmc hc (hr.grown (by first | exact G0 | exact G0x) hne) (by omega) (by omega) E0.out V0.out I0.out).mono ?_); rintro e w1 ⟨rfl, hB1, K1⟩; have G1 := gt (by first | exact G0 | exact G0x) K1; have hB1x := hB1.alloc (.cells #[.int .u8 0, .int .i64 0, .int .i64 0, .slice none 0 0, .slice none 0 0] 27); have G1x := galloc G1 (.cells #[.int .u8 0, .int .i64 0, .int .i64 0, .slice none 0 0, .slice none 0 0] 27); have L1 := hB1.lt)
    | (go_at_call 52; (with_reducible refine (lintG b T A m c bs 1 4 p 5 _ (by first | exact hB1 | exact hB1x) Hm.out hmc hc (hr.grown (by first | exact G1 | exact G1x) hne) (by omega) (by omega) E1.out V1.out I1.out (by omega)).mono ?_); rintro e w2 ⟨rfl, hB2, K2⟩; have G2 := gt (by first | exact G1 | exact G1x) K2; have hB2x := hB2.alloc (.cells #[.int .u8 0, .int .i64 0, .int .i64 0, .slice none 0 0, .slice none 0 0] 27); have G2x := galloc G2 (.cells #[.int .u8 0, .int .i64 0, .int .i64 0, .slice none 0 0, .slice none 0 0] 27); have L2 := hB2.lt)
    | (go_at_call 52; (with_reducible refine (lintG b T A m c bs 5 4 n 9 _ (by first | exact hB2 | exact hB2x) Hm.out hmc hc (hr.grown (by first | exact G2 | exact G2x) hne) (by omega) (by omega) E2.out V2.out I2.out (by omega)).mono ?_); rintro e w3 ⟨rfl, hB3, K3⟩; have G3 := gt (by first | exact G2 | exact G2x) K3; have hB3x := hB3.alloc (.cells #[.int .u8 0, .int .i64 0, .int .i64 0, .slice none 0 0, .slice none 0 0] 27); have G3x := galloc G3 (.cells #[.int .u8 0, .int .i64 0, .int .i64 0, .slice none 0 0, .slice none 0 0] 27); have L3 := hB3.lt)
    | (go_at_call 53; (with_reducible refine (ltextG b T A m c bs 9 t1 _ (by first | exact hB3 | exact hB3x) Hm.out hmc hc (hr.grown (by first | exact G3 | exact G3x) hne) (by omega) (by omega) hm8 ds E3.out V3.out I3.out).mono ?_); rintro e w4 ⟨D3, dc3, rfl, hO3, hB4, K4⟩; have G4 := gt (by first | exact G3 | exact G3x) K4; have hB4x := hB4.alloc (.cells #[.int .u8 0, .int .i64 0, .int .i64 0, .slice none 0 0, .slice none 0 0] 27); have G4x := galloc G4 (.cells #[.int .u8 0, .int .i64 0, .int .i64 0, .slice none 0 0, .slice none 0 0] 27); have L4 := hB4.lt)
    | (go_at_call 53; (with_reducible refine (ltext_bad b T A m c bs t1 x _ (by first | exact hB4 | exact hB4x) Hm.out hmc hc (hr.grown (by first | exact G4 | exact G4x) hne) (by omega) (by omega) hm8 EX.out NX.out).mono ?_); rintro e wx ⟨rfl, KX⟩; have GX := gt (by first | exact G4 | exact G4x) KX; refine twoWays (q := wpAny Try.prog Region.Mode.any #[] (fun _ _ _ => True) 0 #[] act0 wx) ⟨rfl, rfl, GX⟩ ?_))
  all_goals trivial
end Go.Proofs.Ytabglphiafeheaa
