/- package table: Put, on a table in memory (written by gen_g6c.py). -/
import Derived.Test.YtplodjccjobjbaaF06b
namespace Go.Proofs.Ytplodjccjobjbaa
open Go.RowKit Go.Px Go.Maps
set_option linter.unusedVariables false
/-- How many clients a table knows behind a store. -/
def szNew (m : TM) (c : Int) (S : Nat) : Nat := if (m c).isSome then S else S + 1
/-- What a table knows behind a store. -/
def tmPut (m : TM) (c s : Int) (k : Nat) (bs : List UInt8) : TM := fun x => if x = c then some (s, k, bs) else m x
set_option maxHeartbeats 1600000 in
theorem put_err {w : World} {B t bm n : Nat} {D : DataW Value} {m : TM} (h : TabIs w B t bm n D m) (c s V E : Int) (k0 : Nat) (bs0 : List UInt8) (hask : ∀ W, TabIs W B t bm n D m → Calls Try.prog 18 #[.pointer (some ⟨t, 0, none⟩), .int .i64 c, .int .i64 s] W (AskIs B t bm n D m V E k0 bs0 W))
    (k : Nat) (A : Option Addr) (d dc : Nat) (bs : List UInt8) (hk : k < 256) (hd : bs.length = d) (hdc : d ≤ dc) (hdm : dc ≤ 9223372036854775807) (hr : Rd w A (bys bs)) (hE : E ≠ 0) : Calls Try.prog 17 #[.pointer (some ⟨t, 0, none⟩), .int .i64 c, .int .i64 s, resv k A d dc] w fun e w' => e = .returned (.int .i64 (E)) ∧ Below w.heap.size w w' := by
  have q1 : (E != 0) = true := by simpa using hE
  obtain ⟨g, hg⟩ : ∃ g, w.heap.size = g := ⟨_, rfl⟩
  obtain ⟨w0, hw0⟩ : ∃ x, w.alloc (.cells #[.int .u8 k, .slice A d dc] 33) = x := ⟨_, rfl⟩
  have hP : Blk w0 g [.int .u8 k, .slice A d dc] 33 := by rw [← hw0, ← hg]; exact Blk.new w [.int .u8 k, .slice A d dc] _
  have hb0 : Below w.heap.size w w0 := by rw [← hw0]; exact (Below.refl _ _).alloc (Nat.le_refl _) _
  have Hw0 := hide hw0
  have HA := hide hask
  have Hd := hide hd
  clear hw0 hask hd
  go_enter Try.func17, Try.ntmps17
  go_wp2_with fail
  rw [Hw0.out]
  go_fit (HA.out w0 (h.below hb0))
  rintro x w1 ⟨A1, dc1, rfl, hl1, hm1, hd1, hr1, ha1, hT1, hb1⟩
  have hb01 := hb0.trans (hb1.mono hb0.size)
  have hP1 := hP.below hb1
  have hbA : Below w1.heap.size w1 (w1.alloc (.cells #[.int .u8 k0, .slice A1 bs0.length dc1] 33)) := (Below.refl _ _).alloc (Nat.le_refl _) _
  have p0 := (hP1.alloc (.cells #[.int .u8 k0, .slice A1 bs0.length dc1] 33)).cell (j := 0) rfl
  have p1 := (hP1.alloc (.cells #[.int .u8 k0, .slice A1 bs0.length dc1] 33)).cell (j := 1) rfl
  have hb02 := hb01.trans (hbA.mono hb01.size)
  go_wp2
  go_ret
  exact ⟨rfl, hb02⟩
set_option maxHeartbeats 1600000 in
theorem put_badR {w : World} {B t bm n : Nat} {D : DataW Value} {m : TM} (h : TabIs w B t bm n D m) (c s V : Int) (k0 : Nat) (bs0 : List UInt8) (hask : ∀ W, TabIs W B t bm n D m → Calls Try.prog 18 #[.pointer (some ⟨t, 0, none⟩), .int .i64 c, .int .i64 s] W (AskIs B t bm n D m V 0 k0 bs0 W))
    (k : Nat) (A : Option Addr) (d dc : Nat) (bs : List UInt8) (hk : k < 256) (hd : bs.length = d) (hdc : d ≤ dc) (hdm : dc ≤ 9223372036854775807) (hr : Rd w A (bys bs)) (hR : rsE k d ≠ 0) : Calls Try.prog 17 #[.pointer (some ⟨t, 0, none⟩), .int .i64 c, .int .i64 s, resv k A d dc] w fun e w' => e = .returned (.int .i64 (60)) ∧ Below w.heap.size w w' := by
  obtain ⟨R, hRR⟩ : ∃ R, rsE k d = R := ⟨_, rfl⟩
  rw [hRR] at hR
  have HR := hide hRR
  have q1 : (R != 0) = true := by simpa using hR
  clear hRR hR
  obtain ⟨g, hg⟩ : ∃ g, w.heap.size = g := ⟨_, rfl⟩
  obtain ⟨w0, hw0⟩ : ∃ x, w.alloc (.cells #[.int .u8 k, .slice A d dc] 33) = x := ⟨_, rfl⟩
  have hP : Blk w0 g [.int .u8 k, .slice A d dc] 33 := by rw [← hw0, ← hg]; exact Blk.new w [.int .u8 k, .slice A d dc] _
  have hb0 : Below w.heap.size w w0 := by rw [← hw0]; exact (Below.refl _ _).alloc (Nat.le_refl _) _
  have Hw0 := hide hw0
  have HA := hide hask
  have Hd := hide hd
  clear hw0 hask hd
  go_enter Try.func17, Try.ntmps17
  go_wp2_with fail
  rw [Hw0.out]
  go_fit (HA.out w0 (h.below hb0))
  rintro x w1 ⟨A1, dc1, rfl, hl1, hm1, hd1, hr1, ha1, hT1, hb1⟩
  have hb01 := hb0.trans (hb1.mono hb0.size)
  have hP1 := hP.below hb1
  have hbA : Below w1.heap.size w1 (w1.alloc (.cells #[.int .u8 k0, .slice A1 bs0.length dc1] 33)) := (Below.refl _ _).alloc (Nat.le_refl _) _
  have p0 := (hP1.alloc (.cells #[.int .u8 k0, .slice A1 bs0.length dc1] 33)).cell (j := 0) rfl
  have p1 := (hP1.alloc (.cells #[.int .u8 k0, .slice A1 bs0.length dc1] 33)).cell (j := 1) rfl
  have hb02 := hb01.trans (hbA.mono hb01.size)
  go_wp2_with fail
  go_fit (result_any k A d dc _ hk)
  rw [HR.out]
  rintro x w3 ⟨rfl, hb3⟩
  go_wp2
  go_ret
  exact ⟨rfl, hb02.trans (hb3.mono hb02.size)⟩
set_option maxHeartbeats 1600000 in
theorem put_full {w : World} {B t bm n : Nat} {D : DataW Value} {m : TM} (h : TabIs w B t bm n D m) (c s V : Int) (k0 : Nat) (bs0 : List UInt8) (hask : ∀ W, TabIs W B t bm n D m → Calls Try.prog 18 #[.pointer (some ⟨t, 0, none⟩), .int .i64 c, .int .i64 s] W (AskIs B t bm n D m V 0 k0 bs0 W))
    (k : Nat) (A : Option Addr) (d dc : Nat) (bs : List UInt8) (hk : k < 256) (hd : bs.length = d) (hdc : d ≤ dc) (hdm : dc ≤ 9223372036854775807) (hr : Rd w A (bys bs)) (hR : rsE k d = 0) (hV : V = 4) : Calls Try.prog 17 #[.pointer (some ⟨t, 0, none⟩), .int .i64 c, .int .i64 s, resv k A d dc] w fun e w' => e = .returned (.int .i64 (3)) ∧ Below w.heap.size w w' := by
  have HR := hide hR
  subst hV
  clear hR
  obtain ⟨g, hg⟩ : ∃ g, w.heap.size = g := ⟨_, rfl⟩
  obtain ⟨w0, hw0⟩ : ∃ x, w.alloc (.cells #[.int .u8 k, .slice A d dc] 33) = x := ⟨_, rfl⟩
  have hP : Blk w0 g [.int .u8 k, .slice A d dc] 33 := by rw [← hw0, ← hg]; exact Blk.new w [.int .u8 k, .slice A d dc] _
  have hb0 : Below w.heap.size w w0 := by rw [← hw0]; exact (Below.refl _ _).alloc (Nat.le_refl _) _
  have Hw0 := hide hw0
  have HA := hide hask
  have Hd := hide hd
  clear hw0 hask hd
  go_enter Try.func17, Try.ntmps17
  go_wp2_with fail
  rw [Hw0.out]
  go_fit (HA.out w0 (h.below hb0))
  rintro x w1 ⟨A1, dc1, rfl, hl1, hm1, hd1, hr1, ha1, hT1, hb1⟩
  have hb01 := hb0.trans (hb1.mono hb0.size)
  have hP1 := hP.below hb1
  have hbA : Below w1.heap.size w1 (w1.alloc (.cells #[.int .u8 k0, .slice A1 bs0.length dc1] 33)) := (Below.refl _ _).alloc (Nat.le_refl _) _
  have p0 := (hP1.alloc (.cells #[.int .u8 k0, .slice A1 bs0.length dc1] 33)).cell (j := 0) rfl
  have p1 := (hP1.alloc (.cells #[.int .u8 k0, .slice A1 bs0.length dc1] 33)).cell (j := 1) rfl
  have hb02 := hb01.trans (hbA.mono hb01.size)
  go_wp2_with fail
  go_fit (result_any k A d dc _ hk)
  rw [HR.out]
  rintro x w3 ⟨rfl, hb3⟩
  go_wp2
  go_ret
  exact ⟨rfl, hb02.trans (hb3.mono hb02.size)⟩
set_option maxHeartbeats 1600000 in
theorem put_arg {w : World} {B t bm n : Nat} {D : DataW Value} {m : TM} (h : TabIs w B t bm n D m) (c s V : Int) (k0 : Nat) (bs0 : List UInt8) (hask : ∀ W, TabIs W B t bm n D m → Calls Try.prog 18 #[.pointer (some ⟨t, 0, none⟩), .int .i64 c, .int .i64 s] W (AskIs B t bm n D m V 0 k0 bs0 W))
    (k : Nat) (A : Option Addr) (d dc : Nat) (bs : List UInt8) (hk : k < 256) (hd : bs.length = d) (hdc : d ≤ dc) (hdm : dc ≤ 9223372036854775807) (hr : Rd w A (bys bs)) (hR : rsE k d = 0) (hV4 : V ≠ 4) (hV1 : V ≠ 1) : Calls Try.prog 17 #[.pointer (some ⟨t, 0, none⟩), .int .i64 c, .int .i64 s, resv k A d dc] w fun e w' => e = .returned (.int .i64 (1)) ∧ Below w.heap.size w w' := by
  have HR := hide hR
  have q1 : (V == 4) = false := by simpa using hV4
  have q2 : (V != 1) = true := by simpa using hV1
  clear hR hV4 hV1
  obtain ⟨g, hg⟩ : ∃ g, w.heap.size = g := ⟨_, rfl⟩
  obtain ⟨w0, hw0⟩ : ∃ x, w.alloc (.cells #[.int .u8 k, .slice A d dc] 33) = x := ⟨_, rfl⟩
  have hP : Blk w0 g [.int .u8 k, .slice A d dc] 33 := by rw [← hw0, ← hg]; exact Blk.new w [.int .u8 k, .slice A d dc] _
  have hb0 : Below w.heap.size w w0 := by rw [← hw0]; exact (Below.refl _ _).alloc (Nat.le_refl _) _
  have Hw0 := hide hw0
  have HA := hide hask
  have Hd := hide hd
  clear hw0 hask hd
  go_enter Try.func17, Try.ntmps17
  go_wp2_with fail
  rw [Hw0.out]
  go_fit (HA.out w0 (h.below hb0))
  rintro x w1 ⟨A1, dc1, rfl, hl1, hm1, hd1, hr1, ha1, hT1, hb1⟩
  have hb01 := hb0.trans (hb1.mono hb0.size)
  have hP1 := hP.below hb1
  have hbA : Below w1.heap.size w1 (w1.alloc (.cells #[.int .u8 k0, .slice A1 bs0.length dc1] 33)) := (Below.refl _ _).alloc (Nat.le_refl _) _
  have p0 := (hP1.alloc (.cells #[.int .u8 k0, .slice A1 bs0.length dc1] 33)).cell (j := 0) rfl
  have p1 := (hP1.alloc (.cells #[.int .u8 k0, .slice A1 bs0.length dc1] 33)).cell (j := 1) rfl
  have hb02 := hb01.trans (hbA.mono hb01.size)
  go_wp2_with fail
  go_fit (result_any k A d dc _ hk)
  rw [HR.out]
  rintro x w3 ⟨rfl, hb3⟩
  go_wp2
  go_ret
  exact ⟨rfl, hb02.trans (hb3.mono hb02.size)⟩
set_option maxRecDepth 20000 in
set_option maxHeartbeats 3200000 in
theorem put_ok {w : World} {B t bm n : Nat} {D : DataW Value} {m : TM} (h : TabIs w B t bm n D m) (c s : Int) (k0 : Nat) (bs0 : List UInt8) (hask : ∀ W, TabIs W B t bm n D m → Calls Try.prog 18 #[.pointer (some ⟨t, 0, none⟩), .int .i64 c, .int .i64 s] W (AskIs B t bm n D m 1 0 k0 bs0 W))
    (k : Nat) (A : Option Addr) (d dc : Nat) (bs : List UInt8) (hk : k < 256) (hd : bs.length = d) (hdc : d ≤ dc) (hdm : dc ≤ 9223372036854775807) (hr : Rd w A (bys bs)) (hR : rsE k d = 0) (hd8 : d ≤ 262144) (hc1 : -9223372036854775808 ≤ c) (hc2 : c ≤ 9223372036854775807) (hn : n < 4096) : Calls Try.prog 17 #[.pointer (some ⟨t, 0, none⟩), .int .i64 c, .int .i64 s, resv k A d dc] w fun e w' => e = .returned (.int .i64 0) ∧
    (∃ D', TabIs w' B t bm (n + 1) D' (tmPut m c s k bs) ∧ Maps.size D' = szNew m c (Maps.size D)) ∧ w.heap.size ≤ w'.heap.size ∧ (∀ W : World, Below B W w → B ≤ w.heap.size → Below B W w') := by
  have HR := hide hR
  have tl := h.blk.lt
  have bl := h.own.lt
  obtain ⟨hB1, hB2⟩ := h.hB
  clear hR
  obtain ⟨g, hg⟩ : ∃ g, w.heap.size = g := ⟨_, rfl⟩
  obtain ⟨w0, hw0⟩ : ∃ x, w.alloc (.cells #[.int .u8 k, .slice A d dc] 33) = x := ⟨_, rfl⟩
  have hP : Blk w0 g [.int .u8 k, .slice A d dc] 33 := by rw [← hw0, ← hg]; exact Blk.new w [.int .u8 k, .slice A d dc] _
  have hb0 : Below w.heap.size w w0 := by rw [← hw0]; exact (Below.refl _ _).alloc (Nat.le_refl _) _
  have Hw0 := hide hw0
  have HA := hide hask
  have Hd := hide hd
  clear hw0 hask hd
  go_enter Try.func17, Try.ntmps17
  go_wp2_with fail
  rw [Hw0.out]
  go_fit (HA.out w0 (h.below hb0))
  rintro x w1 ⟨A1, dc1, rfl, hl1, hm1, hd1, hr1, ha1, hT1, hb1⟩
  have hb01 := hb0.trans (hb1.mono hb0.size)
  have hP1 := hP.below hb1
  have hbA : Below w1.heap.size w1 (w1.alloc (.cells #[.int .u8 k0, .slice A1 bs0.length dc1] 33)) := (Below.refl _ _).alloc (Nat.le_refl _) _
  have p0 := (hP1.alloc (.cells #[.int .u8 k0, .slice A1 bs0.length dc1] 33)).cell (j := 0) rfl
  have p1 := (hP1.alloc (.cells #[.int .u8 k0, .slice A1 bs0.length dc1] 33)).cell (j := 1) rfl
  have hb02 := hb01.trans (hbA.mono hb01.size)
  go_wp2_with fail
  go_fit (result_any k A d dc _ hk)
  rw [HR.out]
  rintro x w3 ⟨rfl, hb3⟩
  have hb03 := hb02.trans (hb3.mono hb02.size)
  have hT3 := h.below hb03
  have hP3 := (hP1.below hbA).below hb3
  have hr3 := hr.below hb03
  have sz3 := hb03.size
  clear p0 p1
  have p0 := hP3.cell (j := 0) rfl
  have p1 := hP3.cell (j := 1) rfl
  have t0 := hT3.blk.cell (j := 0) rfl
  go_wp2_with fail
  go_region_with (first
    | (go_at_call 28; refine (cloneR_any k A d dc bs _ Hd.out hd8 (by exact hr3.drew)).mono ?_; rintro x w4 ⟨A4, c4, rfl, hc4, hm4, hr4, ha4, hb4⟩; have hb4' : Below w3.heap.size w3 w4 := ⟨hb4.os, hb4.tape, hb4.output, hb4.size, hb4.block⟩; have hT4 := hT3.below hb4'; have t4 := hT4.blk.cell (j := 0) rfl; obtain ⟨w5, hst, hown5, hg5⟩ := hT4.own.update keyed_int Try.underlying56 (by unfold maxLen; omega) (key_ok hc1 hc2) (show rdV (entV s k A4 d c4) = some (.held (entV s k A4 d c4), []) from rfl)))
  all_goals
    have hA4 : ∀ a, A4 = some a → B ≤ a.block ∧ a.block ≠ t ∧ a.block ≠ bm := fun a ha => by have := ha4 a ha; have e : w3.drew.heap.size = w3.heap.size := rfl; omega
    have hT5 := hT4.put hk Hd.out hc4 hd8 hm4 hr4 hA4 hown5 hg5
    have hz5 := hT4.size_put c (entV s k A4 d c4)
    have sz4 := hb4'.size
    have sz5 := hg5.size
    go_wp2
    go_ret
    refine ⟨rfl, ⟨_, hT5, hz5⟩, by omega, fun W hW hBw => ?_⟩
    exact ((hW.trans (hb03.mono (by omega))).trans (hb4'.mono (by omega))).grown hg5 (by omega) (fun q hq => by injection hq with hq; omega)
end Go.Proofs.Ytplodjccjobjbaa
