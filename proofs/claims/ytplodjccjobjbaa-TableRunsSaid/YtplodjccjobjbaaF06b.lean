/- package table: New, Ask, Put, Len, on a table in memory (written by gen_g6b.py). -/
import Derived.Test.YtplodjccjobjbaaF06a
namespace Go.Proofs.Ytplodjccjobjbaa
open Go.RowKit Go.Px Go.Maps
set_option linter.unusedVariables false
theorem results_scs {P : Program} {w : World} {fn : Func} {t0 t t2 : Tmp} {T : TypeId} (h : fn.results = #[.tmp t0, .cell t T, .tmp t2]) {tmps : Array Value} {b : Nat} (hx : tmps.getD t undef = .pointer (some ⟨b, 0, none⟩)) {vs : List Value} {B : TypeId} {d : TypeDesc} (hc : Blk w b vs B)
    (hu : P.underlying T = some d) (hd : d.isRow = true) (hi : (P.info? T).map (·.size) = some vs.length) : (results fn tmps).run P w = .ok (.tuple #[tmps.getD t0 undef, .agg vs.toArray, tmps.getD t2 undef]) w := by
  have := run_loadVar_mid (P := P) w b 0 T vs d hc.range hu hd hi
  have hx' : (tmps[t]?).getD undef = .pointer (some ⟨b, 0, none⟩) := by rw [← hx]; simp [Array.getD_eq_getD_getElem?]
  simp [results, h, hx', asAddr, this]
@[go_sem] theorem neqnil_map (w : World) (bm : Nat) : (binOp .neq 56 (.map (some bm)) (.map none)).run Try.prog w = .ok (.bool true) w := by kernel_rfl
theorem leBk {B g j : Nat} (h : B ≤ g) : B ≤ (⟨g, j, none⟩ : Addr).block := h
theorem made06_any {w : World} {B t bm n : Nat} {D : DataW Value} {m : TM} (h : TabIs w B t bm n D m) : Calls Try.prog 26 #[.pointer (some ⟨t, 0, none⟩)] w fun e w' => e = .returned (.bool true) ∧ w = w' := by
  have x0 := h.blk.cell (j := 0) rfl
  go_enter Try.func26, Try.ntmps26
  go_wp2
  go_ret
  exact ⟨rfl, rfl⟩
set_option maxHeartbeats 800000 in
theorem cloneR_any (k : Nat) (A : Option Addr) (d dc : Nat) (bs : List UInt8) (w : World) (hd : bs.length = d) (hd8 : d ≤ 262144) (hr : Rd w A (bys bs)) :
    Calls Try.prog 28 #[resv k A d dc] w fun e w' => ∃ A' c, e = .returned (resv k A' d c) ∧ d ≤ c ∧ c ≤ 9223372036854775807 ∧ Rd w' A' (bys bs) ∧ (∀ a, A' = some a → w.heap.size ≤ a.block) ∧ Below w.heap.size w w' := by
  obtain ⟨g, hg⟩ : ∃ g, w.heap.size = g := ⟨_, rfl⟩
  obtain ⟨w0, hw0⟩ : ∃ x, (w.alloc (.cells #[.int .u8 k, .slice A d dc] 33)).alloc (.cells #[.int .u8 0, .slice none 0 0] 33) = x := ⟨_, rfl⟩
  have hP : Blk w0 g [.int .u8 k, .slice A d dc] 33 := by rw [← hw0, ← hg]; exact (Blk.new w [.int .u8 k, .slice A d dc] _).alloc _
  have hZ : Blk w0 (g + 1) [.int .u8 0, .slice none 0 0] 33 := by
    rw [← hw0, ← hg]
    have := Blk.new (w.alloc (.cells #[.int .u8 k, .slice A d dc] 33)) [.int .u8 0, .slice none 0 0] 33
    rwa [World.size_alloc] at this
  have hb0 : Below w.heap.size w w0 := by rw [← hw0]; exact ((Below.refl _ _).alloc (Nat.le_refl _) _).alloc (by simp) _
  have x1 := hP.cell (j := 1) rfl
  have Hd := hide hd
  have hr0 := hr.below hb0
  have zl := hZ.lt
  clear hd
  go_enter Try.func28, Try.ntmps28
  go_wp2_with fail
  first | rw [hw0] | skip
  go_fit (clone_any A d dc bs w0 Hd.out (by omega) hr0)
  rintro x w1 ⟨u, rfl, ho, hb1⟩
  obtain ⟨A1, c1, rfl, _, hc1, hcm1, hr1, ha1⟩ := own_out ho
  have hP1 := hP.below hb1
  have hZ1 := hZ.below hb1
  have szz := hb0.size
  have szy := hb1.size
  clear x1
  have x0 := hP1.cell (j := 0) rfl
  have x1 := hP1.cell (j := 1) rfl
  have f1 := hP1.frozen 1
  have z0 := hZ1.cell (j := 0) rfl
  have z1 := hZ1.cell (j := 1) rfl
  have fz0 := hZ1.frozen 0
  have fz1 := hZ1.frozen 1
  have hP2 := hP1.set 1 (.slice A1 d c1)
  have hZ2 := hZ1.apart (k := g) (by omega) 1 (.slice A1 d c1)
  have y0 := hP2.cell (j := 0) rfl
  have y1 := hP2.cell (j := 1) rfl
  have v0 := hZ2.cell (j := 0) rfl
  have v1 := hZ2.cell (j := 1) rfl
  have fv0 := hZ2.frozen 0
  have fv1 := hZ2.frozen 1
  go_wp2
  refine bodyPost_ret (results_cell rfl rfl ((hZ2.set 0 (.int .u8 k)).set 1 (.slice A1 d c1)) Try.underlying33 rfl (by kernel_rfl)) rfl ?_
  refine ⟨A1, c1, rfl, hc1, by unfold maxLen at hcm1; omega, ?_, fun a ha => by have := ha1 a ha; omega, (((hb0.trans (hb1.mono hb0.size)).setCell (leBk (by omega)) _).setCell (leBk (by omega)) _).setCell (leBk (by omega)) _⟩
  exact ((hr1.upset (fun a ha => (ha1 a ha).1) (by omega)).upset (fun a ha => (ha1 a ha).1) (by omega)).upset (fun a ha => (ha1 a ha).1) (by omega)
set_option maxHeartbeats 800000 in
theorem new06_any (w : World) : Calls Try.prog 16 #[] w fun e w' => ∃ t bm, e = .returned (.pointer (some ⟨t, 0, none⟩)) ∧ TabIs w' w.heap.size t bm 0 (.map []) (fun _ => none) ∧ Below w.heap.size w w' := by
  have hmm := @run_makeMap Try.prog
  go_enter Try.func16, Try.ntmps16
  go_wp2
  go_ret
  refine ⟨w.heap.size + 1, w.heap.size, by simp, ?_, ((Below.refl _ _).alloc (Nat.le_refl _) _).alloc (by simp) _⟩
  have h0 := (World.ownsMap_made w Try.prog 3 rdV).alloc (.cells #[.map (some w.heap.size)] 58)
  have h1 := Blk.new (w.alloc (.map #[] 0)) [.map (some w.heap.size)] 58
  rw [World.size_alloc] at h1
  exact ⟨h1, h0, fun c => rfl, by omega, by omega, by omega⟩
set_option maxHeartbeats 800000 in
theorem len06_any {w : World} {B t bm n : Nat} {D : DataW Value} {m : TM} (h : TabIs w B t bm n D m) : Calls Try.prog 11 #[.pointer (some ⟨t, 0, none⟩)] w fun e w' => e = .returned (.int .i64 (Maps.size D : Nat)) ∧ w = w' := by
  have x0 := h.blk.cell (j := 0) rfl
  have hl := fun ty => h.len ty
  go_enter Try.func11, Try.ntmps11
  go_wp2_with fail
  go_fit (made06_any h)
  rintro x w1 ⟨rfl, rfl⟩
  go_wp2
  go_ret
  exact ⟨rfl, rfl⟩
/-- What Ask tells: the verdict, the error, the code, the data. -/
def AskIs (B t bm n : Nat) (D : DataW Value) (m : TM) (V E : Int) (k : Nat) (bs : List UInt8) (w : World) (e : Ending) (w' : World) : Prop :=
  ∃ A dc, e = .returned (.tuple #[.int .i64 V, resv k A bs.length dc, .int .i64 E]) ∧ bs.length ≤ dc ∧ dc ≤ 9223372036854775807 ∧ bs.length ≤ 262144 ∧ Rd w' A (bys bs) ∧ (∀ a, A = some a → w.heap.size ≤ a.block) ∧ TabIs w' B t bm n D m ∧ Below w.heap.size w w'
set_option maxHeartbeats 1600000 in
theorem ask_bad {w : World} {B t bm n : Nat} {D : DataW Value} {m : TM} (h : TabIs w B t bm n D m) (c s : Int) (hb : serB c = false ∨ (serB c = true ∧ serB s = false)) : Calls Try.prog 18 #[.pointer (some ⟨t, 0, none⟩), .int .i64 c, .int .i64 s] w (AskIs B t bm n D m 0 5 0 [] w) := by
  obtain ⟨g, hg⟩ : ∃ g, w.heap.size = g := ⟨_, rfl⟩
  obtain ⟨w0, hw0⟩ : ∃ x, w.alloc (.cells #[.int .u8 0, .slice none 0 0] 33) = x := ⟨_, rfl⟩
  have hZ : Blk w0 g [.int .u8 0, .slice none 0 0] 33 := by rw [← hw0, ← hg]; exact Blk.new w [.int .u8 0, .slice none 0 0] _
  have hb0 : Below w.heap.size w w0 := by rw [← hw0]; exact (Below.refl _ _).alloc (Nat.le_refl _) _
  have h0 := h.below hb0
  have Hw0 := hide hw0
  clear hw0
  have x0 := h0.blk.cell (j := 0) rfl
  have z0 := hZ.cell (j := 0) rfl
  have z1 := hZ.cell (j := 1) rfl
  have fz0 := hZ.frozen 0
  have fz1 := hZ.frozen 1
  have tl := h.blk.lt
  have bl := h.own.lt
  have zl := hZ.lt
  rcases hb with hc | ⟨hc, hs⟩
  · have Hc := hide hc
    clear hc
    go_enter Try.func18, Try.ntmps18
    go_wp2_with fail
    rw [Hw0.out]
    go_fit (made06_any h0)
    rintro x w1 ⟨rfl, rfl⟩
    go_wp2_with fail
    go_fit (serial_any c w0)
    rw [Hc.out]
    rintro x w1 ⟨rfl, rfl⟩
    go_wp2
    refine bodyPost_ret (results_scs rfl rfl (((hZ.set 0 (.int .u8 0)).set 1 (.slice none 0 0))) Try.underlying33 rfl (by kernel_rfl)) rfl ?_
    have hbz := (hb0.setCell (p := ⟨g, 0, none⟩) (leBk (by omega)) (.int .u8 0)).setCell (p := ⟨g, 1, none⟩) (leBk (by omega)) (.slice none 0 0)
    exact ⟨none, 0, rfl, by simp, by omega, by simp, Rd.nil, (fun a ha => by cases ha), h.below hbz, hbz⟩
  · have Hc := hide hc
    have Hs := hide hs
    clear hc hs
    go_enter Try.func18, Try.ntmps18
    go_wp2_with fail
    rw [Hw0.out]
    go_fit (made06_any h0)
    rintro x w1 ⟨rfl, rfl⟩
    go_wp2_with fail
    go_fit (serial_any c w0)
    rw [Hc.out]
    rintro x w1 ⟨rfl, rfl⟩
    go_wp2_with fail
    go_fit (serial_any s w0)
    rw [Hs.out]
    rintro x w1 ⟨rfl, rfl⟩
    go_wp2
    refine bodyPost_ret (results_scs rfl rfl (((hZ.set 0 (.int .u8 0)).set 1 (.slice none 0 0))) Try.underlying33 rfl (by kernel_rfl)) rfl ?_
    have hbz := (hb0.setCell (p := ⟨g, 0, none⟩) (leBk (by omega)) (.int .u8 0)).setCell (p := ⟨g, 1, none⟩) (leBk (by omega)) (.slice none 0 0)
    exact ⟨none, 0, rfl, by simp, by omega, by simp, Rd.nil, (fun a ha => by cases ha), h.below hbz, hbz⟩
set_option maxHeartbeats 1600000 in
theorem ask_full {w : World} {B t bm n : Nat} {D : DataW Value} {m : TM} (h : TabIs w B t bm n D m) (c s : Int) (hc : serB c = true) (hs : serB s = true) (hm : m c = none) (hN : 64 ≤ Maps.size D) : Calls Try.prog 18 #[.pointer (some ⟨t, 0, none⟩), .int .i64 c, .int .i64 s] w (AskIs B t bm n D m 4 0 0 [] w) := by
  obtain ⟨g, hg⟩ : ∃ g, w.heap.size = g := ⟨_, rfl⟩
  obtain ⟨w0, hw0⟩ : ∃ x, w.alloc (.cells #[.int .u8 0, .slice none 0 0] 33) = x := ⟨_, rfl⟩
  have hZ : Blk w0 g [.int .u8 0, .slice none 0 0] 33 := by rw [← hw0, ← hg]; exact Blk.new w [.int .u8 0, .slice none 0 0] _
  have hb0 : Below w.heap.size w w0 := by rw [← hw0]; exact (Below.refl _ _).alloc (Nat.le_refl _) _
  have h0 := h.below hb0
  have Hw0 := hide hw0
  clear hw0
  have x0 := h0.blk.cell (j := 0) rfl
  have z0 := hZ.cell (j := 0) rfl
  have z1 := hZ.cell (j := 1) rfl
  have fz0 := hZ.frozen 0
  have fz1 := hZ.frozen 1
  have tl := h.blk.lt
  have bl := h.own.lt
  have zl := hZ.lt
  have hcr := serB_out hc
  have hsr := serB_out hs
  have Hc := hide hc
  have Hs := hide hs
  clear hc hs
  have hlk := h0.look_none (c := c) (by omega) (by omega) hm
  have e0 : Blk (w0.alloc (.cells #[.int .i64 0, .int .u8 0, .slice none 0 0] 64)) w0.heap.size [.int .i64 0, .int .u8 0, .slice none 0 0] _ := Blk.new w0 [.int .i64 0, .int .u8 0, .slice none 0 0] 64
  obtain ⟨w2, hw2⟩ : ∃ x, w0.alloc (.cells #[.int .i64 0, .int .u8 0, .slice none 0 0] 64) = x := ⟨_, rfl⟩
  have hb2 : Below w0.heap.size w0 w2 := by rw [← hw2]; exact (Below.refl _ _).alloc (Nat.le_refl _) _
  have hb02 := hb0.trans (hb2.mono hb0.size)
  have h2 := h0.below hb2
  have hZ2 := hZ.below hb2
  have hl2 := fun ty => h2.len ty
  have hNI : (64 : Int) ≤ ((Maps.size D : Nat) : Int) := by omega
  go_enter Try.func18, Try.ntmps18
  go_wp2_with fail
  rw [Hw0.out]
  go_fit (made06_any h0)
  rintro x w1 ⟨rfl, rfl⟩
  go_wp2_with fail
  go_fit (serial_any c w0)
  rw [Hc.out]
  rintro x w1 ⟨rfl, rfl⟩
  go_wp2_with fail
  go_fit (serial_any s w0)
  rw [Hs.out]
  rintro x w1 ⟨rfl, rfl⟩
  have y0 : (w0.alloc (.cells #[.int .i64 0, .int .u8 0, .slice none 0 0] 64)).cell? ⟨t, 0, none⟩ = some (.map (some bm)) := by rw [hw2]; exact h2.blk.cell (j := 0) rfl
  have hl2' := fun ty => (show (Builtin.len_ #[56] ty #[.map (some bm)]).run Try.prog (w0.alloc (.cells #[.int .i64 0, .int .u8 0, .slice none 0 0] 64)) = .ok (.int .i64 (Maps.size D)) (w0.alloc (.cells #[.int .i64 0, .int .u8 0, .slice none 0 0] 64)) by rw [hw2]; exact hl2 ty)
  have q0 := hZ.alloc (.cells #[.int .i64 0, .int .u8 0, .slice none 0 0] 64)
  have qz0 := q0.cell (j := 0) rfl
  have qz1 := q0.cell (j := 1) rfl
  have qf0 := q0.frozen 0
  have qf1 := q0.frozen 1
  have Hw2 := hide hw2
  clear hw2 hl2
  go_wp2
  refine bodyPost_ret (results_scs rfl rfl (((hZ.set 0 (.int .u8 0)).set 1 (.slice none 0 0)).alloc _) Try.underlying33 rfl (by kernel_rfl)) rfl ?_
  have hbz := ((hb0.setCell (p := ⟨g, 0, none⟩) (leBk (by omega)) (.int .u8 0)).setCell (p := ⟨g, 1, none⟩) (leBk (by omega)) (.slice none 0 0)).alloc (by have := hb0.size; simpa using this) (.cells #[.int .i64 0, .int .u8 0, .slice none 0 0] 64)
  exact ⟨none, 0, rfl, by simp, by omega, by simp, Rd.nil, (fun a ha => by cases ha), h.below hbz, hbz⟩
set_option maxHeartbeats 1600000 in
theorem ask_new0 {w : World} {B t bm n : Nat} {D : DataW Value} {m : TM} (h : TabIs w B t bm n D m) (c s : Int) (hc : serB c = true) (hs : serB s = true) (hm : m c = none) (hN : Maps.size D < 64) : Calls Try.prog 18 #[.pointer (some ⟨t, 0, none⟩), .int .i64 c, .int .i64 s] w (AskIs B t bm n D m 1 0 0 [] w) := by
  obtain ⟨g, hg⟩ : ∃ g, w.heap.size = g := ⟨_, rfl⟩
  obtain ⟨w0, hw0⟩ : ∃ x, w.alloc (.cells #[.int .u8 0, .slice none 0 0] 33) = x := ⟨_, rfl⟩
  have hZ : Blk w0 g [.int .u8 0, .slice none 0 0] 33 := by rw [← hw0, ← hg]; exact Blk.new w [.int .u8 0, .slice none 0 0] _
  have hb0 : Below w.heap.size w w0 := by rw [← hw0]; exact (Below.refl _ _).alloc (Nat.le_refl _) _
  have h0 := h.below hb0
  have Hw0 := hide hw0
  clear hw0
  have x0 := h0.blk.cell (j := 0) rfl
  have z0 := hZ.cell (j := 0) rfl
  have z1 := hZ.cell (j := 1) rfl
  have fz0 := hZ.frozen 0
  have fz1 := hZ.frozen 1
  have tl := h.blk.lt
  have bl := h.own.lt
  have zl := hZ.lt
  have hcr := serB_out hc
  have hsr := serB_out hs
  have Hc := hide hc
  have Hs := hide hs
  clear hc hs
  have hlk := h0.look_none (c := c) (by omega) (by omega) hm
  have e0 : Blk (w0.alloc (.cells #[.int .i64 0, .int .u8 0, .slice none 0 0] 64)) w0.heap.size [.int .i64 0, .int .u8 0, .slice none 0 0] _ := Blk.new w0 [.int .i64 0, .int .u8 0, .slice none 0 0] 64
  obtain ⟨w2, hw2⟩ : ∃ x, w0.alloc (.cells #[.int .i64 0, .int .u8 0, .slice none 0 0] 64) = x := ⟨_, rfl⟩
  have hb2 : Below w0.heap.size w0 w2 := by rw [← hw2]; exact (Below.refl _ _).alloc (Nat.le_refl _) _
  have hb02 := hb0.trans (hb2.mono hb0.size)
  have h2 := h0.below hb2
  have hZ2 := hZ.below hb2
  have hl2 := fun ty => h2.len ty
  have hNI2 : ¬ (64 : Nat) ≤ Maps.size D := by omega
  have hNI : decide ((64 : Int) ≤ ((Maps.size D : Nat) : Int)) = false := decide_eq_false (by omega)
  go_enter Try.func18, Try.ntmps18
  go_wp2_with fail
  rw [Hw0.out]
  go_fit (made06_any h0)
  rintro x w1 ⟨rfl, rfl⟩
  go_wp2_with fail
  go_fit (serial_any c w0)
  rw [Hc.out]
  rintro x w1 ⟨rfl, rfl⟩
  go_wp2_with fail
  go_fit (serial_any s w0)
  rw [Hs.out]
  rintro x w1 ⟨rfl, rfl⟩
  have y0 : (w0.alloc (.cells #[.int .i64 0, .int .u8 0, .slice none 0 0] 64)).cell? ⟨t, 0, none⟩ = some (.map (some bm)) := by rw [hw2]; exact h2.blk.cell (j := 0) rfl
  have hl2' := fun ty => (show (Builtin.len_ #[56] ty #[.map (some bm)]).run Try.prog (w0.alloc (.cells #[.int .i64 0, .int .u8 0, .slice none 0 0] 64)) = .ok (.int .i64 (Maps.size D)) (w0.alloc (.cells #[.int .i64 0, .int .u8 0, .slice none 0 0] 64)) by rw [hw2]; exact hl2 ty)
  have q0 := hZ.alloc (.cells #[.int .i64 0, .int .u8 0, .slice none 0 0] 64)
  have qz0 := q0.cell (j := 0) rfl
  have qz1 := q0.cell (j := 1) rfl
  have qf0 := q0.frozen 0
  have qf1 := q0.frozen 1
  have Hw2 := hide hw2
  clear hw2 hl2
  go_wp2
  refine bodyPost_ret (results_scs rfl rfl (((hZ.set 0 (.int .u8 0)).set 1 (.slice none 0 0)).alloc _) Try.underlying33 rfl (by kernel_rfl)) rfl ?_
  have hbz := ((hb0.setCell (p := ⟨g, 0, none⟩) (leBk (by omega)) (.int .u8 0)).setCell (p := ⟨g, 1, none⟩) (leBk (by omega)) (.slice none 0 0)).alloc (by have := hb0.size; simpa using this) (.cells #[.int .i64 0, .int .u8 0, .slice none 0 0] 64)
  exact ⟨none, 0, rfl, by simp, by omega, by simp, Rd.nil, (fun a ha => by cases ha), h.below hbz, hbz⟩
set_option maxHeartbeats 1600000 in
theorem ask_new1 {w : World} {B t bm n : Nat} {D : DataW Value} {m : TM} (h : TabIs w B t bm n D m) (c s : Int) (s0 : Int) (k0 : Nat) (bs : List UInt8) (hc : serB c = true) (hs : serB s = true) (hm : m c = some (s0, k0, bs)) (hN : s0 < s) : Calls Try.prog 18 #[.pointer (some ⟨t, 0, none⟩), .int .i64 c, .int .i64 s] w (AskIs B t bm n D m 1 0 0 [] w) := by
  obtain ⟨g, hg⟩ : ∃ g, w.heap.size = g := ⟨_, rfl⟩
  obtain ⟨w0, hw0⟩ : ∃ x, w.alloc (.cells #[.int .u8 0, .slice none 0 0] 33) = x := ⟨_, rfl⟩
  have hZ : Blk w0 g [.int .u8 0, .slice none 0 0] 33 := by rw [← hw0, ← hg]; exact Blk.new w [.int .u8 0, .slice none 0 0] _
  have hb0 : Below w.heap.size w w0 := by rw [← hw0]; exact (Below.refl _ _).alloc (Nat.le_refl _) _
  have h0 := h.below hb0
  have Hw0 := hide hw0
  clear hw0
  have x0 := h0.blk.cell (j := 0) rfl
  have z0 := hZ.cell (j := 0) rfl
  have z1 := hZ.cell (j := 1) rfl
  have fz0 := hZ.frozen 0
  have fz1 := hZ.frozen 1
  have tl := h.blk.lt
  have bl := h.own.lt
  have zl := hZ.lt
  have hcr := serB_out hc
  have hsr := serB_out hs
  have Hc := hide hc
  have Hs := hide hs
  clear hc hs
  obtain ⟨hk8, A, d, dc, hlk, hd, hdc, hd8, hdm, hr⟩ := h0.look_some (c := c) (by omega) (by omega) hm
  obtain ⟨g2, hg2⟩ : ∃ x, w0.heap.size = x := ⟨_, rfl⟩
  have hE : Blk (w0.alloc (.cells #[.int .i64 s0, .int .u8 k0, .slice A d dc] 64)) g2 [.int .i64 s0, .int .u8 k0, .slice A d dc] 64 := by rw [← hg2]; exact Blk.new w0 [.int .i64 s0, .int .u8 k0, .slice A d dc] _
  have hb2 : Below w0.heap.size w0 (w0.alloc (.cells #[.int .i64 s0, .int .u8 k0, .slice A d dc] 64)) := (Below.refl _ _).alloc (Nat.le_refl _) _
  have hb02 := hb0.trans (hb2.mono hb0.size)
  have Hd := hide hd
  clear hd
  go_enter Try.func18, Try.ntmps18
  go_wp2_with fail
  rw [Hw0.out]
  go_fit (made06_any h0)
  rintro x w1 ⟨rfl, rfl⟩
  go_wp2_with fail
  go_fit (serial_any c w0)
  rw [Hc.out]
  rintro x w1 ⟨rfl, rfl⟩
  go_wp2_with fail
  go_fit (serial_any s w0)
  rw [Hs.out]
  rintro x w1 ⟨rfl, rfl⟩
  have q0 := hZ.alloc (.cells #[.int .i64 s0, .int .u8 k0, .slice A d dc] 64)
  have qz0 := q0.cell (j := 0) rfl
  have qz1 := q0.cell (j := 1) rfl
  have qf0 := q0.frozen 0
  have qf1 := q0.frozen 1
  have e0 := hE.cell (j := 0) rfl
  have e1 := hE.cell (j := 1) rfl
  have e2 := hE.cell (j := 2) rfl
  go_wp2
  refine bodyPost_ret (results_scs rfl rfl (((q0.set 0 (.int .u8 0)).set 1 (.slice none 0 0))) Try.underlying33 rfl (by kernel_rfl)) rfl ?_
  have sz2 := hb02.size
  have hbz := (hb02.setCell (p := ⟨g, 0, none⟩) (leBk (by omega)) (.int .u8 0)).setCell (p := ⟨g, 1, none⟩) (leBk (by omega)) (.slice none 0 0)
  exact ⟨none, 0, rfl, by simp, by omega, by simp, Rd.nil, (fun a ha => by cases ha), h.below hbz, hbz⟩
set_option maxHeartbeats 1600000 in
theorem ask_old {w : World} {B t bm n : Nat} {D : DataW Value} {m : TM} (h : TabIs w B t bm n D m) (c s : Int) (s0 : Int) (k0 : Nat) (bs : List UInt8) (hc : serB c = true) (hs : serB s = true) (hm : m c = some (s0, k0, bs)) (hN : s < s0) : Calls Try.prog 18 #[.pointer (some ⟨t, 0, none⟩), .int .i64 c, .int .i64 s] w (AskIs B t bm n D m 3 0 0 [] w) := by
  obtain ⟨g, hg⟩ : ∃ g, w.heap.size = g := ⟨_, rfl⟩
  obtain ⟨w0, hw0⟩ : ∃ x, w.alloc (.cells #[.int .u8 0, .slice none 0 0] 33) = x := ⟨_, rfl⟩
  have hZ : Blk w0 g [.int .u8 0, .slice none 0 0] 33 := by rw [← hw0, ← hg]; exact Blk.new w [.int .u8 0, .slice none 0 0] _
  have hb0 : Below w.heap.size w w0 := by rw [← hw0]; exact (Below.refl _ _).alloc (Nat.le_refl _) _
  have h0 := h.below hb0
  have Hw0 := hide hw0
  clear hw0
  have x0 := h0.blk.cell (j := 0) rfl
  have z0 := hZ.cell (j := 0) rfl
  have z1 := hZ.cell (j := 1) rfl
  have fz0 := hZ.frozen 0
  have fz1 := hZ.frozen 1
  have tl := h.blk.lt
  have bl := h.own.lt
  have zl := hZ.lt
  have hcr := serB_out hc
  have hsr := serB_out hs
  have Hc := hide hc
  have Hs := hide hs
  clear hc hs
  obtain ⟨hk8, A, d, dc, hlk, hd, hdc, hd8, hdm, hr⟩ := h0.look_some (c := c) (by omega) (by omega) hm
  obtain ⟨g2, hg2⟩ : ∃ x, w0.heap.size = x := ⟨_, rfl⟩
  have hE : Blk (w0.alloc (.cells #[.int .i64 s0, .int .u8 k0, .slice A d dc] 64)) g2 [.int .i64 s0, .int .u8 k0, .slice A d dc] 64 := by rw [← hg2]; exact Blk.new w0 [.int .i64 s0, .int .u8 k0, .slice A d dc] _
  have hb2 : Below w0.heap.size w0 (w0.alloc (.cells #[.int .i64 s0, .int .u8 k0, .slice A d dc] 64)) := (Below.refl _ _).alloc (Nat.le_refl _) _
  have hb02 := hb0.trans (hb2.mono hb0.size)
  have Hd := hide hd
  clear hd
  go_enter Try.func18, Try.ntmps18
  go_wp2_with fail
  rw [Hw0.out]
  go_fit (made06_any h0)
  rintro x w1 ⟨rfl, rfl⟩
  go_wp2_with fail
  go_fit (serial_any c w0)
  rw [Hc.out]
  rintro x w1 ⟨rfl, rfl⟩
  go_wp2_with fail
  go_fit (serial_any s w0)
  rw [Hs.out]
  rintro x w1 ⟨rfl, rfl⟩
  have q0 := hZ.alloc (.cells #[.int .i64 s0, .int .u8 k0, .slice A d dc] 64)
  have qz0 := q0.cell (j := 0) rfl
  have qz1 := q0.cell (j := 1) rfl
  have qf0 := q0.frozen 0
  have qf1 := q0.frozen 1
  have e0 := hE.cell (j := 0) rfl
  have e1 := hE.cell (j := 1) rfl
  have e2 := hE.cell (j := 2) rfl
  have hN2 : decide (s0 < s) = false := decide_eq_false (by omega)
  go_wp2
  refine bodyPost_ret (results_scs rfl rfl (((q0.set 0 (.int .u8 0)).set 1 (.slice none 0 0))) Try.underlying33 rfl (by kernel_rfl)) rfl ?_
  have sz2 := hb02.size
  have hbz := (hb02.setCell (p := ⟨g, 0, none⟩) (leBk (by omega)) (.int .u8 0)).setCell (p := ⟨g, 1, none⟩) (leBk (by omega)) (.slice none 0 0)
  exact ⟨none, 0, rfl, by simp, by omega, by simp, Rd.nil, (fun a ha => by cases ha), h.below hbz, hbz⟩
set_option maxHeartbeats 1600000 in
theorem ask_again {w : World} {B t bm n : Nat} {D : DataW Value} {m : TM} (h : TabIs w B t bm n D m) (c s : Int) (k0 : Nat) (bs : List UInt8) (hc : serB c = true) (hs : serB s = true) (hm : m c = some (s, k0, bs)) : Calls Try.prog 18 #[.pointer (some ⟨t, 0, none⟩), .int .i64 c, .int .i64 s] w (AskIs B t bm n D m 2 0 k0 bs w) := by
  obtain ⟨g, hg⟩ : ∃ g, w.heap.size = g := ⟨_, rfl⟩
  obtain ⟨w0, hw0⟩ : ∃ x, w.alloc (.cells #[.int .u8 0, .slice none 0 0] 33) = x := ⟨_, rfl⟩
  have hZ : Blk w0 g [.int .u8 0, .slice none 0 0] 33 := by rw [← hw0, ← hg]; exact Blk.new w [.int .u8 0, .slice none 0 0] _
  have hb0 : Below w.heap.size w w0 := by rw [← hw0]; exact (Below.refl _ _).alloc (Nat.le_refl _) _
  have h0 := h.below hb0
  have Hw0 := hide hw0
  clear hw0
  have x0 := h0.blk.cell (j := 0) rfl
  have z0 := hZ.cell (j := 0) rfl
  have z1 := hZ.cell (j := 1) rfl
  have fz0 := hZ.frozen 0
  have fz1 := hZ.frozen 1
  have tl := h.blk.lt
  have bl := h.own.lt
  have zl := hZ.lt
  have hcr := serB_out hc
  have hsr := serB_out hs
  have Hc := hide hc
  have Hs := hide hs
  clear hc hs
  obtain ⟨hk8, A, d, dc, hlk, hd, hdc, hd8, hdm, hr⟩ := h0.look_some (c := c) (by omega) (by omega) hm
  obtain ⟨g2, hg2⟩ : ∃ x, w0.heap.size = x := ⟨_, rfl⟩
  have hE : Blk (w0.alloc (.cells #[.int .i64 s, .int .u8 k0, .slice A d dc] 64)) g2 [.int .i64 s, .int .u8 k0, .slice A d dc] 64 := by rw [← hg2]; exact Blk.new w0 [.int .i64 s, .int .u8 k0, .slice A d dc] _
  have hb2 : Below w0.heap.size w0 (w0.alloc (.cells #[.int .i64 s, .int .u8 k0, .slice A d dc] 64)) := (Below.refl _ _).alloc (Nat.le_refl _) _
  have hb02 := hb0.trans (hb2.mono hb0.size)
  have Hd := hide hd
  clear hd
  go_enter Try.func18, Try.ntmps18
  go_wp2_with fail
  rw [Hw0.out]
  go_fit (made06_any h0)
  rintro x w1 ⟨rfl, rfl⟩
  go_wp2_with fail
  go_fit (serial_any c w0)
  rw [Hc.out]
  rintro x w1 ⟨rfl, rfl⟩
  go_wp2_with fail
  go_fit (serial_any s w0)
  rw [Hs.out]
  rintro x w1 ⟨rfl, rfl⟩
  have q0 := hZ.alloc (.cells #[.int .i64 s, .int .u8 k0, .slice A d dc] 64)
  have qz0 := q0.cell (j := 0) rfl
  have qz1 := q0.cell (j := 1) rfl
  have qf0 := q0.frozen 0
  have qf1 := q0.frozen 1
  have e0 := hE.cell (j := 0) rfl
  have e1 := hE.cell (j := 1) rfl
  have e2 := hE.cell (j := 2) rfl
  have hN2 : decide (s < s) = false := decide_eq_false (by omega)
  have hN3 : decide (s < s) = false := decide_eq_false (by omega)
  go_wp2_with fail
  go_fit (cloneR_any k0 A d dc bs _ Hd.out hd8 (hr.below hb2))
  rintro x w5 ⟨A5, c5, rfl, hc5, hm5, hr5, ha5, hb5⟩
  have q5 := q0.below hb5
  have hb05 := hb02.trans (hb5.mono hb02.size)
  have sz5 := hb05.size
  have sz2 := hb02.size
  clear qz0 qz1 qf0 qf1
  have qz0 := q5.cell (j := 0) rfl
  have qz1 := q5.cell (j := 1) rfl
  have qf0 := q5.frozen 0
  have qf1 := q5.frozen 1
  go_wp2
  refine bodyPost_ret (results_scs rfl rfl (((q5.set 0 (.int .u8 k0)).set 1 (.slice A5 d c5))) Try.underlying33 rfl (by kernel_rfl)) rfl ?_
  have hbz := (hb05.setCell (p := ⟨g, 0, none⟩) (leBk (by omega)) (.int .u8 k0)).setCell (p := ⟨g, 1, none⟩) (leBk (by omega)) (.slice A5 d c5)
  have gl : g < (w0.alloc (.cells #[.int .i64 s, .int .u8 k0, .slice A d dc] 64)).heap.size := by rw [World.size_alloc]; omega
  exact ⟨A5, c5, by rw [Hd.out]; rfl, by rw [Hd.out]; exact hc5, hm5, by rw [Hd.out]; exact hd8, (hr5.upset (fun a ha => ha5 a ha) gl).upset (fun a ha => ha5 a ha) gl, (fun a ha => by have := ha5 a ha; omega), h.below hbz, hbz⟩
end Go.Proofs.Ytplodjccjobjbaa
