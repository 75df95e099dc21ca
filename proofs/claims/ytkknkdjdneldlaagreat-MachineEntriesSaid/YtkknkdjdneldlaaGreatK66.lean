/- Texts joined (shake.py). -/
import Derived.Deep.Slices
import Derived.Lib.SmallJoins
import Derived.Deep.Fields
import Derived.SizedLaws
import Derived.Maps.RangeWalk
import Derived.Deep.QuietTactic
import Derived.Test.YtkknkdjdneldlaaGreatK61
import Derived.Test.YtkknkdjdneldlaaGreatK62
import Derived.Test.YtkknkdjdneldlaaGreatK65
import Derived.Test.YtkknkdjdneldlaaGreatK610
namespace Go.Proofs.YtkknkdjdneldlaaGreat
set_option maxRecDepth 20000
open Go.RowKit Go.Px Go.Maps
set_option linter.unusedVariables false
theorem results_scs {P : Program} {w : World} {fn : Func} {t0 t t2 : Tmp} {T : TypeId} (h : fn.results = #[.tmp t0, .cell t T, .tmp t2]) {tmps : Array Value} {b : Nat} (hx : tmps.getD t undef = .pointer (some ⟨b, 0, none⟩)) {vs : List Value} {B : TypeId} {d : TypeDesc} (hc : Blk w b vs B)
    (hu : P.underlying T = some d) (hd : d.isRow = true) (hi : (P.info? T).map (·.size) = some vs.length) : (results fn tmps).run P w = .ok (.tuple #[tmps.getD t0 undef, .agg vs.toArray, tmps.getD t2 undef]) w := by
  have := run_loadVar_mid (P := P) w b 0 T vs d hc.range hu hd hi
  have hx' : (tmps[t]?).getD undef = .pointer (some ⟨b, 0, none⟩) := by rw [← hx]; simp [Array.getD_eq_getD_getElem?]
  simp [results, h, hx', asAddr, this]
@[go_sem] theorem neqnil_map (w : World) (bm : Nat) : (binOp .neq 153 (.map (some bm)) (.map none)).run Tryz.prog w = .ok (.bool true) w := by kernel_rfl
theorem made06_any {w : World} {B t bm n : Nat} {D : DataW Value} {m : TM} (h : TabIs w B t bm n D m) : Calls Tryz.prog 101 #[.pointer (some ⟨t, 0, none⟩)] w fun e w' => e = .returned (.bool true) ∧ w = w' := by
  have x0 := h.blk.cell (j := 0) rfl
  go_enter Tryz.func101, Tryz.ntmps101
  go_wp2
  go_ret
  exact ⟨rfl, rfl⟩
set_option maxHeartbeats 800000 in
theorem cloneR_any (k : Nat) (A : Option Addr) (d dc : Nat) (bs : List UInt8) (w : World) (hd : bs.length = d) (hd8 : d ≤ 262144) (hr : Rd w A (bys bs)) :
    Calls Tryz.prog 103 #[resv k A d dc] w fun e w' => ∃ A' c, e = .returned (resv k A' d c) ∧ d ≤ c ∧ c ≤ 9223372036854775807 ∧ Rd w' A' (bys bs) ∧ (∀ a, A' = some a → w.heap.size ≤ a.block) ∧ Below w.heap.size w w' := by
  obtain ⟨g, hg⟩ : ∃ g, w.heap.size = g := ⟨_, rfl⟩
  obtain ⟨w0, hw0⟩ : ∃ x, (w.alloc (.cells #[.int .u8 k, .slice A d dc] 40)).alloc (.cells #[.int .u8 0, .slice none 0 0] 40) = x := ⟨_, rfl⟩
  have hP : Blk w0 g [.int .u8 k, .slice A d dc] 40 := by rw [← hw0, ← hg]; exact (Blk.new w [.int .u8 k, .slice A d dc] _).alloc _
  have hZ : Blk w0 (g + 1) [.int .u8 0, .slice none 0 0] 40 := by
    rw [← hw0, ← hg]
    have := Blk.new (w.alloc (.cells #[.int .u8 k, .slice A d dc] 40)) [.int .u8 0, .slice none 0 0] 40
    rwa [World.size_alloc] at this
  have hb0 : Below w.heap.size w w0 := by rw [← hw0]; exact ((Below.refl _ _).alloc (Nat.le_refl _) _).alloc (by simp) _
  have x1 := hP.cell (j := 1) rfl
  have Hd := hide hd
  have hr0 := hr.below hb0
  have zl := hZ.lt
  clear hd
  go_enter Tryz.func103, Tryz.ntmps103
  go_wp2_with fail
  first | rw [hw0] | skip
  go_fit (clone_any A d dc bs w0 Hd.out (by omega) hr0)
  rintro x w1 ⟨u, rfl, ho, hb1⟩
  obtain ⟨A1, c1, rfl, _, hc1, hcm1, hr1, ha1⟩ := own_out ho
  have hP1 := hP.below hb1
  have hZ1 := hZ.below hb1
  have szz := hb0.size
  have szy := hb1.size
  clear x1
  have x0 := hP1.cell (j := 0) rfl
  have x1 := hP1.cell (j := 1) rfl
  have f1 := hP1.frozen 1
  have z0 := hZ1.cell (j := 0) rfl
  have z1 := hZ1.cell (j := 1) rfl
  have fz0 := hZ1.frozen 0
  have fz1 := hZ1.frozen 1
  have hP2 := hP1.set 1 (.slice A1 d c1)
  have hZ2 := hZ1.apart (k := g) (by omega) 1 (.slice A1 d c1)
  have y0 := hP2.cell (j := 0) rfl
  have y1 := hP2.cell (j := 1) rfl
  have v0 := hZ2.cell (j := 0) rfl
  have v1 := hZ2.cell (j := 1) rfl
  have fv0 := hZ2.frozen 0
  have fv1 := hZ2.frozen 1
  go_wp2
  refine bodyPost_ret (results_cell rfl rfl ((hZ2.set 0 (.int .u8 k)).set 1 (.slice A1 d c1)) Tryz.underlying40 rfl (by kernel_rfl)) rfl ?_
  refine ⟨A1, c1, rfl, hc1, by unfold maxLen at hcm1; omega, ?_, fun a ha => by have := ha1 a ha; omega, (((hb0.trans (hb1.mono hb0.size)).setCell (leBk (by omega)) _).setCell (leBk (by omega)) _).setCell (leBk (by omega)) _⟩
  exact ((hr1.upset (fun a ha => (ha1 a ha).1) (by omega)).upset (fun a ha => (ha1 a ha).1) (by omega)).upset (fun a ha => (ha1 a ha).1) (by omega)
set_option maxHeartbeats 800000 in
theorem new06_any (w : World) : Calls Tryz.prog 121 #[] w fun e w' => ∃ t bm, e = .returned (.pointer (some ⟨t, 0, none⟩)) ∧ TabIs w' w.heap.size t bm 0 (.map []) (fun _ => none) ∧ Below w.heap.size w w' := by
  have hmm := @run_makeMap Tryz.prog
  go_enter Tryz.func121, Tryz.ntmps121
  go_wp2
  go_ret
  refine ⟨w.heap.size + 1, w.heap.size, by simp, ?_, ((Below.refl _ _).alloc (Nat.le_refl _) _).alloc (by simp) _⟩
  have h0 := (World.ownsMap_made w Tryz.prog 3 rdV).alloc (.cells #[.map (some w.heap.size)] 155)
  have h1 := Blk.new (w.alloc (.map #[] 0)) [.map (some w.heap.size)] 155
  rw [World.size_alloc] at h1
  exact ⟨h1, h0, fun c => rfl, by omega, by omega, by omega⟩
/-- What Ask tells: the verdict, the error, the code, the data. -/
def AskIs (B t bm n : Nat) (D : DataW Value) (m : TM) (V E : Int) (k : Nat) (bs : List UInt8) (w : World) (e : Ending) (w' : World) : Prop :=
  ∃ A dc, e = .returned (.tuple #[.int .i64 V, resv k A bs.length dc, .int .i64 E]) ∧ bs.length ≤ dc ∧ dc ≤ 9223372036854775807 ∧ bs.length ≤ 262144 ∧ Rd w' A (bys bs) ∧ (∀ a, A = some a → w.heap.size ≤ a.block) ∧ TabIs w' B t bm n D m ∧ Below w.heap.size w w'
set_option maxHeartbeats 1600000 in
theorem ask_bad {w : World} {B t bm n : Nat} {D : DataW Value} {m : TM} (h : TabIs w B t bm n D m) (c s : Int) (hb : serB c = false ∨ (serB c = true ∧ serB s = false)) : Calls Tryz.prog 43 #[.pointer (some ⟨t, 0, none⟩), .int .i64 c, .int .i64 s] w (AskIs B t bm n D m 0 5 0 [] w) := by
  obtain ⟨g, hg⟩ : ∃ g, w.heap.size = g := ⟨_, rfl⟩
  obtain ⟨w0, hw0⟩ : ∃ x, w.alloc (.cells #[.int .u8 0, .slice none 0 0] 40) = x := ⟨_, rfl⟩
  have hZ : Blk w0 g [.int .u8 0, .slice none 0 0] 40 := by rw [← hw0, ← hg]; exact Blk.new w [.int .u8 0, .slice none 0 0] _
  have hb0 : Below w.heap.size w w0 := by rw [← hw0]; exact (Below.refl _ _).alloc (Nat.le_refl _) _
  have h0 := h.below hb0
  have Hw0 := hide hw0
  clear hw0
  have x0 := h0.blk.cell (j := 0) rfl
  have z0 := hZ.cell (j := 0) rfl
  have z1 := hZ.cell (j := 1) rfl
  have fz0 := hZ.frozen 0
  have fz1 := hZ.frozen 1
  have tl := h.blk.lt
  have bl := h.own.lt
  have zl := hZ.lt
  rcases hb with hc | ⟨hc, hs⟩
  · have Hc := hide hc
    clear hc
    go_enter Tryz.func43, Tryz.ntmps43
    go_wp2_with fail
    rw [Hw0.out]
    go_fit (made06_any h0)
    rintro x w1 ⟨rfl, rfl⟩
    go_wp2_with fail
    go_fit (serial_any c w0)
    rw [Hc.out]
    rintro x w1 ⟨rfl, rfl⟩
    go_wp2
    refine bodyPost_ret (results_scs rfl rfl (((hZ.set 0 (.int .u8 0)).set 1 (.slice none 0 0))) Tryz.underlying40 rfl (by kernel_rfl)) rfl ?_
    have hbz := (hb0.setCell (p := ⟨g, 0, none⟩) (leBk (by omega)) (.int .u8 0)).setCell (p := ⟨g, 1, none⟩) (leBk (by omega)) (.slice none 0 0)
    exact ⟨none, 0, rfl, by simp, by omega, by simp, Rd.nil, (fun a ha => by cases ha), h.below hbz, hbz⟩
  · have Hc := hide hc
    have Hs := hide hs
    clear hc hs
    go_enter Tryz.func43, Tryz.ntmps43
    go_wp2_with fail
    rw [Hw0.out]
    go_fit (made06_any h0)
    rintro x w1 ⟨rfl, rfl⟩
    go_wp2_with fail
    go_fit (serial_any c w0)
    rw [Hc.out]
    rintro x w1 ⟨rfl, rfl⟩
    go_wp2_with fail
    go_fit (serial_any s w0)
    rw [Hs.out]
    rintro x w1 ⟨rfl, rfl⟩
    go_wp2
    refine bodyPost_ret (results_scs rfl rfl (((hZ.set 0 (.int .u8 0)).set 1 (.slice none 0 0))) Tryz.underlying40 rfl (by kernel_rfl)) rfl ?_
    have hbz := (hb0.setCell (p := ⟨g, 0, none⟩) (leBk (by omega)) (.int .u8 0)).setCell (p := ⟨g, 1, none⟩) (leBk (by omega)) (.slice none 0 0)
    exact ⟨none, 0, rfl, by simp, by omega, by simp, Rd.nil, (fun a ha => by cases ha), h.below hbz, hbz⟩
set_option maxHeartbeats 1600000 in
theorem ask_full {w : World} {B t bm n : Nat} {D : DataW Value} {m : TM} (h : TabIs w B t bm n D m) (c s : Int) (hc : serB c = true) (hs : serB s = true) (hm : m c = none) (hN : 64 ≤ Maps.size D) : Calls Tryz.prog 43 #[.pointer (some ⟨t, 0, none⟩), .int .i64 c, .int .i64 s] w (AskIs B t bm n D m 4 0 0 [] w) := by
  obtain ⟨g, hg⟩ : ∃ g, w.heap.size = g := ⟨_, rfl⟩
  obtain ⟨w0, hw0⟩ : ∃ x, w.alloc (.cells #[.int .u8 0, .slice none 0 0] 40) = x := ⟨_, rfl⟩
  have hZ : Blk w0 g [.int .u8 0, .slice none 0 0] 40 := by rw [← hw0, ← hg]; exact Blk.new w [.int .u8 0, .slice none 0 0] _
  have hb0 : Below w.heap.size w w0 := by rw [← hw0]; exact (Below.refl _ _).alloc (Nat.le_refl _) _
  have h0 := h.below hb0
  have Hw0 := hide hw0
  clear hw0
  have x0 := h0.blk.cell (j := 0) rfl
  have z0 := hZ.cell (j := 0) rfl
  have z1 := hZ.cell (j := 1) rfl
  have fz0 := hZ.frozen 0
  have fz1 := hZ.frozen 1
  have tl := h.blk.lt
  have bl := h.own.lt
  have zl := hZ.lt
  have hcr := serB_out hc
  have hsr := serB_out hs
  have Hc := hide hc
  have Hs := hide hs
  clear hc hs
  have hlk := h0.look_none (c := c) (by omega) (by omega) hm
  have e0 : Blk (w0.alloc (.cells #[.int .i64 0, .int .u8 0, .slice none 0 0] 151)) w0.heap.size [.int .i64 0, .int .u8 0, .slice none 0 0] _ := Blk.new w0 [.int .i64 0, .int .u8 0, .slice none 0 0] 151
  obtain ⟨w2, hw2⟩ : ∃ x, w0.alloc (.cells #[.int .i64 0, .int .u8 0, .slice none 0 0] 151) = x := ⟨_, rfl⟩
  have hb2 : Below w0.heap.size w0 w2 := by rw [← hw2]; exact (Below.refl _ _).alloc (Nat.le_refl _) _
  have hb02 := hb0.trans (hb2.mono hb0.size)
  have h2 := h0.below hb2
  have hZ2 := hZ.below hb2
  have hl2 := fun ty => h2.len ty
  have hNI : (64 : Int) ≤ ((Maps.size D : Nat) : Int) := by omega
  go_enter Tryz.func43, Tryz.ntmps43
  go_wp2_with fail
  rw [Hw0.out]
  go_fit (made06_any h0)
  rintro x w1 ⟨rfl, rfl⟩
  go_wp2_with fail
  go_fit (serial_any c w0)
  rw [Hc.out]
  rintro x w1 ⟨rfl, rfl⟩
  go_wp2_with fail
  go_fit (serial_any s w0)
  rw [Hs.out]
  rintro x w1 ⟨rfl, rfl⟩
  have y0 : (w0.alloc (.cells #[.int .i64 0, .int .u8 0, .slice none 0 0] 151)).cell? ⟨t, 0, none⟩ = some (.map (some bm)) := by rw [hw2]; exact h2.blk.cell (j := 0) rfl
  have hl2' := fun ty => (show (Builtin.len_ #[153] ty #[.map (some bm)]).run Tryz.prog (w0.alloc (.cells #[.int .i64 0, .int .u8 0, .slice none 0 0] 151)) = .ok (.int .i64 (Maps.size D)) (w0.alloc (.cells #[.int .i64 0, .int .u8 0, .slice none 0 0] 151)) by rw [hw2]; exact hl2 ty)
  have q0 := hZ.alloc (.cells #[.int .i64 0, .int .u8 0, .slice none 0 0] 151)
  have qz0 := q0.cell (j := 0) rfl
  have qz1 := q0.cell (j := 1) rfl
  have qf0 := q0.frozen 0
  have qf1 := q0.frozen 1
  have Hw2 := hide hw2
  clear hw2 hl2
  go_wp2
  refine bodyPost_ret (results_scs rfl rfl (((hZ.set 0 (.int .u8 0)).set 1 (.slice none 0 0)).alloc _) Tryz.underlying40 rfl (by kernel_rfl)) rfl ?_
  have hbz := ((hb0.setCell (p := ⟨g, 0, none⟩) (leBk (by omega)) (.int .u8 0)).setCell (p := ⟨g, 1, none⟩) (leBk (by omega)) (.slice none 0 0)).alloc (by have := hb0.size; simpa using this) (.cells #[.int .i64 0, .int .u8 0, .slice none 0 0] 151)
  exact ⟨none, 0, rfl, by simp, by omega, by simp, Rd.nil, (fun a ha => by cases ha), h.below hbz, hbz⟩
set_option maxHeartbeats 1600000 in
theorem ask_new0 {w : World} {B t bm n : Nat} {D : DataW Value} {m : TM} (h : TabIs w B t bm n D m) (c s : Int) (hc : serB c = true) (hs : serB s = true) (hm : m c = none) (hN : Maps.size D < 64) : Calls Tryz.prog 43 #[.pointer (some ⟨t, 0, none⟩), .int .i64 c, .int .i64 s] w (AskIs B t bm n D m 1 0 0 [] w) := by
  obtain ⟨g, hg⟩ : ∃ g, w.heap.size = g := ⟨_, rfl⟩
  obtain ⟨w0, hw0⟩ : ∃ x, w.alloc (.cells #[.int .u8 0, .slice none 0 0] 40) = x := ⟨_, rfl⟩
  have hZ : Blk w0 g [.int .u8 0, .slice none 0 0] 40 := by rw [← hw0, ← hg]; exact Blk.new w [.int .u8 0, .slice none 0 0] _
  have hb0 : Below w.heap.size w w0 := by rw [← hw0]; exact (Below.refl _ _).alloc (Nat.le_refl _) _
  have h0 := h.below hb0
  have Hw0 := hide hw0
  clear hw0
  have x0 := h0.blk.cell (j := 0) rfl
  have z0 := hZ.cell (j := 0) rfl
  have z1 := hZ.cell (j := 1) rfl
  have fz0 := hZ.frozen 0
  have fz1 := hZ.frozen 1
  have tl := h.blk.lt
  have bl := h.own.lt
  have zl := hZ.lt
  have hcr := serB_out hc
  have hsr := serB_out hs
  have Hc := hide hc
  have Hs := hide hs
  clear hc hs
  have hlk := h0.look_none (c := c) (by omega) (by omega) hm
  have e0 : Blk (w0.alloc (.cells #[.int .i64 0, .int .u8 0, .slice none 0 0] 151)) w0.heap.size [.int .i64 0, .int .u8 0, .slice none 0 0] _ := Blk.new w0 [.int .i64 0, .int .u8 0, .slice none 0 0] 151
  obtain ⟨w2, hw2⟩ : ∃ x, w0.alloc (.cells #[.int .i64 0, .int .u8 0, .slice none 0 0] 151) = x := ⟨_, rfl⟩
  have hb2 : Below w0.heap.size w0 w2 := by rw [← hw2]; exact (Below.refl _ _).alloc (Nat.le_refl _) _
  have hb02 := hb0.trans (hb2.mono hb0.size)
  have h2 := h0.below hb2
  have hZ2 := hZ.below hb2
  have hl2 := fun ty => h2.len ty
  have hNI2 : ¬ (64 : Nat) ≤ Maps.size D := by omega
  have hNI : decide ((64 : Int) ≤ ((Maps.size D : Nat) : Int)) = false := decide_eq_false (by omega)
  go_enter Tryz.func43, Tryz.ntmps43
  go_wp2_with fail
  rw [Hw0.out]
  go_fit (made06_any h0)
  rintro x w1 ⟨rfl, rfl⟩
  go_wp2_with fail
  go_fit (serial_any c w0)
  rw [Hc.out]
  rintro x w1 ⟨rfl, rfl⟩
  go_wp2_with fail
  go_fit (serial_any s w0)
  rw [Hs.out]
  rintro x w1 ⟨rfl, rfl⟩
  have y0 : (w0.alloc (.cells #[.int .i64 0, .int .u8 0, .slice none 0 0] 151)).cell? ⟨t, 0, none⟩ = some (.map (some bm)) := by rw [hw2]; exact h2.blk.cell (j := 0) rfl
  have hl2' := fun ty => (show (Builtin.len_ #[153] ty #[.map (some bm)]).run Tryz.prog (w0.alloc (.cells #[.int .i64 0, .int .u8 0, .slice none 0 0] 151)) = .ok (.int .i64 (Maps.size D)) (w0.alloc (.cells #[.int .i64 0, .int .u8 0, .slice none 0 0] 151)) by rw [hw2]; exact hl2 ty)
  have q0 := hZ.alloc (.cells #[.int .i64 0, .int .u8 0, .slice none 0 0] 151)
  have qz0 := q0.cell (j := 0) rfl
  have qz1 := q0.cell (j := 1) rfl
  have qf0 := q0.frozen 0
  have qf1 := q0.frozen 1
  have Hw2 := hide hw2
  clear hw2 hl2
  go_wp2
  refine bodyPost_ret (results_scs rfl rfl (((hZ.set 0 (.int .u8 0)).set 1 (.slice none 0 0)).alloc _) Tryz.underlying40 rfl (by kernel_rfl)) rfl ?_
  have hbz := ((hb0.setCell (p := ⟨g, 0, none⟩) (leBk (by omega)) (.int .u8 0)).setCell (p := ⟨g, 1, none⟩) (leBk (by omega)) (.slice none 0 0)).alloc (by have := hb0.size; simpa using this) (.cells #[.int .i64 0, .int .u8 0, .slice none 0 0] 151)
  exact ⟨none, 0, rfl, by simp, by omega, by simp, Rd.nil, (fun a ha => by cases ha), h.below hbz, hbz⟩
set_option maxHeartbeats 1600000 in
theorem ask_new1 {w : World} {B t bm n : Nat} {D : DataW Value} {m : TM} (h : TabIs w B t bm n D m) (c s : Int) (s0 : Int) (k0 : Nat) (bs : List UInt8) (hc : serB c = true) (hs : serB s = true) (hm : m c = some (s0, k0, bs)) (hN : s0 < s) : Calls Tryz.prog 43 #[.pointer (some ⟨t, 0, none⟩), .int .i64 c, .int .i64 s] w (AskIs B t bm n D m 1 0 0 [] w) := by
  obtain ⟨g, hg⟩ : ∃ g, w.heap.size = g := ⟨_, rfl⟩
  obtain ⟨w0, hw0⟩ : ∃ x, w.alloc (.cells #[.int .u8 0, .slice none 0 0] 40) = x := ⟨_, rfl⟩
  have hZ : Blk w0 g [.int .u8 0, .slice none 0 0] 40 := by rw [← hw0, ← hg]; exact Blk.new w [.int .u8 0, .slice none 0 0] _
  have hb0 : Below w.heap.size w w0 := by rw [← hw0]; exact (Below.refl _ _).alloc (Nat.le_refl _) _
  have h0 := h.below hb0
  have Hw0 := hide hw0
  clear hw0
  have x0 := h0.blk.cell (j := 0) rfl
  have z0 := hZ.cell (j := 0) rfl
  have z1 := hZ.cell (j := 1) rfl
  have fz0 := hZ.frozen 0
  have fz1 := hZ.frozen 1
  have tl := h.blk.lt
  have bl := h.own.lt
  have zl := hZ.lt
  have hcr := serB_out hc
  have hsr := serB_out hs
  have Hc := hide hc
  have Hs := hide hs
  clear hc hs
  obtain ⟨hk8, A, d, dc, hlk, hd, hdc, hd8, hdm, hr⟩ := h0.look_some (c := c) (by omega) (by omega) hm
  obtain ⟨g2, hg2⟩ : ∃ x, w0.heap.size = x := ⟨_, rfl⟩
  have hE : Blk (w0.alloc (.cells #[.int .i64 s0, .int .u8 k0, .slice A d dc] 151)) g2 [.int .i64 s0, .int .u8 k0, .slice A d dc] 151 := by rw [← hg2]; exact Blk.new w0 [.int .i64 s0, .int .u8 k0, .slice A d dc] _
  have hb2 : Below w0.heap.size w0 (w0.alloc (.cells #[.int .i64 s0, .int .u8 k0, .slice A d dc] 151)) := (Below.refl _ _).alloc (Nat.le_refl _) _
  have hb02 := hb0.trans (hb2.mono hb0.size)
  have Hd := hide hd
  clear hd
  go_enter Tryz.func43, Tryz.ntmps43
  go_wp2_with fail
  rw [Hw0.out]
  go_fit (made06_any h0)
  rintro x w1 ⟨rfl, rfl⟩
  go_wp2_with fail
  go_fit (serial_any c w0)
  rw [Hc.out]
  rintro x w1 ⟨rfl, rfl⟩
  go_wp2_with fail
  go_fit (serial_any s w0)
  rw [Hs.out]
  rintro x w1 ⟨rfl, rfl⟩
  have q0 := hZ.alloc (.cells #[.int .i64 s0, .int .u8 k0, .slice A d dc] 151)
  have qz0 := q0.cell (j := 0) rfl
  have qz1 := q0.cell (j := 1) rfl
  have qf0 := q0.frozen 0
  have qf1 := q0.frozen 1
  have e0 := hE.cell (j := 0) rfl
  have e1 := hE.cell (j := 1) rfl
  have e2 := hE.cell (j := 2) rfl
  go_wp2
  refine bodyPost_ret (results_scs rfl rfl (((q0.set 0 (.int .u8 0)).set 1 (.slice none 0 0))) Tryz.underlying40 rfl (by kernel_rfl)) rfl ?_
  have sz2 := hb02.size
  have hbz := (hb02.setCell (p := ⟨g, 0, none⟩) (leBk (by omega)) (.int .u8 0)).setCell (p := ⟨g, 1, none⟩) (leBk (by omega)) (.slice none 0 0)
  exact ⟨none, 0, rfl, by simp, by omega, by simp, Rd.nil, (fun a ha => by cases ha), h.below hbz, hbz⟩
set_option maxHeartbeats 1600000 in
theorem ask_old {w : World} {B t bm n : Nat} {D : DataW Value} {m : TM} (h : TabIs w B t bm n D m) (c s : Int) (s0 : Int) (k0 : Nat) (bs : List UInt8) (hc : serB c = true) (hs : serB s = true) (hm : m c = some (s0, k0, bs)) (hN : s < s0) : Calls Tryz.prog 43 #[.pointer (some ⟨t, 0, none⟩), .int .i64 c, .int .i64 s] w (AskIs B t bm n D m 3 0 0 [] w) := by
  obtain ⟨g, hg⟩ : ∃ g, w.heap.size = g := ⟨_, rfl⟩
  obtain ⟨w0, hw0⟩ : ∃ x, w.alloc (.cells #[.int .u8 0, .slice none 0 0] 40) = x := ⟨_, rfl⟩
  have hZ : Blk w0 g [.int .u8 0, .slice none 0 0] 40 := by rw [← hw0, ← hg]; exact Blk.new w [.int .u8 0, .slice none 0 0] _
  have hb0 : Below w.heap.size w w0 := by rw [← hw0]; exact (Below.refl _ _).alloc (Nat.le_refl _) _
  have h0 := h.below hb0
  have Hw0 := hide hw0
  clear hw0
  have x0 := h0.blk.cell (j := 0) rfl
  have z0 := hZ.cell (j := 0) rfl
  have z1 := hZ.cell (j := 1) rfl
  have fz0 := hZ.frozen 0
  have fz1 := hZ.frozen 1
  have tl := h.blk.lt
  have bl := h.own.lt
  have zl := hZ.lt
  have hcr := serB_out hc
  have hsr := serB_out hs
  have Hc := hide hc
  have Hs := hide hs
  clear hc hs
  obtain ⟨hk8, A, d, dc, hlk, hd, hdc, hd8, hdm, hr⟩ := h0.look_some (c := c) (by omega) (by omega) hm
  obtain ⟨g2, hg2⟩ : ∃ x, w0.heap.size = x := ⟨_, rfl⟩
  have hE : Blk (w0.alloc (.cells #[.int .i64 s0, .int .u8 k0, .slice A d dc] 151)) g2 [.int .i64 s0, .int .u8 k0, .slice A d dc] 151 := by rw [← hg2]; exact Blk.new w0 [.int .i64 s0, .int .u8 k0, .slice A d dc] _
  have hb2 : Below w0.heap.size w0 (w0.alloc (.cells #[.int .i64 s0, .int .u8 k0, .slice A d dc] 151)) := (Below.refl _ _).alloc (Nat.le_refl _) _
  have hb02 := hb0.trans (hb2.mono hb0.size)
  have Hd := hide hd
  clear hd
  go_enter Tryz.func43, Tryz.ntmps43
  go_wp2_with fail
  rw [Hw0.out]
  go_fit (made06_any h0)
  rintro x w1 ⟨rfl, rfl⟩
  go_wp2_with fail
  go_fit (serial_any c w0)
  rw [Hc.out]
  rintro x w1 ⟨rfl, rfl⟩
  go_wp2_with fail
  go_fit (serial_any s w0)
  rw [Hs.out]
  rintro x w1 ⟨rfl, rfl⟩
  have q0 := hZ.alloc (.cells #[.int .i64 s0, .int .u8 k0, .slice A d dc] 151)
  have qz0 := q0.cell (j := 0) rfl
  have qz1 := q0.cell (j := 1) rfl
  have qf0 := q0.frozen 0
  have qf1 := q0.frozen 1
  have e0 := hE.cell (j := 0) rfl
  have e1 := hE.cell (j := 1) rfl
  have e2 := hE.cell (j := 2) rfl
  have hN2 : decide (s0 < s) = false := decide_eq_false (by omega)
  go_wp2
  refine bodyPost_ret (results_scs rfl rfl (((q0.set 0 (.int .u8 0)).set 1 (.slice none 0 0))) Tryz.underlying40 rfl (by kernel_rfl)) rfl ?_
  have sz2 := hb02.size
  have hbz := (hb02.setCell (p := ⟨g, 0, none⟩) (leBk (by omega)) (.int .u8 0)).setCell (p := ⟨g, 1, none⟩) (leBk (by omega)) (.slice none 0 0)
  exact ⟨none, 0, rfl, by simp, by omega, by simp, Rd.nil, (fun a ha => by cases ha), h.below hbz, hbz⟩
set_option maxHeartbeats 1600000 in
theorem ask_again {w : World} {B t bm n : Nat} {D : DataW Value} {m : TM} (h : TabIs w B t bm n D m) (c s : Int) (k0 : Nat) (bs : List UInt8) (hc : serB c = true) (hs : serB s = true) (hm : m c = some (s, k0, bs)) : Calls Tryz.prog 43 #[.pointer (some ⟨t, 0, none⟩), .int .i64 c, .int .i64 s] w (AskIs B t bm n D m 2 0 k0 bs w) := by
  obtain ⟨g, hg⟩ : ∃ g, w.heap.size = g := ⟨_, rfl⟩
  obtain ⟨w0, hw0⟩ : ∃ x, w.alloc (.cells #[.int .u8 0, .slice none 0 0] 40) = x := ⟨_, rfl⟩
  have hZ : Blk w0 g [.int .u8 0, .slice none 0 0] 40 := by rw [← hw0, ← hg]; exact Blk.new w [.int .u8 0, .slice none 0 0] _
  have hb0 : Below w.heap.size w w0 := by rw [← hw0]; exact (Below.refl _ _).alloc (Nat.le_refl _) _
  have h0 := h.below hb0
  have Hw0 := hide hw0
  clear hw0
  have x0 := h0.blk.cell (j := 0) rfl
  have z0 := hZ.cell (j := 0) rfl
  have z1 := hZ.cell (j := 1) rfl
  have fz0 := hZ.frozen 0
  have fz1 := hZ.frozen 1
  have tl := h.blk.lt
  have bl := h.own.lt
  have zl := hZ.lt
  have hcr := serB_out hc
  have hsr := serB_out hs
  have Hc := hide hc
  have Hs := hide hs
  clear hc hs
  obtain ⟨hk8, A, d, dc, hlk, hd, hdc, hd8, hdm, hr⟩ := h0.look_some (c := c) (by omega) (by omega) hm
  obtain ⟨g2, hg2⟩ : ∃ x, w0.heap.size = x := ⟨_, rfl⟩
  have hE : Blk (w0.alloc (.cells #[.int .i64 s, .int .u8 k0, .slice A d dc] 151)) g2 [.int .i64 s, .int .u8 k0, .slice A d dc] 151 := by rw [← hg2]; exact Blk.new w0 [.int .i64 s, .int .u8 k0, .slice A d dc] _
  have hb2 : Below w0.heap.size w0 (w0.alloc (.cells #[.int .i64 s, .int .u8 k0, .slice A d dc] 151)) := (Below.refl _ _).alloc (Nat.le_refl _) _
  have hb02 := hb0.trans (hb2.mono hb0.size)
  have Hd := hide hd
  clear hd
  go_enter Tryz.func43, Tryz.ntmps43
  go_wp2_with fail
  rw [Hw0.out]
  go_fit (made06_any h0)
  rintro x w1 ⟨rfl, rfl⟩
  go_wp2_with fail
  go_fit (serial_any c w0)
  rw [Hc.out]
  rintro x w1 ⟨rfl, rfl⟩
  go_wp2_with fail
  go_fit (serial_any s w0)
  rw [Hs.out]
  rintro x w1 ⟨rfl, rfl⟩
  have q0 := hZ.alloc (.cells #[.int .i64 s, .int .u8 k0, .slice A d dc] 151)
  have qz0 := q0.cell (j := 0) rfl
  have qz1 := q0.cell (j := 1) rfl
  have qf0 := q0.frozen 0
  have qf1 := q0.frozen 1
  have e0 := hE.cell (j := 0) rfl
  have e1 := hE.cell (j := 1) rfl
  have e2 := hE.cell (j := 2) rfl
  have hN2 : decide (s < s) = false := decide_eq_false (by omega)
  have hN3 : decide (s < s) = false := decide_eq_false (by omega)
  go_wp2_with fail
  go_fit (cloneR_any k0 A d dc bs _ Hd.out hd8 (hr.below hb2))
  rintro x w5 ⟨A5, c5, rfl, hc5, hm5, hr5, ha5, hb5⟩
  have q5 := q0.below hb5
  have hb05 := hb02.trans (hb5.mono hb02.size)
  have sz5 := hb05.size
  have sz2 := hb02.size
  clear qz0 qz1 qf0 qf1
  have qz0 := q5.cell (j := 0) rfl
  have qz1 := q5.cell (j := 1) rfl
  have qf0 := q5.frozen 0
  have qf1 := q5.frozen 1
  go_wp2
  refine bodyPost_ret (results_scs rfl rfl (((q5.set 0 (.int .u8 k0)).set 1 (.slice A5 d c5))) Tryz.underlying40 rfl (by kernel_rfl)) rfl ?_
  have hbz := (hb05.setCell (p := ⟨g, 0, none⟩) (leBk (by omega)) (.int .u8 k0)).setCell (p := ⟨g, 1, none⟩) (leBk (by omega)) (.slice A5 d c5)
  have gl : g < (w0.alloc (.cells #[.int .i64 s, .int .u8 k0, .slice A d dc] 151)).heap.size := by rw [World.size_alloc]; omega
  exact ⟨A5, c5, by rw [Hd.out]; rfl, by rw [Hd.out]; exact hc5, hm5, by rw [Hd.out]; exact hd8, (hr5.upset (fun a ha => ha5 a ha) gl).upset (fun a ha => ha5 a ha) gl, (fun a ha => by have := ha5 a ha; omega), h.below hbz, hbz⟩
end Go.Proofs.YtkknkdjdneldlaaGreat
namespace Go.Proofs.YtkknkdjdneldlaaGreat
set_option maxRecDepth 20000
open Go.RowKit Go.Px Go.Maps
set_option linter.unusedVariables false
/-- How many clients a table knows behind a store. -/
def szNew (m : TM) (c : Int) (S : Nat) : Nat := if (m c).isSome then S else S + 1
/-- What a table knows behind a store. -/
def tmPut (m : TM) (c s : Int) (k : Nat) (bs : List UInt8) : TM := fun x => if x = c then some (s, k, bs) else m x
set_option maxHeartbeats 1600000 in
theorem put_err {w : World} {B t bm n : Nat} {D : DataW Value} {m : TM} (h : TabIs w B t bm n D m) (c s V E : Int) (k0 : Nat) (bs0 : List UInt8) (hask : ∀ W, TabIs W B t bm n D m → Calls Tryz.prog 43 #[.pointer (some ⟨t, 0, none⟩), .int .i64 c, .int .i64 s] W (AskIs B t bm n D m V E k0 bs0 W))
    (k : Nat) (A : Option Addr) (d dc : Nat) (bs : List UInt8) (hk : k < 256) (hd : bs.length = d) (hdc : d ≤ dc) (hdm : dc ≤ 9223372036854775807) (hr : Rd w A (bys bs)) (hE : E ≠ 0) : Calls Tryz.prog 45 #[.pointer (some ⟨t, 0, none⟩), .int .i64 c, .int .i64 s, resv k A d dc] w fun e w' => e = .returned (.int .i64 (E)) ∧ Below w.heap.size w w' := by
  have q1 : (E != 0) = true := by simpa using hE
  obtain ⟨g, hg⟩ : ∃ g, w.heap.size = g := ⟨_, rfl⟩
  obtain ⟨w0, hw0⟩ : ∃ x, w.alloc (.cells #[.int .u8 k, .slice A d dc] 40) = x := ⟨_, rfl⟩
  have hP : Blk w0 g [.int .u8 k, .slice A d dc] 40 := by rw [← hw0, ← hg]; exact Blk.new w [.int .u8 k, .slice A d dc] _
  have hb0 : Below w.heap.size w w0 := by rw [← hw0]; exact (Below.refl _ _).alloc (Nat.le_refl _) _
  have Hw0 := hide hw0
  have HA := hide hask
  have Hd := hide hd
  clear hw0 hask hd
  go_enter Tryz.func45, Tryz.ntmps45
  go_wp2_with fail
  rw [Hw0.out]
  go_fit (HA.out w0 (h.below hb0))
  rintro x w1 ⟨A1, dc1, rfl, hl1, hm1, hd1, hr1, ha1, hT1, hb1⟩
  have hb01 := hb0.trans (hb1.mono hb0.size)
  have hP1 := hP.below hb1
  have hbA : Below w1.heap.size w1 (w1.alloc (.cells #[.int .u8 k0, .slice A1 bs0.length dc1] 40)) := (Below.refl _ _).alloc (Nat.le_refl _) _
  have p0 := (hP1.alloc (.cells #[.int .u8 k0, .slice A1 bs0.length dc1] 40)).cell (j := 0) rfl
  have p1 := (hP1.alloc (.cells #[.int .u8 k0, .slice A1 bs0.length dc1] 40)).cell (j := 1) rfl
  have hb02 := hb01.trans (hbA.mono hb01.size)
  go_wp2
  go_ret
  exact ⟨rfl, hb02⟩
set_option maxHeartbeats 1600000 in
theorem put_badR {w : World} {B t bm n : Nat} {D : DataW Value} {m : TM} (h : TabIs w B t bm n D m) (c s V : Int) (k0 : Nat) (bs0 : List UInt8) (hask : ∀ W, TabIs W B t bm n D m → Calls Tryz.prog 43 #[.pointer (some ⟨t, 0, none⟩), .int .i64 c, .int .i64 s] W (AskIs B t bm n D m V 0 k0 bs0 W))
    (k : Nat) (A : Option Addr) (d dc : Nat) (bs : List UInt8) (hk : k < 256) (hd : bs.length = d) (hdc : d ≤ dc) (hdm : dc ≤ 9223372036854775807) (hr : Rd w A (bys bs)) (hR : rsE k d ≠ 0) : Calls Tryz.prog 45 #[.pointer (some ⟨t, 0, none⟩), .int .i64 c, .int .i64 s, resv k A d dc] w fun e w' => e = .returned (.int .i64 (60)) ∧ Below w.heap.size w w' := by
  obtain ⟨R, hRR⟩ : ∃ R, rsE k d = R := ⟨_, rfl⟩
  rw [hRR] at hR
  have HR := hide hRR
  have q1 : (R != 0) = true := by simpa using hR
  clear hRR hR
  obtain ⟨g, hg⟩ : ∃ g, w.heap.size = g := ⟨_, rfl⟩
  obtain ⟨w0, hw0⟩ : ∃ x, w.alloc (.cells #[.int .u8 k, .slice A d dc] 40) = x := ⟨_, rfl⟩
  have hP : Blk w0 g [.int .u8 k, .slice A d dc] 40 := by rw [← hw0, ← hg]; exact Blk.new w [.int .u8 k, .slice A d dc] _
  have hb0 : Below w.heap.size w w0 := by rw [← hw0]; exact (Below.refl _ _).alloc (Nat.le_refl _) _
  have Hw0 := hide hw0
  have HA := hide hask
  have Hd := hide hd
  clear hw0 hask hd
  go_enter Tryz.func45, Tryz.ntmps45
  go_wp2_with fail
  rw [Hw0.out]
  go_fit (HA.out w0 (h.below hb0))
  rintro x w1 ⟨A1, dc1, rfl, hl1, hm1, hd1, hr1, ha1, hT1, hb1⟩
  have hb01 := hb0.trans (hb1.mono hb0.size)
  have hP1 := hP.below hb1
  have hbA : Below w1.heap.size w1 (w1.alloc (.cells #[.int .u8 k0, .slice A1 bs0.length dc1] 40)) := (Below.refl _ _).alloc (Nat.le_refl _) _
  have p0 := (hP1.alloc (.cells #[.int .u8 k0, .slice A1 bs0.length dc1] 40)).cell (j := 0) rfl
  have p1 := (hP1.alloc (.cells #[.int .u8 k0, .slice A1 bs0.length dc1] 40)).cell (j := 1) rfl
  have hb02 := hb01.trans (hbA.mono hb01.size)
  go_wp2_with fail
  go_fit (result_any k A d dc _ hk)
  rw [HR.out]
  rintro x w3 ⟨rfl, hb3⟩
  go_wp2
  go_ret
  exact ⟨rfl, hb02.trans (hb3.mono hb02.size)⟩
set_option maxHeartbeats 1600000 in
theorem put_full {w : World} {B t bm n : Nat} {D : DataW Value} {m : TM} (h : TabIs w B t bm n D m) (c s V : Int) (k0 : Nat) (bs0 : List UInt8) (hask : ∀ W, TabIs W B t bm n D m → Calls Tryz.prog 43 #[.pointer (some ⟨t, 0, none⟩), .int .i64 c, .int .i64 s] W (AskIs B t bm n D m V 0 k0 bs0 W))
    (k : Nat) (A : Option Addr) (d dc : Nat) (bs : List UInt8) (hk : k < 256) (hd : bs.length = d) (hdc : d ≤ dc) (hdm : dc ≤ 9223372036854775807) (hr : Rd w A (bys bs)) (hR : rsE k d = 0) (hV : V = 4) : Calls Tryz.prog 45 #[.pointer (some ⟨t, 0, none⟩), .int .i64 c, .int .i64 s, resv k A d dc] w fun e w' => e = .returned (.int .i64 (3)) ∧ Below w.heap.size w w' := by
  have HR := hide hR
  subst hV
  clear hR
  obtain ⟨g, hg⟩ : ∃ g, w.heap.size = g := ⟨_, rfl⟩
  obtain ⟨w0, hw0⟩ : ∃ x, w.alloc (.cells #[.int .u8 k, .slice A d dc] 40) = x := ⟨_, rfl⟩
  have hP : Blk w0 g [.int .u8 k, .slice A d dc] 40 := by rw [← hw0, ← hg]; exact Blk.new w [.int .u8 k, .slice A d dc] _
  have hb0 : Below w.heap.size w w0 := by rw [← hw0]; exact (Below.refl _ _).alloc (Nat.le_refl _) _
  have Hw0 := hide hw0
  have HA := hide hask
  have Hd := hide hd
  clear hw0 hask hd
  go_enter Tryz.func45, Tryz.ntmps45
  go_wp2_with fail
  rw [Hw0.out]
  go_fit (HA.out w0 (h.below hb0))
  rintro x w1 ⟨A1, dc1, rfl, hl1, hm1, hd1, hr1, ha1, hT1, hb1⟩
  have hb01 := hb0.trans (hb1.mono hb0.size)
  have hP1 := hP.below hb1
  have hbA : Below w1.heap.size w1 (w1.alloc (.cells #[.int .u8 k0, .slice A1 bs0.length dc1] 40)) := (Below.refl _ _).alloc (Nat.le_refl _) _
  have p0 := (hP1.alloc (.cells #[.int .u8 k0, .slice A1 bs0.length dc1] 40)).cell (j := 0) rfl
  have p1 := (hP1.alloc (.cells #[.int .u8 k0, .slice A1 bs0.length dc1] 40)).cell (j := 1) rfl
  have hb02 := hb01.trans (hbA.mono hb01.size)
  go_wp2_with fail
  go_fit (result_any k A d dc _ hk)
  rw [HR.out]
  rintro x w3 ⟨rfl, hb3⟩
  go_wp2
  go_ret
  exact ⟨rfl, hb02.trans (hb3.mono hb02.size)⟩
set_option maxHeartbeats 1600000 in
theorem put_arg {w : World} {B t bm n : Nat} {D : DataW Value} {m : TM} (h : TabIs w B t bm n D m) (c s V : Int) (k0 : Nat) (bs0 : List UInt8) (hask : ∀ W, TabIs W B t bm n D m → Calls Tryz.prog 43 #[.pointer (some ⟨t, 0, none⟩), .int .i64 c, .int .i64 s] W (AskIs B t bm n D m V 0 k0 bs0 W))
    (k : Nat) (A : Option Addr) (d dc : Nat) (bs : List UInt8) (hk : k < 256) (hd : bs.length = d) (hdc : d ≤ dc) (hdm : dc ≤ 9223372036854775807) (hr : Rd w A (bys bs)) (hR : rsE k d = 0) (hV4 : V ≠ 4) (hV1 : V ≠ 1) : Calls Tryz.prog 45 #[.pointer (some ⟨t, 0, none⟩), .int .i64 c, .int .i64 s, resv k A d dc] w fun e w' => e = .returned (.int .i64 (1)) ∧ Below w.heap.size w w' := by
  have HR := hide hR
  have q1 : (V == 4) = false := by simpa using hV4
  have q2 : (V != 1) = true := by simpa using hV1
  clear hR hV4 hV1
  obtain ⟨g, hg⟩ : ∃ g, w.heap.size = g := ⟨_, rfl⟩
  obtain ⟨w0, hw0⟩ : ∃ x, w.alloc (.cells #[.int .u8 k, .slice A d dc] 40) = x := ⟨_, rfl⟩
  have hP : Blk w0 g [.int .u8 k, .slice A d dc] 40 := by rw [← hw0, ← hg]; exact Blk.new w [.int .u8 k, .slice A d dc] _
  have hb0 : Below w.heap.size w w0 := by rw [← hw0]; exact (Below.refl _ _).alloc (Nat.le_refl _) _
  have Hw0 := hide hw0
  have HA := hide hask
  have Hd := hide hd
  clear hw0 hask hd
  go_enter Tryz.func45, Tryz.ntmps45
  go_wp2_with fail
  rw [Hw0.out]
  go_fit (HA.out w0 (h.below hb0))
  rintro x w1 ⟨A1, dc1, rfl, hl1, hm1, hd1, hr1, ha1, hT1, hb1⟩
  have hb01 := hb0.trans (hb1.mono hb0.size)
  have hP1 := hP.below hb1
  have hbA : Below w1.heap.size w1 (w1.alloc (.cells #[.int .u8 k0, .slice A1 bs0.length dc1] 40)) := (Below.refl _ _).alloc (Nat.le_refl _) _
  have p0 := (hP1.alloc (.cells #[.int .u8 k0, .slice A1 bs0.length dc1] 40)).cell (j := 0) rfl
  have p1 := (hP1.alloc (.cells #[.int .u8 k0, .slice A1 bs0.length dc1] 40)).cell (j := 1) rfl
  have hb02 := hb01.trans (hbA.mono hb01.size)
  go_wp2_with fail
  go_fit (result_any k A d dc _ hk)
  rw [HR.out]
  rintro x w3 ⟨rfl, hb3⟩
  go_wp2
  go_ret
  exact ⟨rfl, hb02.trans (hb3.mono hb02.size)⟩
end Go.Proofs.YtkknkdjdneldlaaGreat
namespace Go.Proofs.YtkknkdjdneldlaaGreat
set_option maxRecDepth 20000
open Go.RowKit Go.Px Go.Maps
set_option linter.unusedVariables false
theorem tmPut_same (m : TM) (c s : Int) (k : Nat) (bs : List UInt8) : tmPut m c s k bs c = some (s, k, bs) := by unfold tmPut; rw [if_pos rfl]
theorem tmPut_other (m : TM) {c x : Int} (s : Int) (k : Nat) (bs : List UInt8) (h : x ≠ c) : tmPut m c s k bs x = m x := by unfold tmPut; rw [if_neg h]
end Go.Proofs.YtkknkdjdneldlaaGreat
namespace Go.Proofs.YtkknkdjdneldlaaGreat
set_option maxRecDepth 20000
open Go.RowKit Go.Px Go.Maps
set_option linter.unusedVariables false
set_option maxRecDepth 20000 in
set_option maxHeartbeats 3200000 in
theorem put_ok2 {w : World} {B t bm n : Nat} {D : DataW Value} {m : TM} (h : TabIs w B t bm n D m) (c s : Int) (k0 : Nat) (bs0 : List UInt8) (hask : ∀ W, TabIs W B t bm n D m → Calls Tryz.prog 43 #[.pointer (some ⟨t, 0, none⟩), .int .i64 c, .int .i64 s] W (AskIs B t bm n D m 1 0 k0 bs0 W))
    (k : Nat) (A : Option Addr) (d dc : Nat) (bs : List UInt8) (hk : k < 256) (hd : bs.length = d) (hdc : d ≤ dc) (hdm : dc ≤ 9223372036854775807) (hr : Rd w A (bys bs)) (hR : rsE k d = 0) (hd8 : d ≤ 262144) (hc1 : -9223372036854775808 ≤ c) (hc2 : c ≤ 9223372036854775807) (hn : n < 1099511627776) : Calls Tryz.prog 45 #[.pointer (some ⟨t, 0, none⟩), .int .i64 c, .int .i64 s, resv k A d dc] w fun e w' => e = .returned (.int .i64 0) ∧
    (∃ A4 c4, TabIs w' B t bm (n + 1) (D.put (.int .i64 c) (.held (entV s k A4 d c4))) (tmPut m c s k bs) ∧ (∀ a, A4 = some a → w.heap.size ≤ a.block)) ∧ w.grownBy w' (some bm) ∧ w.heap.size ≤ w'.heap.size ∧ (∀ W : World, Below B W w → B ≤ w.heap.size → Below B W w') := by
  have HR := hide hR
  have tl := h.blk.lt
  have bl := h.own.lt
  obtain ⟨hB1, hB2⟩ := h.hB
  clear hR
  obtain ⟨g, hg⟩ : ∃ g, w.heap.size = g := ⟨_, rfl⟩
  obtain ⟨w0, hw0⟩ : ∃ x, w.alloc (.cells #[.int .u8 k, .slice A d dc] 40) = x := ⟨_, rfl⟩
  have hP : Blk w0 g [.int .u8 k, .slice A d dc] 40 := by rw [← hw0, ← hg]; exact Blk.new w [.int .u8 k, .slice A d dc] _
  have hb0 : Below w.heap.size w w0 := by rw [← hw0]; exact (Below.refl _ _).alloc (Nat.le_refl _) _
  have Hw0 := hide hw0
  have HA := hide hask
  have Hd := hide hd
  clear hw0 hask hd
  go_enter Tryz.func45, Tryz.ntmps45
  go_wp2_with fail
  rw [Hw0.out]
  go_fit (HA.out w0 (h.below hb0))
  rintro x w1 ⟨A1, dc1, rfl, hl1, hm1, hd1, hr1, ha1, hT1, hb1⟩
  have hb01 := hb0.trans (hb1.mono hb0.size)
  have hP1 := hP.below hb1
  have hbA : Below w1.heap.size w1 (w1.alloc (.cells #[.int .u8 k0, .slice A1 bs0.length dc1] 40)) := (Below.refl _ _).alloc (Nat.le_refl _) _
  have p0 := (hP1.alloc (.cells #[.int .u8 k0, .slice A1 bs0.length dc1] 40)).cell (j := 0) rfl
  have p1 := (hP1.alloc (.cells #[.int .u8 k0, .slice A1 bs0.length dc1] 40)).cell (j := 1) rfl
  have hb02 := hb01.trans (hbA.mono hb01.size)
  go_wp2_with fail
  go_fit (result_any k A d dc _ hk)
  rw [HR.out]
  rintro x w3 ⟨rfl, hb3⟩
  have hb03 := hb02.trans (hb3.mono hb02.size)
  have hT3 := h.below hb03
  have hP3 := (hP1.below hbA).below hb3
  have hr3 := hr.below hb03
  have sz3 := hb03.size
  clear p0 p1
  have p0 := hP3.cell (j := 0) rfl
  have p1 := hP3.cell (j := 1) rfl
  have t0 := hT3.blk.cell (j := 0) rfl
  go_wp2_with fail
  go_region_with (first
    | (go_at_call 103; refine (cloneR_any k A d dc bs _ Hd.out hd8 (by exact hr3.drew)).mono ?_; rintro x w4 ⟨A4, c4, rfl, hc4, hm4, hr4, ha4, hb4⟩; have hb4' : Below w3.heap.size w3 w4 := ⟨hb4.os, hb4.tape, hb4.output, hb4.size, hb4.block⟩; have hT4 := hT3.below hb4'; have t4 := hT4.blk.cell (j := 0) rfl; obtain ⟨w5, hst, hown5, hg5⟩ := hT4.own.update keyed_int Tryz.underlying153 (by unfold maxLen; omega) (key_ok hc1 hc2) (show rdV (entV s k A4 d c4) = some (.held (entV s k A4 d c4), []) from rfl)))
  all_goals
    have hA4 : ∀ a, A4 = some a → B ≤ a.block ∧ a.block ≠ t ∧ a.block ≠ bm := fun a ha => by have := ha4 a ha; have e : w3.drew.heap.size = w3.heap.size := rfl; omega
    have hT5 := hT4.put hk Hd.out hc4 hd8 hm4 hr4 hA4 hown5 hg5
    have hz5 := hT4.size_put c (entV s k A4 d c4)
    have sz4 := hb4'.size
    have sz5 := hg5.size
    go_wp2
    go_ret
    refine ⟨rfl, ⟨A4, c4, hT5, fun a ha => by have := ha4 a ha; have e : w3.drew.heap.size = w3.heap.size := rfl; omega⟩, grown_chain (grown_of_below hb03 (some bm)) (grown_chain (grown_of_below hb4' (some bm)) hg5 (.inl rfl)) (.inl rfl), by omega, fun W hW hBw => ?_⟩
    exact ((hW.trans (hb03.mono (by omega))).trans (hb4'.mono (by omega))).grown hg5 (by omega) (fun q hq => by injection hq with hq; omega)
/-- A request that is taken. -/
def Takes (m : TM) (c s : Int) (k d : Nat) : Prop := serB c = true ∧ serB s = true ∧ rsE k d = 0 ∧ d ≤ 262144 ∧ (m c = none ∨ ∃ s0 k0 b0, m c = some (s0, k0, b0) ∧ s0 < s)
theorem rsE_zero {k d : Nat} (h : rsE k d = 0) : d ≤ 262144 := by
  unfold rsE at h
  split at h
  · rename_i hp; unfold rsP at hp; omega
  · cases h
abbrev Dne := List (Int × Int × Nat × List UInt8)
/-- Is there a later one of the same client? -/
def Later (L : Dne) (j : Nat) (c : Int) : Prop := ∃ j' e', j < j' ∧ L[j']? = some e' ∧ e'.1 = c
/-- What was done, and what the table knows of it. -/
def Dn (L : Dne) (m : TM) : Prop := ∀ (j : Nat) (e : Int × Int × Nat × List UInt8), L[j]? = some e → ∃ s k bs, m e.1 = some (s, k, bs) ∧ e.2.1 ≤ s ∧ (Later L j e.1 → e.2.1 < s) ∧ (¬ Later L j e.1 → (s, k, bs) = e.2)
theorem Dn.nil (m : TM) : Dn [] m := fun j e h => by simp at h
theorem Dn.push {L : Dne} {m : TM} (h : Dn L m) {c s : Int} {k d : Nat} {bs : List UInt8} (ht : Takes m c s k d) : Dn (L ++ [(c, s, k, bs)]) (tmPut m c s k bs) := by
  intro j e hj
  by_cases hlt : j < L.length
  · rw [List.getElem?_append_left hlt] at hj
    obtain ⟨s1, k1, b1, hm, hle, hl, hn⟩ := h j e hj
    by_cases hc : e.1 = c
    · have hls : e.2.1 < s := by
        rcases ht.2.2.2.2 with h0 | ⟨s0, k0, b0, h0, h1⟩
        · rw [hc] at hm; rw [h0] at hm; cases hm
        · rw [hc] at hm; rw [h0] at hm
          injection hm with hm
          injection hm with hm _
          omega
      refine ⟨s, k, bs, by rw [hc]; exact tmPut_same _ _ _ _ _, by omega, fun _ => hls, fun hno => absurd ⟨L.length, (c, s, k, bs), hlt, by simp, hc.symm⟩ hno⟩
    · have hiff : Later (L ++ [(c, s, k, bs)]) j e.1 ↔ Later L j e.1 := by
        constructor
        · rintro ⟨j', e', hj', he', hc'⟩
          by_cases hl' : j' < L.length
          · rw [List.getElem?_append_left hl'] at he'; exact ⟨j', e', hj', he', hc'⟩
          · have hj2 : j' = L.length := by have := (List.getElem?_eq_some_iff.1 he').1; simp at this; omega
            subst hj2
            simp at he'
            subst he'
            exact absurd hc'.symm hc
        · rintro ⟨j', e', hj', he', hc'⟩
          have hl' := (List.getElem?_eq_some_iff.1 he').1
          exact ⟨j', e', hj', by rw [List.getElem?_append_left hl']; exact he', hc'⟩
      exact ⟨s1, k1, b1, by rw [tmPut_other _ _ _ _ hc]; exact hm, hle, fun hL => hl (hiff.1 hL), fun hL => hn (fun hh => hL (hiff.2 hh))⟩
  · have hj2 : j = L.length := by have := (List.getElem?_eq_some_iff.1 hj).1; simp at this; omega
    subst hj2
    simp at hj
    subst hj
    refine ⟨s, k, bs, tmPut_same _ _ _ _ _, Int.le_refl _, fun hL => ?_, fun _ => rfl⟩
    obtain ⟨j', e', hj', he', _⟩ := hL
    have := (List.getElem?_eq_some_iff.1 he').1
    simp at this
    omega
theorem rd_ltB {w : World} {A : Option Addr} {ds : List UInt8} (h : Rd w A (bys ds)) (hne : ds ≠ []) : ∀ a, A = some a → a.block < w.heap.size := by
  intro a ha
  subst ha
  have h0 : 0 < (bys ds).length := by rw [bys_length]; exact List.length_pos_iff.2 hne
  have := h.at_ (List.getElem?_eq_getElem h0)
  have := World.block_lt_of_cell? w _ this
  rwa [add_block] at this
theorem rd_loB {w w' : World} {B : Nat} {A : Option Addr} {bs : List UInt8} (hr : Rd w A (bys bs)) (hb : Below B w w') (hA : bs ≠ [] → ∀ a, A = some a → a.block < B) : Rd w' A (bys bs) := by
  cases bs with
  | nil => exact Rd.nil
  | cons x xs => exact hr.lo (hA (by simp)) hb
/-- The cells of the calls that were done. -/
def ClAt (w : World) (B : Nat) (cs : List Value) (j : Nat) (e : Int × Int × Nat × List UInt8) : Prop :=
  ∃ dn A d dc, cs[5 * j]? = some (.bool dn) ∧ cs[5 * j + 1]? = some (.int .i64 e.1) ∧ cs[5 * j + 2]? = some (.int .i64 e.2.1) ∧ cs[5 * j + 3]? = some (.int .u8 e.2.2.1) ∧ cs[5 * j + 4]? = some (.slice A d dc) ∧
    e.2.2.1 < 256 ∧ e.2.2.2.length = d ∧ Rd w A (bys e.2.2.2) ∧ serB e.1 = true ∧ serB e.2.1 = true ∧ (e.2.2.2 ≠ [] → ∀ a, A = some a → a.block < B)
def ClRows (w : World) (B : Nat) (cs : List Value) (L : Dne) : Prop := cs.length = 5 * L.length ∧ ∀ j e, L[j]? = some e → ClAt w B cs j e
theorem ClRows.nil {w : World} {B : Nat} : ClRows w B [] [] := ⟨rfl, fun j e h => by simp at h⟩
theorem ClRows.keep {w w' : World} {B : Nat} {cs : List Value} {L : Dne} (h : ClRows w B cs L) (hb : Below B w w') : ClRows w' B cs L :=
  ⟨h.1, fun j e he => by
    obtain ⟨dn, A, d, dc, h1, h2, h3, h4, h5, h6, h7, h8, h9, h10, h11⟩ := h.2 j e he
    exact ⟨dn, A, d, dc, h1, h2, h3, h4, h5, h6, h7, rd_loB h8 hb h11, h9, h10, h11⟩⟩
theorem ClRows.snoc {w : World} {B : Nat} {cs : List Value} {L : Dne} (h : ClRows w B cs L) {dn : Bool} {c s : Int} {k : Nat} {A : Option Addr} {d dc : Nat} {bs : List UInt8} (hk : k < 256) (hd : bs.length = d) (hr : Rd w A (bys bs)) (hc : serB c = true) (hs : serB s = true) (hA : bs ≠ [] → ∀ a, A = some a → a.block < B) :
    ClRows w B (cs ++ [.bool dn, .int .i64 c, .int .i64 s, .int .u8 k, .slice A d dc]) (L ++ [(c, s, k, bs)]) := by
  have hl := h.1
  refine ⟨by simp [hl]; omega, fun j e he => ?_⟩
  by_cases hlt : j < L.length
  · rw [List.getElem?_append_left hlt] at he
    obtain ⟨dn', A', d', dc', h1, h2, h3, h4, h5, h6⟩ := h.2 j e he
    exact ⟨dn', A', d', dc', by rw [List.getElem?_append_left (by omega)]; exact h1, by rw [List.getElem?_append_left (by omega)]; exact h2, by rw [List.getElem?_append_left (by omega)]; exact h3, by rw [List.getElem?_append_left (by omega)]; exact h4, by rw [List.getElem?_append_left (by omega)]; exact h5, h6⟩
  · have hj : j = L.length := by have := (List.getElem?_eq_some_iff.1 he).1; simp at this; omega
    subst hj
    simp at he
    subst he
    refine ⟨dn, A, d, dc, ?_, ?_, ?_, ?_, ?_, hk, hd, hr, hc, hs, hA⟩
    · rw [← hl]; simp
    · rw [← hl, List.getElem?_append_right (by omega), show cs.length + 1 - cs.length = 1 by omega]; rfl
    · rw [← hl, List.getElem?_append_right (by omega), show cs.length + 2 - cs.length = 2 by omega]; rfl
    · rw [← hl, List.getElem?_append_right (by omega), show cs.length + 3 - cs.length = 3 by omega]; rfl
    · rw [← hl, List.getElem?_append_right (by omega), show cs.length + 4 - cs.length = 4 by omega]; rfl
/-- What the entries point at lies apart from a block. -/
def Apart (D : DataW Value) (m : TM) (x : Option Nat) : Prop := ∀ c s k bs A d dc, m c = some (s, k, bs) → D.atKey (.int .i64 c) (.held zeroE) = .held (entV s k A d dc) → bs ≠ [] → ∀ a, A = some a → some a.block ≠ x
theorem TabIs.grown {w w' : World} {B t bm n : Nat} {D : DataW Value} {m : TM} (h : TabIs w B t bm n D m) {x : Option Nat} (hg : w.grownBy w' x) (h1 : some t ≠ x) (h2 : some bm ≠ x) (hap : Apart D m x) : TabIs w' B t bm n D m :=
  { blk := (hg.block t h.blk.lt h1).trans h.blk
    own := h.own.kept hg h2
    at_ := fun c => by
      have := h.at_ c
      cases hm : m c with
      | none => rw [hm] at this; exact this
      | some y =>
        obtain ⟨s, k, bs⟩ := y
        rw [hm] at this
        obtain ⟨q0, q8, A, d, dc, q1, q2, q3, q4, q5, q6, q7⟩ := this
        refine ⟨q0, q8, A, d, dc, q1, q2, q3, q4, q5, ?_, q7⟩
        cases bs with
        | nil => exact Rd.nil
        | cons b bs => exact q6.grown hg (hap c s k _ A d dc hm q1 (by simp))
    ne := h.ne
    hB := h.hB }
theorem Apart.put {w : World} {B t bm n : Nat} {D : DataW Value} {m : TM} (h : TabIs w B t bm n D m) {x : Option Nat} (hap : Apart D m x) {c s : Int} {k : Nat} {bs : List UInt8} {A : Option Addr} {d dc : Nat} (hx : ∀ g, x = some g → g < w.heap.size) (hA : ∀ a, A = some a → w.heap.size ≤ a.block) : Apart (D.put (.int .i64 c) (.held (entV s k A d dc))) (tmPut m c s k bs) x := by
  intro c' s' k' bs' A' d' dc' hm hat hne a ha
  by_cases hc : c' = c
  · subst hc
    rw [atKey_put_same h.own.isMap (keyLit c')] at hat
    injection hat with hat
    injection hat with hat
    have hat2 := congrArg Array.toList hat
    simp at hat2
    obtain ⟨_, _, hat3, _, _⟩ := hat2
    subst hat3
    intro e
    have := hx _ e.symm
    have := hA a ha
    omega
  · rw [tmPut_other _ _ _ _ hc] at hm
    rw [atKey_put_other (by intro e; injection e with _ e; exact hc e)] at hat
    exact hap c' s' k' bs' A' d' dc' hm hat hne a ha
end Go.Proofs.YtkknkdjdneldlaaGreat
namespace Go.Proofs.YtkknkdjdneldlaaGreat
set_option maxRecDepth 20000
open Go.RowKit Go.Px Go.Maps Go.ChangeShapes Go.WideShapes Go.ChangeAt Go.Joins Go.Deep
set_option linter.unusedVariables false
abbrev RowT := Int × Int × Nat × List UInt8
/-- The cells of a row at place j of a row of rows; Q: which blocks its data may lie in. -/
def RwAt (w : World) (Q : Nat → Prop) (cs : List Value) (j : Nat) (e : RowT) : Prop :=
  ∃ A d dc, cs[4 * j]? = some (.int .i64 e.1) ∧ cs[4 * j + 1]? = some (.int .i64 e.2.1) ∧ cs[4 * j + 2]? = some (.int .u8 e.2.2.1) ∧ cs[4 * j + 3]? = some (.slice A d dc) ∧
    e.2.2.1 < 256 ∧ e.2.2.2.length = d ∧ d ≤ dc ∧ dc ≤ 9223372036854775807 ∧ Rd w A (bys e.2.2.2) ∧ (e.2.2.2 ≠ [] → ∀ a, A = some a → Q a.block)
def RwRows (w : World) (Q : Nat → Prop) (cs : List Value) (es : List RowT) : Prop := cs.length = 4 * es.length ∧ ∀ j e, es[j]? = some e → RwAt w Q cs j e
theorem RwRows.nil {w : World} {Q : Nat → Prop} : RwRows w Q [] [] := ⟨rfl, fun j e h => by simp at h⟩
theorem RwAt.keep {w w' : World} {Q Q' : Nat → Prop} {cs : List Value} {j : Nat} {e : RowT} (h : RwAt w Q cs j e) (hk : ∀ A xs, Rd w A xs → (∀ a, A = some a → Q a.block) → Rd w' A xs) (hQ : ∀ B, Q B → Q' B) : RwAt w' Q' cs j e := by
  obtain ⟨A, d, dc, h1, h2, h3, h4, h5, h6, h7, h8, h9, h10⟩ := h
  refine ⟨A, d, dc, h1, h2, h3, h4, h5, h6, h7, h8, ?_, fun hne a ha => hQ _ (h10 hne a ha)⟩
  cases he : e.2.2.2 with
  | nil => exact Rd.nil
  | cons x xs => rw [← he]; exact hk _ _ h9 (h10 (by rw [he]; simp))
theorem RwRows.keep {w w' : World} {Q Q' : Nat → Prop} {cs : List Value} {es : List RowT} (h : RwRows w Q cs es) (hk : ∀ A xs, Rd w A xs → (∀ a, A = some a → Q a.block) → Rd w' A xs) (hQ : ∀ B, Q B → Q' B) : RwRows w' Q' cs es :=
  ⟨h.1, fun j e he => (h.2 j e he).keep hk hQ⟩
theorem RwRows.below {w w' : World} {Q : Nat → Prop} {cs : List Value} {es : List RowT} (h : RwRows w Q cs es) (hb : Below w.heap.size w w') : RwRows w' Q cs es := h.keep (fun A xs hr _ => hr.below hb) (fun _ h => h)
theorem RwRows.snoc {w : World} {Q : Nat → Prop} {cs : List Value} {es : List RowT} (h : RwRows w Q cs es) {c s : Int} {k : Nat} {A : Option Addr} {d dc : Nat} {bs : List UInt8} (hk : k < 256) (hd : bs.length = d) (hdc : d ≤ dc) (hdm : dc ≤ 9223372036854775807) (hr : Rd w A (bys bs)) (hA : bs ≠ [] → ∀ a, A = some a → Q a.block) :
    RwRows w Q (cs ++ [.int .i64 c, .int .i64 s, .int .u8 k, .slice A d dc]) (es ++ [(c, s, k, bs)]) := by
  have hl := h.1
  refine ⟨by simp [hl]; omega, fun j e he => ?_⟩
  by_cases hlt : j < es.length
  · rw [List.getElem?_append_left hlt] at he
    obtain ⟨A', d', dc', h1, h2, h3, h4, h5⟩ := h.2 j e he
    exact ⟨A', d', dc', by rw [List.getElem?_append_left (by omega)]; exact h1, by rw [List.getElem?_append_left (by omega)]; exact h2, by rw [List.getElem?_append_left (by omega)]; exact h3, by rw [List.getElem?_append_left (by omega)]; exact h4, h5⟩
  · have hj : j = es.length := by have := (List.getElem?_eq_some_iff.1 he).1; simp at this; omega
    subst hj
    simp at he
    subst he
    refine ⟨A, d, dc, ?_, ?_, ?_, ?_, hk, hd, hdc, hdm, hr, hA⟩
    · rw [← hl]; simp
    · rw [← hl, List.getElem?_append_right (by omega), show cs.length + 1 - cs.length = 1 by omega]; rfl
    · rw [← hl, List.getElem?_append_right (by omega), show cs.length + 2 - cs.length = 2 by omega]; rfl
    · rw [← hl, List.getElem?_append_right (by omega), show cs.length + 3 - cs.length = 3 by omega]; rfl
theorem rd4_0 {w : World} {a : Addr} {cs : List Value} (hat : ∀ j u, cs[j]? = some u → w.cell? (a.add j) = some u) {k : Nat} {u : Value} (h : cs[4 * k]? = some u) : w.cell? (a.add (k * 4)) = some u := by
  rw [Nat.mul_comm]; exact hat _ _ h
theorem rd4_S {w : World} {a : Addr} {cs : List Value} (hat : ∀ j u, cs[j]? = some u → w.cell? (a.add j) = some u) {k i : Nat} {u : Value} (h : cs[4 * k + (i + 1)]? = some u) : w.cell? ⟨(a.add (k * 4)).block, (a.add (k * 4)).off + (i + 1), none⟩ = some u := by
  have := hat _ _ h
  have e : a.add (4 * k + (i + 1)) = ⟨(a.add (k * 4)).block, (a.add (k * 4)).off + (i + 1), none⟩ := by
    unfold Addr.add
    rw [if_neg (by omega)]
    split
    · rename_i h0
      rw [show 4 * k + (i + 1) = i + 1 by omega]
    · show (⟨a.block, a.off + (4 * k + (i + 1)), none⟩ : Addr) = ⟨a.block, a.off + k * 4 + (i + 1), none⟩
      rw [show a.off + (4 * k + (i + 1)) = a.off + k * 4 + (i + 1) by omega]
  rw [← e]; exact this
/-- A row's four cells, where a slice of rows begins at a. -/
theorem RwAt.cells {w w' : World} {Q : Nat → Prop} {cs : List Value} {j : Nat} {e : RowT} (h : RwAt w Q cs j e) {a : Addr} (hat : ∀ j u, cs[j]? = some u → w'.cell? (a.add j) = some u) :
    ∃ A d dc, w'.cell? (a.add (j * 4)) = some (.int .i64 e.1) ∧ w'.cell? ⟨(a.add (j * 4)).block, (a.add (j * 4)).off + 1, none⟩ = some (.int .i64 e.2.1) ∧ w'.cell? ⟨(a.add (j * 4)).block, (a.add (j * 4)).off + 2, none⟩ = some (.int .u8 e.2.2.1) ∧ w'.cell? ⟨(a.add (j * 4)).block, (a.add (j * 4)).off + 3, none⟩ = some (.slice A d dc) ∧
      e.2.2.1 < 256 ∧ e.2.2.2.length = d ∧ d ≤ dc ∧ dc ≤ 9223372036854775807 ∧ Rd w A (bys e.2.2.2) ∧ (e.2.2.2 ≠ [] → ∀ a, A = some a → Q a.block) := by
  obtain ⟨A, d, dc, h1, h2, h3, h4, h5⟩ := h
  exact ⟨A, d, dc, rd4_0 hat h1, rd4_S (i := 0) hat h2, rd4_S (i := 1) hat h3, rd4_S (i := 2) hat h4, h5⟩
theorem tRows : SlT Tryz.prog 25 100 4 48 := slT_mk Tryz.underlying25 (z := .agg #[.int .i64 0, .int .i64 0, .int .u8 0, .slice none 0 0]) (by kernel_rfl) rfl (by decide)
section
variable {H : Type} {enc : TypeId × Value → H}
end
/-! ### which rows may be a table's -/
/-- Is it right behind a client? -/
def okB (ahead : Int) (e : RowT) : Bool := decide (ahead < e.1) && (serB e.1 && (serB e.2.1 && (rsE e.2.2.1 e.2.2.2.length == 0)))
def okL : Int → List RowT → Bool
  | _, [] => true
  | a, e :: es => okB a e && okL e.1 es
def rowsB (es : List RowT) : Bool := decide (es.length ≤ 64) && okL 0 es
theorem okB_out {a : Int} {e : RowT} (h : okB a e = true) : a < e.1 ∧ serB e.1 = true ∧ serB e.2.1 = true ∧ rsE e.2.2.1 e.2.2.2.length = 0 := by
  unfold okB at h
  simp only [Bool.and_eq_true, decide_eq_true_eq, beq_iff_eq] at h
  exact h
end Go.Proofs.YtkknkdjdneldlaaGreat
namespace Go.Proofs.YtkknkdjdneldlaaGreat
set_option maxRecDepth 20000
open Go.RowKit Go.Px Go.Maps
set_option linter.unusedVariables false
theorem okL_step {a : Int} {e : RowT} {es : List RowT} (h : okB a e = true) : okL a (e :: es) = okL e.1 es := by
  show (okB a e && okL e.1 es) = _
  rw [h, Bool.true_and]
theorem okL_no {a : Int} {e : RowT} {es : List RowT} (h : okB a e = false) : okL a (e :: es) = false := by
  show (okB a e && okL e.1 es) = _
  rw [h, Bool.false_and]
theorem drop_cons {α : Type} {l : List α} {k : Nat} {x : α} (h : l[k]? = some x) : l.drop k = x :: l.drop (k + 1) := by
  have hk : k < l.length := (List.getElem?_eq_some_iff.1 h).1
  rw [List.drop_eq_getElem_cons hk]
  rw [List.getElem?_eq_getElem hk] at h
  injection h with h
  rw [h]
theorem okB_mk {a c s : Int} {k : Nat} {bs : List UInt8} {d : Nat} (hd : bs.length = d) (h1 : ¬ c ≤ a) (h2 : serB c = true) (h3 : serB s = true) (h4 : rsE k d = 0) : okB a (c, s, k, bs) = true := by
  unfold okB
  simp only [h2, h3, hd, h4]
  simp; omega
theorem okB_no1 {a c s : Int} {k : Nat} {bs : List UInt8} (h1 : c ≤ a) : okB a (c, s, k, bs) = false := by
  unfold okB
  rw [decide_eq_false (by show ¬ a < c; omega)]; rfl
theorem okB_no2 {a c s : Int} {k : Nat} {bs : List UInt8} (h1 : serB c = false) : okB a (c, s, k, bs) = false := by
  unfold okB
  simp only [h1]; simp
theorem okB_no3 {a c s : Int} {k : Nat} {bs : List UInt8} (h1 : serB s = false) : okB a (c, s, k, bs) = false := by
  unfold okB
  simp only [h1]; simp
theorem okB_no4 {a c s : Int} {k : Nat} {bs : List UInt8} {d : Nat} (hd : bs.length = d) (h1 : rsE k d ≠ 0) : okB a (c, s, k, bs) = false := by
  unfold okB
  simp only [hd]
  rw [show (rsE k d == 0) = false by simpa using h1]; simp
set_option maxHeartbeats 3200000 in
theorem mayRows_any (A : Option Addr) (n c : Nat) (cs : List Value) (es : List RowT) (Q : Nat → Prop) (w : World) (hn : es.length = n) (hr : Rd w A cs) (hE : RwRows w Q cs es) :
    Calls Tryz.prog 118 #[.slice A n c] w fun e w' => e = .returned (.bool (rowsB es)) ∧ Below w.heap.size w w' := by
  by_cases h64 : n ≤ 64
  case neg =>
    have hf := hide (show rowsB es = false by unfold rowsB; rw [hn, decide_eq_false h64]; rfl)
    go_enter Tryz.func118, Tryz.ntmps118
    go_wp2
    go_ret
    exact ⟨by rw [hf.out]; rfl, Below.refl _ _⟩
  have hrb : rowsB es = okL 0 es := by unfold rowsB; rw [hn, decide_eq_true h64]; rfl
  have hl := hE.1
  go_enter Tryz.func118, Tryz.ntmps118
  go_wp2
  go_loopw [3, 11] (fun a i wr => ∃ (k : Nat) (ah : Int), k ≤ n ∧ i = .int .i64 k ∧ a = .int .i64 ah ∧ rowsB es = okL ah (es.drop k) ∧ Below w.heap.size w wr) (fun _ i _ => n - (intOf i).toNat)
  case atStart => exact ⟨0, 0, by omega, rfl, rfl, hrb, Below.refl _ _⟩
  case round =>
    obtain ⟨k, ah, hk, rfl, rfl, hm, hB⟩ := hrel
    by_cases hlt : k < n
    · obtain ⟨e, he⟩ : ∃ e, es[k]? = some e := ⟨_, List.getElem?_eq_getElem (by omega)⟩
      obtain ⟨a, rfl, hat⟩ := (hr.below hB).some_of (xs := cs) (by omega)
      obtain ⟨A', d, dc, y0, y1, y2, y3, hk8, hd, hdc, hdm, hrd, hq⟩ := ((hE.below hB).2 k e he).cells hat
      rw [drop_cons he] at hm
      obtain ⟨cl, s, kd, bs⟩ := e
      simp only at y0 y1 y2 hk8 hd hrd hq
      clear hq hat he hrd
      have Hd := hide hd
      clear hd
      have hb1 : ∀ X, Below wr.heap.size wr X → Below w.heap.size w X := fun X hX => hB.trans (hX.mono hB.size)
      have Hb := hide hb1
      clear hb1
      obtain ⟨wa, hwa⟩ : ∃ x, wr.alloc (.cells #[.int .i64 cl, .int .i64 s, .int .u8 kd, .slice A' d dc] 100) = x := ⟨_, rfl⟩
      obtain ⟨g, hg⟩ : ∃ x, wr.heap.size = x := ⟨_, rfl⟩
      have hS : Blk wa g [.int .i64 cl, .int .i64 s, .int .u8 kd, .slice A' d dc] 100 := by rw [← hwa, ← hg]; exact Blk.new wr [.int .i64 cl, .int .i64 s, .int .u8 kd, .slice A' d dc] _
      have hba : Below wr.heap.size wr wa := by rw [← hwa]; exact (Below.refl _ _).alloc (Nat.le_refl _) _
      have Hwa := hide hwa
      clear hwa
      by_cases c1 : cl ≤ ah
      · have hf := hide (hm.trans (okL_no (okB_no1 c1)))
        clear hm
        go_wp2
        go_ret
        exact ⟨by rw [hf.out]; rfl, Hb.out _ (by rw [Hwa.out]; exact hba)⟩
      · go_wp2_with fail
        rw [Hwa.out]
        go_fit (serial_any cl _)
        cases c2 : serB cl with
        | false =>
          have hf := hide (hm.trans (okL_no (okB_no2 c2)))
          clear hm c2
          rintro x w1 ⟨rfl, rfl⟩
          go_wp2
          go_ret
          exact ⟨by rw [hf.out]; rfl, Hb.out _ hba⟩
        | true =>
          rintro x w1 ⟨rfl, rfl⟩
          have s0 := hS.cell (j := 0) rfl
          have s1 := hS.cell (j := 1) rfl
          have s2 := hS.cell (j := 2) rfl
          have s3 := hS.cell (j := 3) rfl
          go_wp2_with fail
          go_fit (serial_any s _)
          cases c3 : serB s with
          | false =>
            have hf := hide (hm.trans (okL_no (okB_no3 c3)))
            clear hm c3
            rintro x w1 ⟨rfl, rfl⟩
            go_wp2
            go_ret
            exact ⟨by rw [hf.out]; rfl, Hb.out _ hba⟩
          | true =>
            rintro x w1 ⟨rfl, rfl⟩
            go_wp2_with fail
            go_fit (result_any kd A' d dc _ hk8)
            obtain ⟨R, hRR⟩ : ∃ R, rsE kd d = R := ⟨_, rfl⟩
            by_cases c4 : R = 0
            · have hf := hide (hm.trans (okL_step (okB_mk Hd.out (by omega) c2 c3 (hRR.trans c4))))
              rw [hRR]
              subst c4
              clear hm c2 c3 hRR
              rintro x w2 ⟨rfl, hb2⟩
              have hb02 := hba.trans (hb2.mono hba.size)
              have z0 := (hS.below hb2).cell (j := 0) rfl
              go_wp2
              go_roundw
              case rel => exact ⟨k + 1, cl, by omega, by go_num, rfl, hf.out, Hb.out _ hb02⟩
              case measure => simp [intOf]; omega
            · have hf := hide (hm.trans (okL_no (okB_no4 Hd.out (by rw [hRR]; exact c4))))
              rw [hRR]
              have q4 : (R != 0) = true := by simpa using c4
              clear hm c2 c3 hRR c4
              rintro x w2 ⟨rfl, hb2⟩
              have hb02 := hba.trans (hb2.mono hba.size)
              go_wp2
              go_ret
              exact ⟨by rw [hf.out]; rfl, Hb.out _ hb02⟩
    · obtain rfl : k = n := by omega
      have hf := hide (show rowsB es = true by rw [hm, List.drop_eq_nil_of_le (by omega)]; rfl)
      clear hm
      go_wp2
      go_ret
      exact ⟨by rw [hf.out]; rfl, hB⟩
end Go.Proofs.YtkknkdjdneldlaaGreat
namespace Go.Proofs.YtkknkdjdneldlaaGreat
set_option maxRecDepth 20000
open Go.RowKit Go.Px Go.Maps Go.Shelf Go.Lib Go.Sort
set_option linter.unusedVariables false
/-- A row of the table's, as it lies in memory; its client is one. -/
structure RowE where
  c : Int
  s : Int
  k : Nat
  A : Option Addr
  d : Nat
  dc : Nat
  h : 1 ≤ c ∧ c ≤ 4611686018427387904
instance : Inhabited RowE := ⟨⟨1, 0, 0, none, 0, 0, by omega⟩⟩
def encR (x : RowE) : List Value := [.int .i64 x.c, .int .i64 x.s, .int .u8 x.k, .slice x.A x.d x.dc]
theorem encR_length (x : RowE) : (encR x).length = 4 := rfl
def cfR (x y : RowE) : Int := x.c - y.c
theorem swoR : SWO (ltOf cfR) where
  irrefl x := by unfold ltOf cfR; simp
  trans x y z h1 h2 := by unfold ltOf cfR at *; simp at *; omega
  ntrans x y z h1 h2 := by unfold ltOf cfR at *; simp at *; omega
theorem closR_any (x y : RowE) (W : World) : Calls Tryz.prog 114 #[.agg (encR x).toArray, .agg (encR y).toArray] W fun e w' => e = .returned (.int .i64 (cfR x y)) ∧ ∃ q os', w' = grow (W.drewN q) os' := by
  obtain ⟨c1, s1, k1, A1, d1, dc1, h1, h1'⟩ := x
  obtain ⟨c2, s2, k2, A2, d2, dc2, h2, h2'⟩ := y
  unfold cfR encR
  have hw : IntKind.i64.wrap (c1 - c2) = c1 - c2 := IntWalk.i64_in _ (by omega)
  go_enter Tryz.func114, Tryz.ntmps114
  go_wp2
  go_ret
  exact ⟨rfl, 0, _, by rw [alloc_eq_grow, alloc_eq_grow, grow_grow]; rfl⟩
/-- What the rows made so far are: each is what the table says of its client. -/
def RowOk (w : World) (Q : Nat → Prop) (m : TM) (x : RowE) : Prop :=
  ∃ bs, m x.c = some (x.s, x.k, bs) ∧ x.k < 256 ∧ bs.length = x.d ∧ x.d ≤ x.dc ∧ x.dc ≤ 9223372036854775807 ∧ Rd w x.A (bys bs) ∧ (bs ≠ [] → ∀ a, x.A = some a → Q a.block)
theorem RowOk.keep {w w' : World} {Q Q' : Nat → Prop} {m : TM} {x : RowE} (h : RowOk w Q m x) (hk : ∀ A xs, Rd w A xs → (∀ a, A = some a → Q a.block) → Rd w' A xs) (hQ : ∀ b, Q b → Q' b) : RowOk w' Q' m x := by
  obtain ⟨bs, h1, h2, h3, h4, h5, h6, h7⟩ := h
  refine ⟨bs, h1, h2, h3, h4, h5, ?_, fun hne a ha => hQ _ (h7 hne a ha)⟩
  cases bs with
  | nil => exact Rd.nil
  | cons b bs => exact hk _ _ h6 (h7 (by simp))
theorem flat_snoc (ds : List RowE) (x : RowE) : (ds ++ [x]).flatMap encR = ds.flatMap encR ++ encR x := by simp
theorem flat_length (ds : List RowE) : (ds.flatMap encR).length = 4 * ds.length := by
  induction ds with
  | nil => rfl
  | cons x xs ih => simp [List.flatMap_cons, ih, encR]; omega
theorem flat_get : ∀ (ds : List RowE) (t : Nat), t < 4 * ds.length → (ds.flatMap encR)[t]? = some ((encR (ds.toArray[t / 4]!))[t % 4]!)
  | [], t, h => by simp at h
  | x :: xs, t, h => by
    rw [List.flatMap_cons]
    by_cases h4 : t < 4
    · rw [List.getElem?_append_left (by rw [encR_length]; exact h4)]
      have h0 : t / 4 = 0 := by omega
      have h1 : t % 4 = t := by omega
      rw [h0, h1]
      have : t = 0 ∨ t = 1 ∨ t = 2 ∨ t = 3 := by omega
      rcases this with rfl | rfl | rfl | rfl <;> simp [encR]
    · obtain ⟨s, rfl⟩ : ∃ s, t = s + 4 := ⟨t - 4, by omega⟩
      rw [List.getElem?_append_right (by rw [encR_length]; omega), encR_length, show s + 4 - 4 = s by omega]
      have hs : s < 4 * xs.length := by simp at h; omega
      rw [flat_get xs s hs, show (s + 4) / 4 = s / 4 + 1 by omega, show (s + 4) % 4 = s % 4 by omega]
      have h1 : s / 4 < xs.length := by omega
      rw [getElem!_pos (x :: xs).toArray (s / 4 + 1) (by simp; omega), getElem!_pos xs.toArray (s / 4) (by simpa using h1)]
      simp
theorem own_holdsR {w : World} {base e n c blk : Nat} {ds : List RowE} (h : w.ownsRow base e 4 (.slice (some ⟨blk, 0, none⟩) n c) n (ds.flatMap encR)) : HoldsK encR 4 w blk 0 ds.toArray := fun t ht => by
  rw [size_flatK] at ht
  have ht' : t < 4 * ds.length := by simp at ht; omega
  have h1 := h.cells (g := blk) rfl t _ (flat_get ds t ht')
  rw [addr_add0] at h1
  rw [Nat.zero_add, get_flatK _ _ _ _ ht]
  exact ⟨h1, h.frozenAt t⟩
theorem rd_holdsR {w : World} {blk : Nat} {es : List RowE} (h : HoldsK encR 4 w blk 0 es.toArray) : Rd w (some ⟨blk, 0, none⟩) (es.flatMap encR) := fun t u hu => by
  have ht : t < 4 * es.length := by rw [← flat_length]; exact (List.getElem?_eq_some_iff.1 hu).1
  have ht' : t < es.toArray.size * 4 := by simp; omega
  have h1 := (h t (by rw [size_flatK]; exact ht')).1
  rw [Nat.zero_add, get_flatK _ _ _ _ ht'] at h1
  rw [flat_get es t ht] at hu
  injection hu with hu
  refine ⟨_, rfl, ?_⟩
  rw [addr_add0, h1, ← hu]; rfl
theorem grown_sortR {w : World} {blk : Nat} (n : Nat) (d : Array RowE) (os : Array Obj) : w.grownBy (sortWorldK encR 4 w blk 0 n d os) (some blk) :=
  ⟨rfl, rfl, rfl, by unfold sortWorldK; rw [size_grow]; unfold putRowK; rw [size_putRow]; exact Nat.le_add_right _ _, fun k hk hne => by
    unfold sortWorldK
    rw [heap_grow_old _ _ (by unfold putRowK; rw [size_putRow]; exact hk)]
    show ((Sort.ahead w n).heap.modify blk _)[k]? = _
    rw [Array.getElem?_modify, if_neg (fun e => hne (by rw [e]))]; rfl⟩
theorem cmpR (blk off size : Nat) (w : World) : CmpLays Tryz.prog 114 #[] encR 4 cfR blk off size w := fun _ _ _ _ x y => closR_any x y _
theorem sortR_any {w : World} {base n c blk : Nat} {ds : List RowE} (h : w.ownsRow base 100 4 (.slice (some ⟨blk, 0, none⟩) n c) n (ds.flatMap encR)) (hn : ds.length = n) (hblk : blk < w.heap.size) (h12 : n ≤ 4096) :
    Calls Tryz.prog 113 #[.slice (some ⟨blk, 0, none⟩) n c, .func (.func 114) #[] #[]] w fun e w' => e = .returned (.tuple #[]) ∧ ∃ es : List RowE, es.Perm ds ∧ es.Pairwise (fun x y => ¬ y.c < x.c) ∧ Rd w' (some ⟨blk, 0, none⟩) (es.flatMap encR) ∧ w.grownBy w' (some blk) := by
  have eg : ∀ args w, (callFunc 114 args).run Tryz.prog w = .ok (.enter 114 args) w := enters_of Tryz.func114 (by kernel_rfl) rfl
  have hsz : ds.toArray.size = n := by simpa using hn
  have hcon := AnyQ.slices_SortFunc Tryz.sortRow 4 Tryz.isAgg100 Tryz.sizeOf100 encR (fun _ => rfl) (fun x v hv => by simp [encR] at hv; rcases hv with rfl | rfl | rfl | rfl <;> rfl) cfR swoR 114 #[] blk 0 c ds.toArray w eg (cmpR blk 0 _ w) (own_holdsR h) hblk (by omega)
  rw [hsz] at hcon
  refine (show Calls Tryz.prog 113 _ _ _ from hcon).mono ?_
  rintro e w' ⟨rfl, d', n', os, hp, hs, rfl⟩
  have hsz' : d'.size = ds.length := by rw [hp.1]; simp
  have hperm : d'.toList.Perm ds := by
    have := hp.2.2
    rw [Array.extract_eq_self_of_le (by omega), Array.extract_eq_self_of_le (by simp; omega)] at this
    simpa using this
  refine ⟨rfl, d'.toList, hperm, ?_, rd_holdsR ?_, grown_sortR _ _ _⟩
  · rw [List.pairwise_iff_getElem]
    intro i j hi hj hij hlt
    have hi' : i < d'.size := by simpa using hi
    have hj' : j < d'.size := by simpa using hj
    have := hs i j (Nat.zero_le _) hij (by omega)
    rw [getElem!_pos d' j hj', getElem!_pos d' i hi'] at this
    unfold ltOf cfR at this
    simp at this
    simp at hlt
    omega
  · rw [show d'.toList.toArray = d' by simp]
    exact holdsK_grow encR 4 _ os blk 0 d' (by unfold putRowK; rw [size_putRow]; exact hblk) (holdsK_putRowK encR 4 (Sort.ahead w n') blk 0 ds.toArray d' (holdsK_ahead encR 4 w n' blk 0 _ (own_holdsR h)) (by simp [hsz']))
/-- A row, by what the table says of its client. -/
def toRow (m : TM) (x : RowE) : RowT := (x.c, (m x.c).getD (0, 0, []))
/-- What the loop over the map has made. -/
structure LoopR (w0 wr : World) (t bm r n : Nat) (D : DataW Value) (m : TM) (o : Value) (left : Lit → Bool) (cnt : Nat) (ds : List RowE) : Prop where
  rng : wr.ranges Tryz.prog 3 rdV bm r n D left cnt
  own : wr.ownsRow w0.heap.size 100 4 o ds.length (ds.flatMap encR)
  ok : ∀ x ∈ ds, RowOk wr (fun b => w0.heap.size ≤ b ∧ b < wr.heap.size ∧ b ≠ r ∧ some b ≠ o.ownBlock) m x
  gone : ∀ x ∈ ds, left (.int .i64 x.c) = false
  all : ∀ c y, m c = some y → left (.int .i64 c) = false → ∃ x ∈ ds, x.c = c
  sub : ∀ kl, left kl = true → Maps.has D kl = true
  nd : ds.Pairwise (fun x y => x.c ≠ y.c)
  len : ds.length + cnt ≤ Maps.size D
  bel : Below w0.heap.size w0 wr
  ne : o ≠ .slice none 0 0
  sep : some r ≠ o.ownBlock
  hr : w0.heap.size ≤ r
theorem own_grownS {w w' : World} {base e size n : Nat} {v : Value} {xs : List Value} {row : Option Nat} (h : w.ownsRow base e size v n xs) (hg : w.grownBy w' row) (hne : ∀ g, v.ownBlock = some g → row ≠ some g) : w'.ownsRow base e size v n xs := by
  refine ⟨h.1, ?_⟩
  rcases h.2 with h2 | ⟨g, cap, cur, rfl, hbg, hgg, r⟩
  · exact .inl h2
  · exact .inr ⟨g, cap, cur, rfl, hbg, (hg.block g (Array.getElem?_eq_some_iff.1 hgg).1 (fun e => hne g rfl e.symm)).trans hgg, r⟩
theorem own_ltS {w : World} {base e n size : Nat} {v : Value} {xs : List Value} (h : w.ownsRow base e size v n xs) : ∀ g, v.ownBlock = some g → base ≤ g ∧ g < w.heap.size := by
  intro g hg
  rcases h.2 with ⟨rfl, _⟩ | ⟨g', cap, cur, rfl, hbg, hgg, _⟩
  · simp [Value.ownBlock] at hg
  · simp [Value.ownBlock] at hg
    subst hg
    exact ⟨hbg, (Array.getElem?_eq_some_iff.1 hgg).1⟩
theorem cellS {w w' : World} (hb : RowKit.Below w.heap.size w w') {a : Addr} {u : Value} (h : w.cell? a = some u) : w'.cell? a = some u := (hb.cell (p := a) (World.block_lt_of_cell? w _ h)).trans h
theorem cellG {w w' : World} {row : Option Nat} (hg : w.grownBy w' row) {a : Addr} {u : Value} (h : w.cell? a = some u) (hne : some a.block ≠ row) : w'.cell? a = some u := hg.cell h hne
set_option maxRecDepth 20000 in
set_option maxHeartbeats 3200000 in
theorem rows_any {w : World} {B t bm n : Nat} {D : DataW Value} {m : TM} (h : TabIs w B t bm n D m) (hsz : Maps.size D ≤ 4096) (hser : ∀ c x, m c = some x → serB c = true) :
    Calls Tryz.prog 55 #[.pointer (some ⟨t, 0, none⟩)] w fun e w' => ∃ A c cs es, e = .returned (.slice A es.length c) ∧ es.length ≤ c ∧ c ≤ 9223372036854775807 ∧ Rd w' A cs ∧ RwRows w' (fun q => w.heap.size ≤ q) cs es ∧ es.Pairwise (fun x y => x.1 < y.1) ∧ (∀ e : RowT, e ∈ es ↔ m e.1 = some e.2) ∧ es.length ≤ Maps.size D ∧ Below w.heap.size w w' ∧ ∀ a, A = some a → w.heap.size ≤ a.block := by
  have x0 := h.blk.cell (j := 0) rfl
  have hl := fun ty => h.len ty
  go_enter Tryz.func55, Tryz.ntmps55
  go_wp2_with fail
  go_fit (made06_any h)
  rintro x w1 ⟨rfl, rfl⟩
  go_wp2_with (first | (with_reducible refine stop_append rfl ?_) | (with_reducible refine stop_copy rfl ?_) | (with_reducible refine stop_make rfl ?_))
  refine go_make rfl rfl tRows rfl rfl (n := 0) (m := Maps.size D) rfl rfl (by omega) (by omega) (by omega) (Nat.le_refl _) ?_
  rintro z w2 - - hw2 hown2 hg2
  have hb2 : Below w.heap.size w w2 := by rw [hw2]; exact (Below.refl _ _).alloc (Nat.le_refl _) _
  have hT2 := h.below hb2
  have y0 := hT2.blk.cell (j := 0) rfl
  have sz2 : w2.heap.size = w.heap.size + 1 := by rw [hw2]; simp
  rw [List.take_zero] at hown2
  have Hw2 := hide hw2
  clear hw2
  go_wp2_with (first | (at_range; refine wpList_range_own _ rfl _ 153 rfl 3 151 keyed_int Tryz.underlying153 rdV bm n D rfl hT2.own ?_; intro w3 hrg3 hg3 hs3))
  go_frame
  have hb3 : Below w.heap.size w w3 := hb2.grown hg3 hb2.size (fun g hg => by cases hg)
  have Hsz2 := hide sz2
  clear sz2
  go_loopw [3] (fun o wr => ∃ left cnt ds, LoopR w wr t bm w2.heap.size n D m o left cnt ds) (fun _ wr => wr.rangeLeft bm w2.heap.size)
  case atStart =>
    refine ⟨Maps.has D, Maps.size D, [], ⟨hrg3, own_below hown2 ⟨hg3.os, hg3.tape, hg3.output, hg3.size, fun k hk => hg3.block k hk (by simp)⟩, fun x hx => (by cases hx), fun x hx => (by cases hx), fun c y hm hl => ?_, fun _ h => h, List.Pairwise.nil, by simp, hb3, by simp, by have := Hsz2.out; simp [Value.ownBlock]; omega, by have := Hsz2.out; omega⟩⟩
    have := h.at_ c
    rw [hm] at this
    obtain ⟨s, k, bs⟩ := y
    rw [this.1] at hl
    cases hl
  case round =>
    obtain ⟨left, cnt, ds, hL⟩ := hrel
    have hTr := h.below hL.bel
    go_wp2_with (first | (at_next; refine wpList_next_ranges (α := Int) (β := Value) _ rfl _ rfl 3 keyed_int rdV (Value.int .i64) id (fun key kl hk => by obtain ⟨x, rfl, _⟩ := Maps.keyOf_int_inv Tryz.underlying3 hk; exact ⟨x, rfl⟩) (fun v y hv => ⟨v, rfl⟩) bm w2.heap.size n D left cnt rfl hL.rng ?_ ?_))
    · intro hc0 hl0
      obtain ⟨hn0, hv⟩ := hL.own
      rcases hv with ⟨h0, _⟩ | ⟨blk, cap, cur, rfl, hbg, hgg, hcc⟩
      · exact absurd h0 hL.ne
      have hblk : blk < wr.heap.size := (Array.getElem?_eq_some_iff.1 hgg).1
      have hlen := hL.len
      obtain ⟨dn, hdn⟩ : ∃ x, ds.length = x := ⟨_, rfl⟩
      have hown := hL.own
      rw [hdn] at hown
      have C := hide (sortR_any hown hdn hblk (by omega))
      have HL := hide hL
      have Hdn := hide hdn
      have hcap := hcc.1
      have hcm := hcc.2.1
      rw [hdn] at hlen hcap
      rw [hdn]
      clear hL hgg hcc hn0 hown x0 hl y0 hrg3 hg3 hb3 hb2 hT2 hown2 hg2 hdn
      go_wp2_with fail
      go_fit C.out
      rintro xx w8 ⟨rfl, es, hperm, hsrt, hrd8, hg8⟩
      go_wp2
      go_ret
      have hok : ∀ x ∈ es, RowOk w8 (fun q => w.heap.size ≤ q) m x := fun x hx => (HL.out.ok x (hperm.mem_iff.1 hx)).keep (fun A xs hr hq => hr.grown hg8 (fun a ha e => (hq a ha).2.2.2 (by simpa [Value.ownBlock] using e))) (fun _ hq => hq.1)
      have hel : es.length = dn := by rw [hperm.length_eq]; exact Hdn.out
      refine ⟨some ⟨blk, 0, none⟩, cap, es.flatMap encR, es.map (toRow m), by simp [hel], by simp [hel]; exact hcap, by unfold maxLen at hcm; omega, hrd8, ⟨by rw [flat_length]; simp, fun j e he => ?_⟩, ?_, fun e => ⟨fun hm => ?_, fun hm => ?_⟩, by simp [hel]; omega, ?_⟩
      · rw [List.getElem?_map] at he
        obtain ⟨x, hx, rfl⟩ := Option.map_eq_some_iff.1 he
        have hj := (List.getElem?_eq_some_iff.1 hx).1
        have hxm : x ∈ es := List.mem_of_getElem? hx
        obtain ⟨bs, h1, h2, h3, h4, h5, h6, h7⟩ := hok x hxm
        have hg : ∀ r, r < 4 → (es.flatMap encR)[4 * j + r]? = some ((encR x)[r]!) := fun r hr => by
          rw [flat_get es (4 * j + r) (by omega), show (4 * j + r) / 4 = j by omega, show (4 * j + r) % 4 = r by omega, getElem!_pos es.toArray j (by simpa using hj)]
          rw [List.getElem?_eq_getElem hj] at hx
          injection hx with hx
          simp [hx]
        have ht : toRow m x = (x.c, x.s, x.k, bs) := by unfold toRow; rw [h1]; rfl
        rw [ht]
        exact ⟨x.A, x.d, x.dc, hg 0 (by omega), hg 1 (by omega), hg 2 (by omega), hg 3 (by omega), h2, h3, h4, h5, h6, h7⟩
      · rw [List.pairwise_map]
        have hnd : es.Pairwise (fun x y => x.c ≠ y.c) := (hperm.pairwise_iff (fun h => Ne.symm h)).2 HL.out.nd
        refine (hsrt.and hnd).imp ?_
        rintro x y ⟨h1, h2⟩
        show x.c < y.c
        omega
      · obtain ⟨x, hx, rfl⟩ := List.mem_map.1 hm
        obtain ⟨bs, h1, _⟩ := hok x hx
        have ht : toRow m x = (x.c, x.s, x.k, bs) := by unfold toRow; rw [h1]; rfl
        rw [ht]; exact h1
      · obtain ⟨x, hx, hxc⟩ := HL.out.all e.1 e.2 hm (hl0 _)
        refine List.mem_map.2 ⟨x, hperm.mem_iff.2 hx, ?_⟩
        unfold toRow
        rw [hxc, hm]; rfl
      · exact ⟨HL.out.bel.grown hg8 (by have := HL.out.bel.size; omega) (fun g hg => by injection hg with hg; omega), fun a ha => by injection ha with ha; subst ha; exact hbg⟩
    · intro x v kl y1 y2 w4 cnt4 hkey hlk hrd hat hrg4 hlt4 hg4 hs4 hen
      obtain ⟨x', hx', rfl, hwf⟩ := Maps.keyOf_int_inv Tryz.underlying3 hkey
      injection hx' with _ hx'
      subst hx'
      injection hrd with hrd
      injection hrd with hrd1 hrd2
      subst hrd1 hrd2
      have hhas := hL.sub _ hlk
      have hax := h.at_ x
      cases hmx : m x with
      | none => rw [hmx] at hax; rw [show Maps.has D (.int .i64 x) = false from hax] at hhas; cases hhas
      | some q =>
        obtain ⟨s, k, bs⟩ := q
        rw [hmx] at hax
        obtain ⟨_, hk8, A, d, dc, ha1, hd, hdc, hd8, hdm, hrA, hA⟩ := hax
        have hv := (hat (.held zeroE)).symm.trans ha1
        injection hv with hv
        have hv' : v = entV s k A d dc := hv
        subst hv'
        have hser' := serB_out (hser x _ hmx)
        have hb4 : RowKit.Below w.heap.size w w4 := hL.bel.grown hg4 (by have := hL.bel.size; omega) (fun g hg => by injection hg with hg; have := hL.hr; omega)
        have hrA4 := hrA.below hb4
        have Hd := hide hd
        have hL' := hide hL
        have Hmx := hide hmx
        have Hlk := hide hlk
        have hTr' := hide hTr
        have hb4' := hide hb4
        clear hd hat hv hL hTr hkey hlk hhas hmx ha1 hA x0 hl y0 hrg3 hg3 hb3 hb2 hT2 hown2 hg2
        have Hs4 := hide hs4
        clear hs4
        go_wp2_with fail
        obtain ⟨w5, hw5⟩ : ∃ y, w4.alloc (.cells #[.int .i64 s, .int .u8 k, .slice A d dc] 151) = y := ⟨_, rfl⟩
        have hR5 : Blk w5 w4.heap.size [.int .i64 s, .int .u8 k, .slice A d dc] 151 := by rw [← hw5]; exact Blk.new w4 [.int .i64 s, .int .u8 k, .slice A d dc] _
        have hb45 : RowKit.Below w4.heap.size w4 w5 := by rw [← hw5]; exact (RowKit.Below.refl _ _).alloc (Nat.le_refl _) _
        have Hw5 := hide hw5
        clear hw5
        rw [Hw5.out]
        have hlo := own_ltS hL'.out.own
        have hown5 := own_below (own_grownS hL'.out.own hg4 (fun g hg e => hL'.out.sep (by rw [hg]; exact e))) hb45
        have sz5 := hb45.size
        have szr := hL'.out.bel.size
        have hrr := hL'.out.rng.lt
        have hlen := hL'.out.len
        have hrA5 := hrA4.below hb45
        have p0 := hR5.cell (j := 0) rfl
        have p1 := hR5.cell (j := 1) rfl
        have p2 := hR5.cell (j := 2) rfl
        have g5lt := hR5.lt
        rw [← Hs4.out] at hrr szr hlo
        have Mk := hide (show ∀ X X', RowKit.Below X.heap.size X X' → (X.cell? ⟨w4.heap.size, 0, none⟩ = some (.int .i64 s) ∧ X.cell? ⟨w4.heap.size, 1, none⟩ = some (.int .u8 k) ∧ X.cell? ⟨w4.heap.size, 2, none⟩ = some (.slice A d dc)) → (X'.cell? ⟨w4.heap.size, 0, none⟩ = some (.int .i64 s) ∧ X'.cell? ⟨w4.heap.size, 1, none⟩ = some (.int .u8 k) ∧ X'.cell? ⟨w4.heap.size, 2, none⟩ = some (.slice A d dc)) from fun X X' hX h => ⟨cellS hX h.1, cellS hX h.2.1, cellS hX h.2.2⟩)
        have MkG := hide (show ∀ X X' : World, X.grownBy X' u3.ownBlock → (X.cell? ⟨w4.heap.size, 0, none⟩ = some (.int .i64 s) ∧ X.cell? ⟨w4.heap.size, 1, none⟩ = some (.int .u8 k) ∧ X.cell? ⟨w4.heap.size, 2, none⟩ = some (.slice A d dc)) → (X'.cell? ⟨w4.heap.size, 0, none⟩ = some (.int .i64 s) ∧ X'.cell? ⟨w4.heap.size, 1, none⟩ = some (.int .u8 k) ∧ X'.cell? ⟨w4.heap.size, 2, none⟩ = some (.slice A d dc)) from fun X X' hX h => ⟨cellG hX h.1 (fun e => by have := hlo w4.heap.size e.symm; omega), cellG hX h.2.1 (fun e => by have := hlo w4.heap.size e.symm; omega), cellG hX h.2.2 (fun e => by have := hlo w4.heap.size e.symm; omega)⟩)
        have S0 := (show (w5.drew.cell? ⟨w4.heap.size, 0, none⟩ = some (.int .i64 s) ∧ w5.drew.cell? ⟨w4.heap.size, 1, none⟩ = some (.int .u8 k) ∧ w5.drew.cell? ⟨w4.heap.size, 2, none⟩ = some (.slice A d dc)) from ⟨p0, p1, p2⟩)
        go_wp2_with fail
        first
          | (go_region_held_law (fun W => W.cell? ⟨w4.heap.size, 0, none⟩ = some (.int .i64 s) ∧ W.cell? ⟨w4.heap.size, 1, none⟩ = some (.int .u8 k) ∧ W.cell? ⟨w4.heap.size, 2, none⟩ = some (.slice A d dc)) (first | assumption | exact Mk.out _ _ ((RowKit.Below.refl _ _).alloc (Nat.le_refl _) _) (by assumption)) (first
              | (go_at_call 103; refine (cloneR_any k A d dc bs _ Hd.out hd8 hrA5.drew).mono ?_; rintro xx w6 ⟨A6, c6, rfl, hc6, hm6, hr6, ha6, hb6⟩; have S6 := Mk.out _ _ hb6 S0)
              | (refine step_own rfl rfl tRows (by simp [Act.eval]) (own_below (own_below hown5 (show RowKit.Below w5.heap.size w5 w6 from ⟨hb6.os, hb6.tape, hb6.output, hb6.size, hb6.block⟩)) ((RowKit.Below.refl _ _).alloc (Nat.le_refl _) _)) (by simp [Act.eval]; rfl) (m := 1) (news := [.int .i64 x, .int .i64 s, .int .u8 k, .slice A6 d c6]) rfl (Rd.newN w6 [.int .i64 x, .int .i64 s, .int .u8 k, .slice A6 d c6] _ (0, 0)) (by intro u hu; simp at hu; rcases hu with rfl | rfl | rfl | rfl <;> rfl) (by omega) (by omega) (by have h6 : w5.heap.size ≤ w6.heap.size := hb6.size; rw [World.size_alloc]; omega) ?_; intro v8 w8 ho8 hg8 hv8; simp only [List.getElem_toArray, List.getElem_cons_succ, List.getElem_cons_zero, Act.put, List.setIfInBounds_toArray, List.set_cons_zero, List.set_cons_succ]; have S8 := MkG.out _ _ hg8 (Mk.out _ _ ((RowKit.Below.refl _ _).alloc (Nat.le_refl _) _) S6))))
        all_goals
          have hb56 : RowKit.Below w5.heap.size w5 w6 := ⟨hb6.os, hb6.tape, hb6.output, hb6.size, hb6.block⟩
          have sz6 := hb56.size
          have hb67 : RowKit.Below w6.heap.size w6 (w6.alloc (.cells #[.int .i64 x, .int .i64 s, .int .u8 k, .slice A6 d c6] 100)) := (RowKit.Below.refl _ _).alloc (Nat.le_refl _) _
          have hb47 := hb45.trans ((hb56.trans (hb67.mono sz6)).mono sz5)
          have sz7 : (w6.alloc (.cells #[.int .i64 x, .int .i64 s, .int .u8 k, .slice A6 d c6] 100)).heap.size = w6.heap.size + 1 := World.size_alloc _ _
          have sz8 := hg8.size
          rw [sz7] at sz8
          have hne : ∀ b, b < w6.heap.size → some b ≠ u3.ownBlock → some b ≠ v8.ownBlock := fun b hb hb' e => by
            rcases hv8 with e' | e'
            · rw [e'] at e; exact hb' e
            · rw [e', sz7] at e; injection e with e; omega
          have hb8 : RowKit.Below w.heap.size w w8 := (hb4'.out.trans (hb47.mono (by omega))).grown hg8 (by omega) (fun g hg => (hlo g hg).1)
          have hrng8 := ((hrg4.kept (grown_of_below hb47 none) (by simp) (by simp)).kept hg8 (fun e => by have := (hlo bm e.symm).1; have := h.own.lt; omega) (hL'.out.sep))
          go_wp2
          go_roundw
          case rel =>
            refine ⟨_, cnt4, ds ++ [⟨x, s, k, A6, d, c6, hser'⟩], ⟨hrng8, by rw [flat_snoc]; simpa [encR] using ho8, ?_, ?_, ?_, ?_, ?_, by simp; omega, hb8, ?_, ?_, hL'.out.hr⟩⟩
            · intro y hy
              rcases List.mem_append.1 hy with hy | hy
              · refine (hL'.out.ok y hy).keep (fun A' xs hr hq => ?_) (fun b hb => ⟨hb.1, ?_, hb.2.2.1, hne b ?_ hb.2.2.2⟩)
                · exact (((hr.grown hg4 (fun a ha e => by injection e with e; exact (hq a ha).2.2.1 e)).below hb47).grown hg8 (fun a ha e => (hq a ha).2.2.2 e))
                · have := hb.2.1; have := Hs4.out; omega
                · have := hb.2.1; have := Hs4.out; omega
              · obtain rfl : y = ⟨x, s, k, A6, d, c6, hser'⟩ := by simpa using hy
                have hne6 : ∀ a, A6 = some a → some a.block ≠ u3.ownBlock := fun a ha e => by
                  have h1 := (hlo _ e.symm).2
                  have h2 := ha6 a ha
                  have h3 : w5.drew.heap.size = w5.heap.size := rfl
                  omega
                have hrz : Rd w8 A6 (bys bs) := (hr6.below hb67).grown hg8 hne6
                refine ⟨bs, Hmx.out, hk8, Hd.out, hc6, hm6, hrz, fun hnb a ha => ⟨?_, rd_ltB hrz hnb a ha, ?_, hne _ (rd_ltB hr6 hnb a ha) (hne6 a ha)⟩⟩
                · have h2 := ha6 a ha
                  have h3 : w5.drew.heap.size = w5.heap.size := rfl
                  have := hL'.out.bel.size
                  omega
                · have h2 := ha6 a ha
                  have h3 : w5.drew.heap.size = w5.heap.size := rfl
                  omega
            · intro y hy
              rcases List.mem_append.1 hy with hy | hy
              · show (left _ && _) = false
                rw [hL'.out.gone y hy]; rfl
              · obtain rfl : y = ⟨x, s, k, A6, d, c6, hser'⟩ := by simpa using hy
                simp [Lit.sameKey]
            · intro c y hm hz
              by_cases hcx : c = x
              · exact ⟨⟨x, s, k, A6, d, c6, hser'⟩, by simp, hcx.symm⟩
              · have hz' : left (.int .i64 c) = false := by simpa [Lit.sameKey, hcx] using hz
                obtain ⟨q, hq, hqc⟩ := hL'.out.all c y hm hz'
                exact ⟨q, List.mem_append_left _ hq, hqc⟩
            · intro kl hk
              exact hL'.out.sub kl (by cases hl2 : left kl <;> simp_all)
            · refine List.pairwise_append.2 ⟨hL'.out.nd, by simp, fun a ha b hb e => ?_⟩
              obtain rfl : b = ⟨x, s, k, A6, d, c6, hser'⟩ := by simpa using hb
              have h1 := hL'.out.gone a ha
              have e' : a.c = x := e
              rw [e'] at h1
              rw [Hlk.out] at h1
              cases h1
            · intro e
              rcases ho8.2 with ⟨_, h0⟩ | ⟨g, cap, cur, hv, _⟩
              · omega
              · rw [e] at hv; cases hv
            · exact hne _ (by omega) hL'.out.sep
          case measure => rw [hrng8.left_eq, hL'.out.rng.left_eq]; omega
end Go.Proofs.YtkknkdjdneldlaaGreat
namespace Go.Proofs.YtkknkdjdneldlaaGreat
set_option maxRecDepth 20000
open Go.RowKit Go.Px Go.Maps
set_option linter.unusedVariables false
theorem okL_out : ∀ (es : List RowT) (a : Int), okL a es = true → (∀ e ∈ es, a < e.1 ∧ serB e.1 = true ∧ serB e.2.1 = true ∧ rsE e.2.2.1 e.2.2.2.length = 0) ∧ es.Pairwise (fun x y => x.1 < y.1)
  | [], a, _ => ⟨fun e h => by simp at h, List.Pairwise.nil⟩
  | x :: xs, a, h => by
    have h' : okB a x = true ∧ okL x.1 xs = true := by
      have : (okB a x && okL x.1 xs) = true := h
      simpa using this
    obtain ⟨h1, h2⟩ := okL_out xs x.1 h'.2
    have h3 := okB_out h'.1
    refine ⟨fun e he => ?_, List.pairwise_cons.2 ⟨fun y hy => (h1 y hy).1, h2⟩⟩
    rcases List.mem_cons.1 he with rfl | he
    · exact h3
    · obtain ⟨q1, q2⟩ := h1 e he
      exact ⟨by have := h3.1; omega, q2⟩
theorem rowsB_out {es : List RowT} (h : rowsB es = true) : es.length ≤ 64 ∧ (∀ e ∈ es, serB e.1 = true ∧ serB e.2.1 = true ∧ rsE e.2.2.1 e.2.2.2.length = 0) ∧ es.Pairwise (fun x y => x.1 < y.1) := by
  unfold rowsB at h
  rw [Bool.and_eq_true, decide_eq_true_eq] at h
  obtain ⟨h1, h2⟩ := okL_out es 0 h.2
  exact ⟨h.1, fun e he => (h1 e he).2, h2⟩
theorem okL_of : ∀ (es : List RowT) (a : Int), (∀ e ∈ es, a < e.1 ∧ serB e.1 = true ∧ serB e.2.1 = true ∧ rsE e.2.2.1 e.2.2.2.length = 0) → es.Pairwise (fun x y => x.1 < y.1) → okL a es = true
  | [], a, _, _ => rfl
  | x :: xs, a, h, hp => by
    rw [List.pairwise_cons] at hp
    have h1 := h x (List.mem_cons_self ..)
    rw [okL_step (by unfold okB; simp [h1])]
    exact okL_of xs x.1 (fun e he => ⟨hp.1 e he, (h e (List.mem_cons_of_mem _ he)).2⟩) hp.2
/-- Two rows of rows, both rising, with the same rows, are one. -/
theorem srt_one : ∀ {a b : List RowT}, a.Pairwise (fun x y => x.1 < y.1) → b.Pairwise (fun x y => x.1 < y.1) → (∀ e, e ∈ a ↔ e ∈ b) → a = b
  | [], [], _, _, _ => rfl
  | [], y :: ys, _, _, h => by have := (h y).2 (List.mem_cons_self ..); simp at this
  | x :: xs, [], _, _, h => by have := (h x).1 (List.mem_cons_self ..); simp at this
  | x :: xs, y :: ys, ha, hb, h => by
    rw [List.pairwise_cons] at ha hb
    have hxy : x = y := by
      rcases List.mem_cons.1 ((h x).1 (List.mem_cons_self ..)) with e | hx
      · exact e
      · rcases List.mem_cons.1 ((h y).2 (List.mem_cons_self ..)) with e | hy
        · exact e.symm
        · have := ha.1 y hy; have := hb.1 x hx; omega
    subst hxy
    congr 1
    refine srt_one ha.2 hb.2 fun e => ⟨fun he => ?_, fun he => ?_⟩
    · rcases List.mem_cons.1 ((h e).1 (List.mem_cons_of_mem _ he)) with e' | h'
      · subst e'; have := ha.1 e he; omega
      · exact h'
    · rcases List.mem_cons.1 ((h e).2 (List.mem_cons_of_mem _ he)) with e' | h'
      · subst e'; have := hb.1 e he; omega
      · exact h'
theorem srt_nodup {es : List RowT} (h : es.Pairwise (fun x y => x.1 < y.1)) {k : Nat} {e : RowT} (he : es[k]? = some e) {y : Int × Nat × List UInt8} : (e.1, y) ∉ es.take k := by
  intro hm
  obtain ⟨i, hi, hie⟩ := List.mem_iff_getElem.1 hm
  have hik : i < k := by simp at hi; omega
  have hk := (List.getElem?_eq_some_iff.1 he).1
  rw [List.getElem_take] at hie
  have := List.pairwise_iff_getElem.1 h i k (by omega) hk hik
  rw [hie] at this
  rw [List.getElem?_eq_getElem hk] at he
  injection he with he
  rw [he] at this
  simp at this
theorem TabIs.weak {w : World} {B B' t bm N : Nat} {D : DataW Value} {m : TM} (h : TabIs w B t bm N D m) (hB : B' ≤ B) : TabIs w B' t bm N D m :=
  { blk := h.blk
    own := h.own
    at_ := fun c => by
      have := h.at_ c
      cases hc : m c with
      | none => rw [hc] at this; exact this
      | some y =>
        obtain ⟨s, kk, bs⟩ := y
        rw [hc] at this
        obtain ⟨q0, q8, A', d', dc', q1, q2, q3, q4, q5, q6, q7⟩ := this
        exact ⟨q0, q8, A', d', dc', q1, q2, q3, q4, q5, q6, fun a ha => ⟨Nat.le_trans hB (q7 a ha).1, (q7 a ha).2⟩⟩
    ne := h.ne
    hB := ⟨Nat.le_trans hB h.hB.1, Nat.le_trans hB h.hB.2⟩ }
set_option maxRecDepth 20000 in
set_option maxHeartbeats 3200000 in
theorem tload_any (A : Option Addr) (n c : Nat) (cs : List Value) (es : List RowT) (Q : Nat → Prop) (w : World) (hn : es.length = n) (hr : Rd w A cs) (hE : RwRows w Q cs es) (hB : rowsB es = true) :
    Calls Tryz.prog 60 #[.slice A n c] w fun e w' => ∃ t bm N D m, e = .returned (.tuple #[.pointer (some ⟨t, 0, none⟩), .int .i64 0]) ∧ TabIs w' w.heap.size t bm N D m ∧ N = es.length ∧ Maps.size D = es.length ∧ (∀ e : RowT, e ∈ es ↔ m e.1 = some e.2) ∧ Below w.heap.size w w' := by
  obtain ⟨h64, hall, hsrt⟩ := rowsB_out hB
  rw [hn] at h64
  have HB := hide hB
  have hl := hE.1
  clear hB
  go_enter Tryz.func60, Tryz.ntmps60
  go_wp2_with fail
  go_fit (mayRows_any A n c cs es Q w hn hr hE)
  rw [HB.out]
  rintro x w1 ⟨rfl, hb1⟩
  go_wp2_with fail
  go_fit (new06_any w1)
  rintro x w2 ⟨t, bm, rfl, hT2, hb2⟩
  obtain ⟨B, hB⟩ : ∃ x, w1.heap.size = x := ⟨_, rfl⟩
  rw [hB] at hT2 hb2
  have hB2 : B ≤ w2.heap.size := by have := hb2.size; omega
  have hwB : w.heap.size ≤ B := by have := hb1.size; omega
  have HBq := hide hB
  clear hB
  go_wp2
  go_loopw [13] (fun iv wr => ∃ (k : Nat) (D : DataW Value) (m : TM), k ≤ n ∧ iv = .int .i64 k ∧ TabIs wr B t bm k D m ∧ Maps.size D = k ∧ (∀ c y, m c = some y ↔ (c, y) ∈ es.take k) ∧ Below B w1 wr ∧ B ≤ wr.heap.size) (fun iv _ => n - (intOf iv).toNat)
  case atStart => exact ⟨0, .map [], _, by omega, rfl, hT2, rfl, fun c y => by simp, hb2, hB2⟩
  case round =>
    obtain ⟨k, D, m, hk, rfl, hT, hsz, hm, hbw, hBr⟩ := hrel
    clear hT2 hb2
    by_cases hlt : k < n
    · obtain ⟨e, he⟩ : ∃ e, es[k]? = some e := ⟨_, List.getElem?_eq_getElem (by omega)⟩
      have hbr : Below w.heap.size w wr := hb1.trans (hbw.mono hwB)
      obtain ⟨a, rfl, hat⟩ := (hr.below hbr).some_of (xs := cs) (by omega)
      obtain ⟨A', d, dc, y0, y1, y2, y3, hk8, hd, hdc, hdm, hrd, hq⟩ := ((hE.below hbr).2 k e he).cells hat
      obtain ⟨hc, hs, hR⟩ := hall e (List.mem_of_getElem? he)
      have hnm : m e.1 = none := by
        cases hme : m e.1 with
        | none => rfl
        | some y => exact absurd ((hm e.1 y).1 hme) (srt_nodup hsrt he)
      have htk : es.take (k + 1) = es.take k ++ [e] := by
        rw [List.take_add_one, he]; rfl
      obtain ⟨cl, s, kd, bs⟩ := e
      simp only at y0 y1 y2 hk8 hd hrd hc hs hR hnm
      obtain ⟨c1, c2⟩ := serB_out hc
      have hd8 := rsE_zero hR
      rw [hd] at hd8
      have Hm := hide hm
      have Hnm := hide hnm
      have Htk := hide htk
      have Hd := hide hd
      clear hq hat he hm hnm htk hR hs hd hc
      obtain ⟨wa, hwa⟩ : ∃ x, wr.alloc (.cells #[.int .i64 cl, .int .i64 s, .int .u8 kd, .slice A' d dc] 100) = x := ⟨_, rfl⟩
      have hS : Blk wa wr.heap.size [.int .i64 cl, .int .i64 s, .int .u8 kd, .slice A' d dc] 100 := by rw [← hwa]; exact Blk.new wr [.int .i64 cl, .int .i64 s, .int .u8 kd, .slice A' d dc] _
      have hba : Below wr.heap.size wr wa := by rw [← hwa]; exact (Below.refl _ _).alloc (Nat.le_refl _) _
      have sza := hba.size
      have hTa := hT.below hba
      have hra := hrd.below hba
      have p0 := hS.cell (j := 0) rfl
      have p1 := hS.cell (j := 1) rfl
      have p2 := hS.cell (j := 2) rfl
      have p3 := hS.cell (j := 3) rfl
      have t0 := hTa.blk.cell (j := 0) rfl
      have Hwa := hide hwa
      clear hwa
      go_wp2_with fail
      rw [Hwa.out]
      clear y0 y1 y2 y3
      have hne1 := hT.ne
      have hbl := hT.own.lt
      have Mk := hide (show ∀ X X', Below X.heap.size X X' → (X.cell? ⟨t, 0, none⟩ = some (.map (some bm)) ∧ X.cell? ⟨wr.heap.size, 0, none⟩ = some (.int .i64 cl) ∧ X.cell? ⟨wr.heap.size, 1, none⟩ = some (.int .i64 s) ∧ X.cell? ⟨wr.heap.size, 2, none⟩ = some (.int .u8 kd) ∧ X.cell? ⟨wr.heap.size, 3, none⟩ = some (.slice A' d dc)) → (X'.cell? ⟨t, 0, none⟩ = some (.map (some bm)) ∧ X'.cell? ⟨wr.heap.size, 0, none⟩ = some (.int .i64 cl) ∧ X'.cell? ⟨wr.heap.size, 1, none⟩ = some (.int .i64 s) ∧ X'.cell? ⟨wr.heap.size, 2, none⟩ = some (.int .u8 kd) ∧ X'.cell? ⟨wr.heap.size, 3, none⟩ = some (.slice A' d dc)) from fun X X' hX h => ⟨cellS hX h.1, cellS hX h.2.1, cellS hX h.2.2.1, cellS hX h.2.2.2.1, cellS hX h.2.2.2.2⟩)
      have MkG := hide (show ∀ X X' : World, X.grownBy X' (some bm) → (X.cell? ⟨t, 0, none⟩ = some (.map (some bm)) ∧ X.cell? ⟨wr.heap.size, 0, none⟩ = some (.int .i64 cl) ∧ X.cell? ⟨wr.heap.size, 1, none⟩ = some (.int .i64 s) ∧ X.cell? ⟨wr.heap.size, 2, none⟩ = some (.int .u8 kd) ∧ X.cell? ⟨wr.heap.size, 3, none⟩ = some (.slice A' d dc)) → (X'.cell? ⟨t, 0, none⟩ = some (.map (some bm)) ∧ X'.cell? ⟨wr.heap.size, 0, none⟩ = some (.int .i64 cl) ∧ X'.cell? ⟨wr.heap.size, 1, none⟩ = some (.int .i64 s) ∧ X'.cell? ⟨wr.heap.size, 2, none⟩ = some (.int .u8 kd) ∧ X'.cell? ⟨wr.heap.size, 3, none⟩ = some (.slice A' d dc)) from fun X X' hX h => ⟨cellG hX h.1 (fun e => by injection e with e; exact hne1 e), cellG hX h.2.1 (fun e => absurd (show wr.heap.size = bm from Option.some.inj e) (by omega)), cellG hX h.2.2.1 (fun e => absurd (show wr.heap.size = bm from Option.some.inj e) (by omega)), cellG hX h.2.2.2.1 (fun e => absurd (show wr.heap.size = bm from Option.some.inj e) (by omega)), cellG hX h.2.2.2.2 (fun e => absurd (show wr.heap.size = bm from Option.some.inj e) (by omega))⟩)
      have S0 := (show (wa.drew.cell? ⟨t, 0, none⟩ = some (.map (some bm)) ∧ wa.drew.cell? ⟨wr.heap.size, 0, none⟩ = some (.int .i64 cl) ∧ wa.drew.cell? ⟨wr.heap.size, 1, none⟩ = some (.int .i64 s) ∧ wa.drew.cell? ⟨wr.heap.size, 2, none⟩ = some (.int .u8 kd) ∧ wa.drew.cell? ⟨wr.heap.size, 3, none⟩ = some (.slice A' d dc)) from ⟨t0, p0, p1, p2, p3⟩)
      first
        | (go_region_held_law (fun W => (W.cell? ⟨t, 0, none⟩ = some (.map (some bm)) ∧ W.cell? ⟨wr.heap.size, 0, none⟩ = some (.int .i64 cl) ∧ W.cell? ⟨wr.heap.size, 1, none⟩ = some (.int .i64 s) ∧ W.cell? ⟨wr.heap.size, 2, none⟩ = some (.int .u8 kd) ∧ W.cell? ⟨wr.heap.size, 3, none⟩ = some (.slice A' d dc))) (first | assumption | exact MkG.out _ _ hg5 (by assumption)) (first
            | (go_at_call 103; refine (cloneR_any kd A' d dc bs _ Hd.out hd8 (by exact hra.drew)).mono ?_; rintro x w4 ⟨A4, c4, rfl, hc4, hm4, hr4, ha4, hb4⟩; have hb4' : Below wa.heap.size wa w4 := ⟨hb4.os, hb4.tape, hb4.output, hb4.size, hb4.block⟩; have hT4 := hTa.below hb4'; have S4 := Mk.out _ _ hb4 S0; obtain ⟨w5, hst, hown5, hg5⟩ := hT4.own.update keyed_int Tryz.underlying153 (by unfold maxLen; omega) (key_ok (c := cl) (by omega) (by omega)) (show rdV (entV s kd A4 d c4) = some (.held (entV s kd A4 d c4), []) from rfl))))
        | fail
      all_goals
        have e0 : wa.drew.heap.size = wa.heap.size := rfl
        have tl := hT.blk.lt
        have bl := hT.own.lt
        have hA4 : ∀ a, A4 = some a → B ≤ a.block ∧ a.block ≠ t ∧ a.block ≠ bm := fun a ha => by have := ha4 a ha; omega
        have hT5 := hT4.put hk8 Hd.out hc4 hd8 hm4 hr4 hA4 hown5 hg5
        have hz5 := hT4.size_put cl (entV s kd A4 d c4)
        have sz4 := hb4'.size
        have sz5 := hg5.size
        have hb5 : Below B w1 w5 := ((hbw.trans (hba.mono hBr)).trans (hb4'.mono (by omega))).grown hg5 (by omega) (fun q hq => by injection hq with hq; have := hT.hB.2; omega)
        rw [Hnm.out, hsz] at hz5
        go_wp2
        go_roundw
        case rel =>
          refine ⟨k + 1, _, _, by omega, by go_num, hT5, hz5, fun c y => ?_, hb5, by omega⟩
          rw [Htk.out, List.mem_append, List.mem_singleton, ← Hm.out]
          show (if c = cl then some (s, kd, bs) else m c) = some y ↔ _
          by_cases hcc : c = cl
          · subst hcc
            rw [if_pos rfl, Hnm.out]
            constructor
            · intro h; injection h with h; subst h; exact .inr rfl
            · rintro (h | h)
              · cases h
              · injection h with _ h; rw [h]
          · rw [if_neg hcc]
            constructor
            · exact fun h => .inl h
            · rintro (h | h)
              · exact h
              · injection h with h _; exact absurd h hcc
        case measure => simp [intOf]; omega
    · obtain rfl : k = n := by omega
      have hw := hT.hB
      go_wp2
      go_ret2
      refine ⟨t, bm, k, D, m, rfl, hT.weak hwB, hn.symm, by omega, fun e => ?_, hb1.trans (hbw.mono hwB)⟩
      rw [hm e.1 e.2, List.take_of_length_le (by omega)]
end Go.Proofs.YtkknkdjdneldlaaGreat
namespace Go.Proofs.YtkknkdjdneldlaaGreat
set_option maxRecDepth 20000
open Go.RowKit Go.Px Go.Maps
set_option linter.unusedVariables false
theorem Apart.none {D : DataW Value} {m : TM} : Apart D m none := fun c s k bs A d dc _ _ _ a _ e => by cases e
end Go.Proofs.YtkknkdjdneldlaaGreat
namespace Go.Proofs.YtkknkdjdneldlaaGreat
set_option maxRecDepth 20000
open Go.RowKit Go.Px Go.Maps
set_option linter.unusedVariables false
/-- What a table knows, and its rows. -/
structure TbOf (m : TM) (es : List RowT) : Prop where
  mem : ∀ e : RowT, e ∈ es ↔ m e.1 = some e.2
  srt : es.Pairwise (fun x y => x.1 < y.1)
/-- The document's table at block r of memory. -/
structure RfIs (w : World) (r : Nat) (A : Option Addr) (n c : Nat) (cs : List Value) (es : List RowT) : Prop where
  blk : Blk w r [.slice A n c] 98
  len : es.length = n
  nc : n ≤ c
  cm : c ≤ 9223372036854775807
  rd : Rd w A cs
  rows : RwRows w (fun _ => True) cs es
theorem RfIs.below {w w' : World} {r : Nat} {A : Option Addr} {n c : Nat} {cs : List Value} {es : List RowT} (h : RfIs w r A n c cs es) (hb : Below w.heap.size w w') : RfIs w' r A n c cs es :=
  ⟨h.blk.below hb, h.len, h.nc, h.cm, h.rd.below hb, h.rows.below hb⟩
theorem TbOf.atN {m : TM} {es : List RowT} (h : TbOf m es) {c : Int} (hc : m c = none) {e : RowT} (he : e ∈ es) : e.1 ≠ c := by
  rintro rfl
  rw [(h.mem e).1 he] at hc
  cases hc
section
variable {w : World} {r : Nat} {A : Option Addr} {n c : Nat} {cs : List Value} {es : List RowT}
end
end Go.Proofs.YtkknkdjdneldlaaGreat
namespace Go.Proofs.YtkknkdjdneldlaaGreat
set_option maxRecDepth 20000
open Go.RowKit Go.Px Go.Maps
set_option linter.unusedVariables false
section
variable {w : World} {r : Nat} {A : Option Addr} {n c : Nat} {cs : List Value} {es : List RowT}

/-- What Ask tells, of what a table knows. -/
def askV (m : TM) (S : Nat) (x s : Int) : Int × Int × Nat × List UInt8 :=
  if serB x = true ∧ serB s = true then
    match m x with
    | none => if 64 ≤ S then (4, 0, 0, []) else (1, 0, 0, [])
    | some (s0, k0, b0) => if s0 < s then (1, 0, 0, []) else if s < s0 then (3, 0, 0, []) else (2, 0, k0, b0)
  else (0, 5, 0, [])
theorem askV_bad {m : TM} {S : Nat} {x s : Int} (h : serB x = false ∨ (serB x = true ∧ serB s = false)) : askV m S x s = (0, 5, 0, []) := by
  unfold askV
  rw [if_neg]
  rintro ⟨h1, h2⟩
  rcases h with h | ⟨_, h⟩ <;> simp_all
theorem serB_two {x s : Int} : (serB x = false ∨ (serB x = true ∧ serB s = false)) ∨ (serB x = true ∧ serB s = true) := by
  cases h1 : serB x <;> cases h2 : serB s <;> simp
/-- The table's own Ask, likewise. -/
theorem ask_any6 {w : World} {B t bm N : Nat} {D : DataW Value} {m : TM} (h : TabIs w B t bm N D m) (x s : Int) : Calls Tryz.prog 43 #[.pointer (some ⟨t, 0, none⟩), .int .i64 x, .int .i64 s] w (AskIs B t bm N D m (askV m (Maps.size D) x s).1 (askV m (Maps.size D) x s).2.1 (askV m (Maps.size D) x s).2.2.1 (askV m (Maps.size D) x s).2.2.2 w) := by
  rcases serB_two (x := x) (s := s) with hb | ⟨hc, hs⟩
  · rw [askV_bad hb]; exact ask_bad h x s hb
  · unfold askV
    rw [if_pos ⟨hc, hs⟩]
    cases hm : m x with
    | none =>
      by_cases hN : 64 ≤ Maps.size D
      · simp only [if_pos hN]; exact ask_full h x s hc hs hm hN
      · simp only [if_neg hN]; exact ask_new0 h x s hc hs hm (by omega)
    | some y =>
      obtain ⟨s0, k0, b0⟩ := y
      by_cases h1 : s0 < s
      · simp only [if_pos h1]; exact ask_new1 h x s s0 k0 b0 hc hs hm h1
      · by_cases h2 : s < s0
        · simp only [if_neg h1, if_pos h2]; exact ask_old h x s s0 k0 b0 hc hs hm h2
        · obtain rfl : s0 = s := by omega
          simp only [if_neg h1]; exact ask_again h x s0 k0 b0 hc hs hm
end
end Go.Proofs.YtkknkdjdneldlaaGreat
namespace Go.Proofs.YtkknkdjdneldlaaGreat
set_option maxRecDepth 20000
open Go.RowKit Go.Px Go.Maps
set_option linter.unusedVariables false
/-- A row laid among rows, by client: what the loop still makes. -/
def insG (row : RowT) : Bool → List RowT → List RowT
  | b, [] => if b then [] else [row]
  | b, x :: xs => (if !b && decide (row.1 ≤ x.1) then [row] else []) ++ ((if x.1 = row.1 then [] else [x]) ++ insG row (b || decide (row.1 ≤ x.1)) xs)
theorem insG_true (row : RowT) : ∀ (es : List RowT), insG row true es = es.filter fun x => !decide (x.1 = row.1)
  | [] => rfl
  | x :: xs => by
    simp only [insG, insG_true row xs, Bool.not_true, Bool.false_and, Bool.true_or]
    by_cases h : x.1 = row.1 <;> simp [h]
theorem insG_mem (row : RowT) : ∀ (es : List RowT) (e : RowT), e ∈ insG row false es ↔ e = row ∨ (e ∈ es ∧ e.1 ≠ row.1)
  | [], e => by simp [insG]
  | x :: xs, e => by
    have ih := insG_mem row xs e
    by_cases h1 : row.1 ≤ x.1
    · simp only [insG, h1, decide_true, Bool.not_false, Bool.and_self, if_true, Bool.or_true, insG_true]
      by_cases h2 : x.1 = row.1
      · simp [h2]
        constructor
        · rintro (h | ⟨h, h'⟩)
          · exact .inl h
          · exact .inr ⟨.inr h, h'⟩
        · rintro (h | ⟨h | h, h'⟩)
          · exact .inl h
          · subst h; exact absurd h2 h'
          · exact .inr ⟨h, h'⟩
      · simp [h2]
        constructor
        · rintro (h | h | ⟨h, h'⟩)
          · exact .inl h
          · subst h; exact .inr ⟨.inl rfl, h2⟩
          · exact .inr ⟨.inr h, h'⟩
        · rintro (h | ⟨h | h, h'⟩)
          · exact .inl h
          · exact .inr (.inl h)
          · exact .inr (.inr ⟨h, h'⟩)
    · have h2 : x.1 ≠ row.1 := by omega
      simp only [insG, h1, h2, decide_false, Bool.and_false, Bool.or_self, if_false, Bool.false_eq_true]
      simp [ih]
      constructor
      · rintro (h | h | ⟨h, h'⟩)
        · subst h; exact .inr ⟨.inl rfl, h2⟩
        · exact .inl h
        · exact .inr ⟨.inr h, h'⟩
      · rintro (h | ⟨h | h, h'⟩)
        · exact .inr (.inl h)
        · exact .inl h
        · exact .inr (.inr ⟨h, h'⟩)
theorem insG_srt (row : RowT) : ∀ (es : List RowT), es.Pairwise (fun x y => x.1 < y.1) → (insG row false es).Pairwise (fun x y => x.1 < y.1)
  | [], _ => by simp [insG]
  | x :: xs, h => by
    obtain ⟨hx, hs⟩ := List.pairwise_cons.1 h
    by_cases h1 : row.1 ≤ x.1
    · simp only [insG, h1, decide_true, Bool.not_false, Bool.and_self, if_true, Bool.or_true, insG_true]
      have hf : (xs.filter fun y => !decide (y.1 = row.1)).Pairwise (fun x y => x.1 < y.1) := hs.filter _
      by_cases h2 : x.1 = row.1
      · simp only [h2, if_true, List.nil_append, List.cons_append]
        refine List.pairwise_cons.2 ⟨fun e he => ?_, hf⟩
        have := hx e (List.mem_filter.1 he).1
        omega
      · simp only [h2, if_false, List.nil_append, List.cons_append]
        refine List.pairwise_cons.2 ⟨fun e he => ?_, List.pairwise_cons.2 ⟨fun e he => hx e (List.mem_filter.1 he).1, hf⟩⟩
        rcases List.mem_cons.1 he with rfl | he
        · omega
        · have := hx e (List.mem_filter.1 he).1; omega
    · have h2 : x.1 ≠ row.1 := by omega
      simp only [insG, h1, h2, decide_false, Bool.and_false, Bool.or_self, if_false, Bool.false_eq_true, List.nil_append, List.cons_append]
      refine List.pairwise_cons.2 ⟨fun e he => ?_, insG_srt row xs hs⟩
      rcases (insG_mem row xs e).1 he with rfl | ⟨he, _⟩
      · omega
      · exact hx e he
theorem filter_ne_len {c : Int} : ∀ {es : List RowT}, (∀ e ∈ es, e.1 ≠ c) → (es.filter fun x => !decide (x.1 = c)).length = es.length := by
  intro es h
  rw [List.filter_eq_self.2]
  intro e he
  simpa using h e he
theorem insG_len (row : RowT) : ∀ (es : List RowT), es.Pairwise (fun x y => x.1 < y.1) → ((∀ e ∈ es, e.1 ≠ row.1) → (insG row false es).length = es.length + 1) ∧ ((∃ e ∈ es, e.1 = row.1) → (insG row false es).length = es.length)
  | [], _ => by simp [insG]
  | x :: xs, h => by
    obtain ⟨hx, hs⟩ := List.pairwise_cons.1 h
    obtain ⟨i1, i2⟩ := insG_len row xs hs
    by_cases h1 : row.1 ≤ x.1
    · simp only [insG, h1, decide_true, Bool.not_false, Bool.and_self, if_true, Bool.or_true, insG_true]
      have hne : ∀ e ∈ xs, e.1 ≠ row.1 := fun e he => by have := hx e he; omega
      by_cases h2 : x.1 = row.1
      · refine ⟨fun hn => absurd h2 (hn x (by simp)), fun _ => ?_⟩
        simp [h2, filter_ne_len hne]
      · refine ⟨fun hn => by simp [h2, filter_ne_len hne], ?_⟩
        rintro ⟨e, he, hee⟩
        rcases List.mem_cons.1 he with rfl | he
        · exact absurd hee h2
        · exact absurd hee (hne e he)
    · have h2 : x.1 ≠ row.1 := by omega
      simp only [insG, h1, h2, decide_false, Bool.and_false, Bool.or_self, if_false, Bool.false_eq_true, List.nil_append, List.cons_append, List.length_cons]
      refine ⟨fun hn => by rw [i1 (fun e he => hn e (List.mem_cons_of_mem _ he))], ?_⟩
      rintro ⟨e, he, hee⟩
      rcases List.mem_cons.1 he with rfl | he
      · exact absurd hee h2
      · rw [i2 ⟨e, he, hee⟩]
theorem insG_tb {m : TM} {es : List RowT} (h : TbOf m es) (c s : Int) (k : Nat) (bs : List UInt8) : TbOf (tmPut m c s k bs) (insG (c, s, k, bs) false es) := by
  refine ⟨fun e => ?_, insG_srt _ _ h.srt⟩
  rw [insG_mem]
  unfold tmPut
  by_cases hc : e.1 = c
  · rw [if_pos hc]
    constructor
    · rintro (rfl | ⟨_, h'⟩)
      · rfl
      · exact absurd hc h'
    · intro h'
      injection h' with h'
      exact .inl (by obtain ⟨a, b⟩ := e; simp at hc h'; subst hc h'; rfl)
  · rw [if_neg hc, ← h.mem]
    constructor
    · rintro (rfl | ⟨h', _⟩)
      · exact absurd rfl hc
      · exact h'
    · exact fun h' => .inr ⟨h', hc⟩
theorem insG_size {m : TM} {es : List RowT} (h : TbOf m es) (c s : Int) (k : Nat) (bs : List UInt8) : (insG (c, s, k, bs) false es).length = if (m c).isSome then es.length else es.length + 1 := by
  obtain ⟨h1, h2⟩ := insG_len (c, s, k, bs) es h.srt
  cases hm : m c with
  | none => simp; exact h1 fun e he => h.atN hm he
  | some y => simp; exact h2 ⟨(c, y), (h.mem _).2 hm, rfl⟩
/-- What Put tells. -/
def putV (m : TM) (S : Nat) (c s : Int) (k d : Nat) : Int :=
  if (askV m S c s).2.1 = 0 then
    if rsE k d = 0 then
      if (askV m S c s).1 = 4 then 3 else if (askV m S c s).1 = 1 then 0 else 1
    else 60
  else (askV m S c s).2.1
end Go.Proofs.YtkknkdjdneldlaaGreat
namespace Go.Proofs.YtkknkdjdneldlaaGreat
set_option maxRecDepth 20000
open Go.RowKit Go.Px Go.Maps
set_option linter.unusedVariables false
section
variable {w w' : World} {B t bm N : Nat} {D : DataW Value} {m : TM} {r : Nat} {A : Option Addr} {n c : Nat} {cs : List Value} {es : List RowT}
/-! ### what a store into the map, or into the document's table, leaves -/
theorem TabIs.upto {w : World} {B t bm N N' : Nat} {D : DataW Value} {m : TM} (h : TabIs w B t bm N D m) (hN : N ≤ N') : TabIs w B t bm N' D m :=
  { blk := h.blk, own := h.own.mono hN, at_ := h.at_, ne := h.ne, hB := h.hB }
/-! ### what Put makes -/
theorem askV_none {m : TM} {S : Nat} {x s : Int} (h : (askV m S x s).2.1 = 0) : serB x = true ∧ serB s = true := by
  rcases serB_two (x := x) (s := s) with hb | hb
  · rw [askV_bad hb] at h; cases h
  · exact hb
theorem askV_new {m : TM} {S : Nat} {x s : Int} (h : (askV m S x s).1 = 1) : m x = none → S < 64 := by
  intro hm
  unfold askV at h
  split at h
  · rw [hm] at h
    by_cases hS : 64 ≤ S
    · rw [if_pos hS] at h; cases h
    · omega
  · cases h
theorem putV_zero {m : TM} {S : Nat} {x s : Int} {k d : Nat} (h : putV m S x s k d = 0) : (askV m S x s).2.1 = 0 ∧ rsE k d = 0 ∧ (askV m S x s).1 = 1 := by
  unfold putV at h
  by_cases h1 : (askV m S x s).2.1 = 0
  · rw [if_pos h1] at h
    by_cases h2 : rsE k d = 0
    · rw [if_pos h2] at h
      by_cases h3 : (askV m S x s).1 = 4
      · rw [if_pos h3] at h; cases h
      · rw [if_neg h3] at h
        by_cases h4 : (askV m S x s).1 = 1
        · exact ⟨h1, h2, h4⟩
        · rw [if_neg h4] at h; cases h
    · rw [if_neg h2] at h; cases h
  · rw [if_neg h1] at h; exact absurd h h1
def putM (m : TM) (S : Nat) (x s : Int) (k d : Nat) (bs : List UInt8) : TM := if putV m S x s k d = 0 then tmPut m x s k bs else m
def putS (m : TM) (S : Nat) (x s : Int) (k d : Nat) : Nat := if putV m S x s k d = 0 then szNew m x S else S
/-- What Put of the table leaves. -/
def PutT (B t bm N : Nat) (m' : TM) (S' : Nat) (w w' : World) : Prop := (∃ N' D', TabIs w' B t bm N' D' m' ∧ N' ≤ N + 1 ∧ Maps.size D' = S') ∧ w.grownBy w' (some bm) ∧ w.heap.size ≤ w'.heap.size
theorem PutT.same (h : TabIs w B t bm N D m) (hb : Below w.heap.size w w') : PutT B t bm N m (Maps.size D) w w' := ⟨⟨N, D, h.below hb, by omega, rfl⟩, grown_of_below hb _, hb.size⟩
/-- What Put of the document's leaves. -/
def PutR (r : Nat) (m' : TM) (S' : Nat) (w w' : World) : Prop := (∃ A' c' cs' es', RfIs w' r A' S' c' cs' es' ∧ TbOf m' es') ∧ w.grownBy w' (some r)
theorem PutR.same (h : RfIs w r A n c cs es) (ht : TbOf m es) (hb : Below w.heap.size w w') : PutR r m n w w' := ⟨⟨A, c, cs, es, h.below hb, ht⟩, grown_of_below hb _⟩
end
/-! ### the document's Load, begin -/
end Go.Proofs.YtkknkdjdneldlaaGreat
