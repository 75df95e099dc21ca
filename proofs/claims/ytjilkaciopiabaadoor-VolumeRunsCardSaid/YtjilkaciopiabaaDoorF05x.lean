/- plinthref05: Do where a request fits, kind by kind (written by gen5x.py). -/
import Derived.Test.YtjilkaciopiabaaDoorF05w
namespace Go.Proofs.YtjilkaciopiabaaDoor
open Go.RowKit Go.Px
set_option linter.unusedVariables false
theorem Upd.drewN {v r s : Nat} {w w' : World} (h : Upd v r s w w') (q : Nat) : Upd v r s w (w'.drewN q) := ⟨h.os, h.tape, h.output, h.size, h.blk⟩
theorem RVolIs.drewN {w : World} {lo rv gb gv cb cv b z N : Nat} {rows sv : List Value} {bs : List UInt8} {vs : List Int} {last : Int} (h : RVolIs w lo rv gb gv cb cv b z N rows sv bs vs last) (q : Nat) : RVolIs (w.drewN q) lo rv gb gv cb cv b z N rows sv bs vs last := by
  have hc : ∀ i, i < b → ∃ A c, rows[i]? = some (.slice A z c) ∧ z ≤ c ∧ c ≤ 9223372036854775807 ∧ Rd (w.drewN q) A (bys (segB bs i 1 z)) ∧ ∀ a, A = some a → lo ≤ a.block ∧ a.block ≠ rv ∧ a.block ≠ gb ∧ a.block ≠ gv := fun i hi => by
    obtain ⟨A, c, k1, k2, k3, k4, k5⟩ := h.cells i hi
    exact ⟨A, c, k1, k2, k3, k4.drewN q, k5⟩
  exact { h with blk := h.blk, row := h.row, ver := h.ver, cells := hc }
set_option maxHeartbeats 3200000 in
theorem rdo_flush (w : World) (lo rv gb gv cb cv b z N : Nat) (rows sv : List Value) (bs : List UInt8) (vs : List Int) (last : Int) (P M : Nat) (D : Option Addr) (d dc : Nat) (O : Option Addr) (o oc : Nat) (num : Int) (h : RVolIs w lo rv gb gv cb cv b z N rows sv bs vs last) (hn1 : 1 ≤ num) (hn2 : num ≤ 4611686018427387904) (hn3 : last ≤ num) (hf : ftE b z 4 P M d o = 0) (hc : ftC b z 4 P M d o = 1)  :
    Calls Tryd.prog 22 #[.pointer (some ⟨rv, 0, none⟩), opv 4 P M D d dc O o oc, .int .i64 num] w (RDoIs lo rv gb gv cb cv b z N sv 0 1 [] bs vs num w) := by
  obtain ⟨g, hg⟩ : ∃ g, w.heap.size = g := ⟨_, rfl⟩
  obtain ⟨w0, hw0⟩ : ∃ w0, (w.alloc (.cells #[.int .u8 4, .int .i64 (P : Nat), .int .i64 (M : Nat), .slice D d dc, .slice O o oc] 38)).alloc (.cells #[.int .u8 0, .slice none 0 0] 49) = w0 := ⟨_, rfl⟩
  have hO : Blk w0 g [.int .u8 4, .int .i64 (P : Nat), .int .i64 (M : Nat), .slice D d dc, .slice O o oc] 38 := by rw [← hw0, ← hg]; exact (Blk.new w [.int .u8 4, .int .i64 (P : Nat), .int .i64 (M : Nat), .slice D d dc, .slice O o oc] _).alloc _
  have hZ : Blk w0 (g + 1) [.int .u8 0, .slice none 0 0] 49 := by
    rw [← hw0, ← hg]
    have := Blk.new (w.alloc (.cells #[.int .u8 4, .int .i64 (P : Nat), .int .i64 (M : Nat), .slice D d dc, .slice O o oc] 38)) [.int .u8 0, .slice none 0 0] 49
    rwa [World.size_alloc] at this
  have hb0 : Below w.heap.size w w0 := by rw [← hw0]; exact ((Below.refl _ _).alloc (Nat.le_refl _) _).alloc (by simp) _
  have hV0 := h.below hb0
  have slt := h.ver.lt
  have vlt := h.blk.lt
  have rlt := h.row.lt
  have x0 := hV0.blk.cell (j := 0) rfl
  have x1 := hV0.blk.cell (j := 1) rfl
  have x4 := hV0.blk.cell (j := 4) rfl
  have k0 := hO.cell (j := 0) rfl
  have k1 := hO.cell (j := 1) rfl
  have k2 := hO.cell (j := 2) rfl
  have k3 := hO.cell (j := 3) rfl
  have k4 := hO.cell (j := 4) rfl
  have y0 := hZ.cell (j := 0) rfl
  have y1 := hZ.cell (j := 1) rfl
  have f0 := hZ.frozen 0
  have f1 := hZ.frozen 1
  have hrows : ∀ i A c, i < b → rows[i]? = some (.slice A z c) → ∀ a, A = some a → a.block ≠ g + 1 := h.rows_lt (by omega)
  have Hf := hide hf
  have Hc := hide hc
  clear hf hc
  go_enter Tryd.func22, Tryd.ntmps22
  go_wp2_with fail
  go_region_with (first
    | (go_at_call 39; refine (rfit_any b z 4 P M D d dc O o oc _ (by decide)).mono ?_; rintro x w1 ⟨hx, hb1⟩; rw [Hf.out, Hc.out] at hx; subst hx))
  all_goals
    have hb1' : Below w0.heap.size w0 w1 := (Below.refl _ _).drew.trans hb1
    have hV1 := hV0.below hb1'
    have hO1 := hO.below hb1'
    have hZ1 := hZ.below hb1'
    have hb01 := hb0.trans (hb1'.mono hb0.size)
    have sz1 : w0.heap.size ≤ w1.heap.size := hb1'.size
    have zl := hZ.lt
    clear x0 x1 x4 k0 k1 k2 k3 k4 y0 y1 f0 f1
    have y0 := hZ1.cell (j := 0) rfl
    have y1 := hZ1.cell (j := 1) rfl
    have f0 := hZ1.frozen 0
    have f1 := hZ1.frozen 1
    have x4 := hV1.blk.cell (j := 4) rfl
    have e4 := hV1.blk.frozen 4
    have hV2 := hV1.setLast num
    have hO2 := hO1.apart (k := rv) (by omega) 4 (.int .i64 num)
    have hZ2 := hZ1.apart (k := rv) (by omega) 4 (.int .i64 num)
    have hU2 := (Upd.of_below (v := rv) (r := gb) (s := gv) hb01).set_v 4 (.int .i64 num)
    have sz2 : (w1.setCell ⟨rv, 4, none⟩ (.int .i64 num)).heap.size = w1.heap.size := by simp
    have hb3 : Below (w1.setCell ⟨rv, 4, none⟩ (.int .i64 num)).heap.size (w1.setCell ⟨rv, 4, none⟩ (.int .i64 num)) ((w1.setCell ⟨rv, 4, none⟩ (.int .i64 num)).alloc (.cells #[.int .u8 1, .slice none 0 0] 49)) := (Below.refl _ _).alloc (Nat.le_refl _) _
    have hR3 := Blk.new (w1.setCell ⟨rv, 4, none⟩ (.int .i64 num)) [.int .u8 1, .slice none 0 0] 49
    rw [sz2] at hR3
    have hV3 := hV2.below hb3
    have hO3 := hO2.below hb3
    have hZ3 := hZ2.below hb3
    have hU3 : Upd rv gb gv w _ := hU2.trans (Upd.of_below hb3)
    clear hV2 hO2 hZ2 hU2 sz2 hb3
    have r0 := hR3.cell (j := 0) rfl
    have r1 := hR3.cell (j := 1) rfl
    have y0 := hZ3.cell (j := 0) rfl
    have y1 := hZ3.cell (j := 1) rfl
    have f0 := hZ3.frozen 0
    have f1 := hZ3.frozen 1
    have q0 := hO3.cell (j := 0) rfl
    have q1 := hO3.cell (j := 1) rfl
    have q2 := hO3.cell (j := 2) rfl
    have q3 := hO3.cell (j := 3) rfl
    have q4 := hO3.cell (j := 4) rfl
    have s1 := hR3.frozen 1
    have e1 := hV3.blk.cell (j := 1) rfl
    have glt := hR3.lt
    have hrows3 : ∀ i A c, i < b → rows[i]? = some (.slice A z c) → ∀ a, A = some a → a.block ≠ w1.heap.size := hV1.rows_lt (Nat.le_refl _)
    clear q1 q2 q3 q4 e1
    go_wp2
    refine bodyPost_ret (results_cell2 rfl rfl ((hZ3.set 0 (.int .u8 1)).set 1 (.slice none 0 0)) Tryd.underlying49 rfl (by kernel_rfl)) rfl ?_
    exact ⟨none, 0, rfl, Nat.le_refl _, by omega, Rd.nil, (fun a ha => by cases ha), ⟨rows, (hV3.far (by omega) (by omega) (by omega) hrows 0 _).far (by omega) (by omega) (by omega) hrows 1 _⟩, (hU3.set_far (by omega) 0 _).set_far (by omega) 1 _⟩
set_option maxHeartbeats 3200000 in
theorem rdo_read (w : World) (lo rv gb gv cb cv b z N : Nat) (rows sv : List Value) (bs : List UInt8) (vs : List Int) (last : Int) (P M : Nat) (D : Option Addr) (d dc : Nat) (O : Option Addr) (o oc : Nat) (num : Int) (h : RVolIs w lo rv gb gv cb cv b z N rows sv bs vs last) (hn1 : 1 ≤ num) (hn2 : num ≤ 4611686018427387904) (hn3 : last ≤ num) (hf : ftE b z 1 P M d o = 0) (hc : ftC b z 1 P M d o = 1) (hin : P + M ≤ b) :
    Calls Tryd.prog 22 #[.pointer (some ⟨rv, 0, none⟩), opv 1 P M D d dc O o oc, .int .i64 num] w (RDoIs lo rv gb gv cb cv b z N sv 0 1 (segB bs P M z) bs vs num w) := by
  obtain ⟨g, hg⟩ : ∃ g, w.heap.size = g := ⟨_, rfl⟩
  obtain ⟨w0, hw0⟩ : ∃ w0, (w.alloc (.cells #[.int .u8 1, .int .i64 (P : Nat), .int .i64 (M : Nat), .slice D d dc, .slice O o oc] 38)).alloc (.cells #[.int .u8 0, .slice none 0 0] 49) = w0 := ⟨_, rfl⟩
  have hO : Blk w0 g [.int .u8 1, .int .i64 (P : Nat), .int .i64 (M : Nat), .slice D d dc, .slice O o oc] 38 := by rw [← hw0, ← hg]; exact (Blk.new w [.int .u8 1, .int .i64 (P : Nat), .int .i64 (M : Nat), .slice D d dc, .slice O o oc] _).alloc _
  have hZ : Blk w0 (g + 1) [.int .u8 0, .slice none 0 0] 49 := by
    rw [← hw0, ← hg]
    have := Blk.new (w.alloc (.cells #[.int .u8 1, .int .i64 (P : Nat), .int .i64 (M : Nat), .slice D d dc, .slice O o oc] 38)) [.int .u8 0, .slice none 0 0] 49
    rwa [World.size_alloc] at this
  have hb0 : Below w.heap.size w w0 := by rw [← hw0]; exact ((Below.refl _ _).alloc (Nat.le_refl _) _).alloc (by simp) _
  have hV0 := h.below hb0
  have slt := h.ver.lt
  have vlt := h.blk.lt
  have rlt := h.row.lt
  have x0 := hV0.blk.cell (j := 0) rfl
  have x1 := hV0.blk.cell (j := 1) rfl
  have x4 := hV0.blk.cell (j := 4) rfl
  have k0 := hO.cell (j := 0) rfl
  have k1 := hO.cell (j := 1) rfl
  have k2 := hO.cell (j := 2) rfl
  have k3 := hO.cell (j := 3) rfl
  have k4 := hO.cell (j := 4) rfl
  have y0 := hZ.cell (j := 0) rfl
  have y1 := hZ.cell (j := 1) rfl
  have f0 := hZ.frozen 0
  have f1 := hZ.frozen 1
  have hrows : ∀ i A c, i < b → rows[i]? = some (.slice A z c) → ∀ a, A = some a → a.block ≠ g + 1 := h.rows_lt (by omega)
  have Hf := hide hf
  have Hc := hide hc
  clear hf hc
  go_enter Tryd.func22, Tryd.ntmps22
  go_wp2_with fail
  go_region_with (first
    | (go_at_call 39; refine (rfit_any b z 1 P M D d dc O o oc _ (by decide)).mono ?_; rintro x w1 ⟨hx, hb1⟩; rw [Hf.out, Hc.out] at hx; subst hx))
  all_goals
    have hb1' : Below w0.heap.size w0 w1 := (Below.refl _ _).drew.trans hb1
    have hV1 := hV0.below hb1'
    have hO1 := hO.below hb1'
    have hZ1 := hZ.below hb1'
    have hb01 := hb0.trans (hb1'.mono hb0.size)
    have sz1 : w0.heap.size ≤ w1.heap.size := hb1'.size
    have zl := hZ.lt
    clear x0 x1 x4 k0 k1 k2 k3 k4 y0 y1 f0 f1
    have y0 := hZ1.cell (j := 0) rfl
    have y1 := hZ1.cell (j := 1) rfl
    have f0 := hZ1.frozen 0
    have f1 := hZ1.frozen 1
    have x4 := hV1.blk.cell (j := 4) rfl
    have e4 := hV1.blk.frozen 4
    have hV2 := hV1.setLast num
    have hO2 := hO1.apart (k := rv) (by omega) 4 (.int .i64 num)
    have hZ2 := hZ1.apart (k := rv) (by omega) 4 (.int .i64 num)
    have hU2 := (Upd.of_below (v := rv) (r := gb) (s := gv) hb01).set_v 4 (.int .i64 num)
    have sz2 : (w1.setCell ⟨rv, 4, none⟩ (.int .i64 num)).heap.size = w1.heap.size := by simp
    have hb3 : Below (w1.setCell ⟨rv, 4, none⟩ (.int .i64 num)).heap.size (w1.setCell ⟨rv, 4, none⟩ (.int .i64 num)) ((w1.setCell ⟨rv, 4, none⟩ (.int .i64 num)).alloc (.cells #[.int .u8 1, .slice none 0 0] 49)) := (Below.refl _ _).alloc (Nat.le_refl _) _
    have hR3 := Blk.new (w1.setCell ⟨rv, 4, none⟩ (.int .i64 num)) [.int .u8 1, .slice none 0 0] 49
    rw [sz2] at hR3
    have hV3 := hV2.below hb3
    have hO3 := hO2.below hb3
    have hZ3 := hZ2.below hb3
    have hU3 : Upd rv gb gv w _ := hU2.trans (Upd.of_below hb3)
    clear hV2 hO2 hZ2 hU2 sz2 hb3
    have r0 := hR3.cell (j := 0) rfl
    have r1 := hR3.cell (j := 1) rfl
    have y0 := hZ3.cell (j := 0) rfl
    have y1 := hZ3.cell (j := 1) rfl
    have f0 := hZ3.frozen 0
    have f1 := hZ3.frozen 1
    have q0 := hO3.cell (j := 0) rfl
    have q1 := hO3.cell (j := 1) rfl
    have q2 := hO3.cell (j := 2) rfl
    have q3 := hO3.cell (j := 3) rfl
    have q4 := hO3.cell (j := 4) rfl
    have s1 := hR3.frozen 1
    have e1 := hV3.blk.cell (j := 1) rfl
    have glt := hR3.lt
    have hrows3 : ∀ i A c, i < b → rows[i]? = some (.slice A z c) → ∀ a, A = some a → a.block ≠ w1.heap.size := hV1.rows_lt (Nat.le_refl _)
    have hsl : (segB bs P M z).length = M * z := segB_length h.lb h.hN hin
    have Hsl := hide hsl
    obtain ⟨L, hL⟩ : ∃ L, M * z = L := ⟨_, rfl⟩
    have HL := hide hL
    clear hsl
    go_wp2_with fail
    go_fit (rread_any _ lo rv gb gv cb cv b z N rows sv bs vs num P M hV3 hin)
    rintro x w4 ⟨o4, rfl, ho4, hb4⟩
    obtain ⟨A4, c4, rfl, hl4, hc4, hcm4, hrd4, ha4⟩ := own_out ho4
    have g34 := hb4.size
    have hR4 := hR3.below hb4
    have hZ4 := hZ3.below hb4
    have hV4 := hV3.below hb4
    have hU4 : Upd rv gb gv w w4 := hU3.trans (Upd.of_below hb4)
    clear q0 q1 q2 q3 q4 s1 e1 y0 y1 f0 f1 r0 r1
    rw [HL.out] at hc4
    rw [HL.out]
    have s1 := hR4.frozen 1
    have q1' := hR4.cell (j := 1) rfl
    have hR5 := hR4.set 1 (.slice A4 L c4)
    have hZ5 := hZ4.apart (k := w1.heap.size) (by omega) 1 (.slice A4 L c4)
    have hV5 := hV4.far (g := w1.heap.size) (by omega) (by omega) (by omega) hrows3 1 (.slice A4 L c4)
    have hU5 := hU4.set_far (g := w1.heap.size) (by omega) 1 (.slice A4 L c4)
    have y0 := hZ5.cell (j := 0) rfl
    have y1 := hZ5.cell (j := 1) rfl
    have f0 := hZ5.frozen 0
    have f1 := hZ5.frozen 1
    have r0 := hR5.cell (j := 0) rfl
    have r1 := hR5.cell (j := 1) rfl
    go_wp2
    refine bodyPost_ret (results_cell2 rfl rfl ((hZ5.set 0 (.int .u8 1)).set 1 (.slice A4 L c4)) Tryd.underlying49 rfl (by kernel_rfl)) rfl ?_
    refine ⟨A4, c4, by rw [Hsl.out, HL.out]; rfl, by rw [Hsl.out, HL.out]; exact hc4, by unfold maxLen at hcm4; omega, ?_, (fun a ha => by have := ha4 a ha; omega), ⟨rows, (hV5.far (by omega) (by omega) (by omega) hrows 0 _).far (by omega) (by omega) (by omega) hrows 1 _⟩, (hU5.set_far (by omega) 0 _).set_far (by omega) 1 _⟩
    exact ((hrd4.upset (fun a ha => (ha4 a ha).1) (by omega)).upset (fun a ha => (ha4 a ha).1) (by omega)).upset (fun a ha => (ha4 a ha).1) (by omega)
set_option maxHeartbeats 3200000 in
theorem rdo_write (w : World) (lo rv gb gv cb cv b z N : Nat) (rows sv : List Value) (bs : List UInt8) (vs : List Int) (last : Int) (P M : Nat) (D : Option Addr) (d dc : Nat) (O : Option Addr) (o oc : Nat) (num : Int) (h : RVolIs w lo rv gb gv cb cv b z N rows sv bs vs last) (hn1 : 1 ≤ num) (hn2 : num ≤ 4611686018427387904) (hn3 : last ≤ num) (hf : ftE b z 2 P M d o = 0) (hc : ftC b z 2 P M d o = 1) (ds : List UInt8) (hin : P + M ≤ b) (hd : ds.length = d) (hdn : d = M * z) (hdc : d ≤ dc) (hdm : dc ≤ 9223372036854775807) (hD : Rd w D (bys ds)) (hDq : ∀ a, D = some a → a.block ≠ rv ∧ a.block ≠ gb ∧ a.block ≠ gv) :
    Calls Tryd.prog 22 #[.pointer (some ⟨rv, 0, none⟩), opv 2 P M D d dc O o oc, .int .i64 num] w (RDoIs lo rv gb gv cb cv b z N sv 0 1 [] (splB bs (P * z) ds) (stampL vs P num M) num w) := by
  obtain ⟨g, hg⟩ : ∃ g, w.heap.size = g := ⟨_, rfl⟩
  obtain ⟨w0, hw0⟩ : ∃ w0, (w.alloc (.cells #[.int .u8 2, .int .i64 (P : Nat), .int .i64 (M : Nat), .slice D d dc, .slice O o oc] 38)).alloc (.cells #[.int .u8 0, .slice none 0 0] 49) = w0 := ⟨_, rfl⟩
  have hO : Blk w0 g [.int .u8 2, .int .i64 (P : Nat), .int .i64 (M : Nat), .slice D d dc, .slice O o oc] 38 := by rw [← hw0, ← hg]; exact (Blk.new w [.int .u8 2, .int .i64 (P : Nat), .int .i64 (M : Nat), .slice D d dc, .slice O o oc] _).alloc _
  have hZ : Blk w0 (g + 1) [.int .u8 0, .slice none 0 0] 49 := by
    rw [← hw0, ← hg]
    have := Blk.new (w.alloc (.cells #[.int .u8 2, .int .i64 (P : Nat), .int .i64 (M : Nat), .slice D d dc, .slice O o oc] 38)) [.int .u8 0, .slice none 0 0] 49
    rwa [World.size_alloc] at this
  have hb0 : Below w.heap.size w w0 := by rw [← hw0]; exact ((Below.refl _ _).alloc (Nat.le_refl _) _).alloc (by simp) _
  have hV0 := h.below hb0
  have slt := h.ver.lt
  have vlt := h.blk.lt
  have rlt := h.row.lt
  have x0 := hV0.blk.cell (j := 0) rfl
  have x1 := hV0.blk.cell (j := 1) rfl
  have x4 := hV0.blk.cell (j := 4) rfl
  have k0 := hO.cell (j := 0) rfl
  have k1 := hO.cell (j := 1) rfl
  have k2 := hO.cell (j := 2) rfl
  have k3 := hO.cell (j := 3) rfl
  have k4 := hO.cell (j := 4) rfl
  have y0 := hZ.cell (j := 0) rfl
  have y1 := hZ.cell (j := 1) rfl
  have f0 := hZ.frozen 0
  have f1 := hZ.frozen 1
  have hrows : ∀ i A c, i < b → rows[i]? = some (.slice A z c) → ∀ a, A = some a → a.block ≠ g + 1 := h.rows_lt (by omega)
  have Hd := hide hd
  have Hdn := hide hdn
  clear hd hdn
  have Hf := hide hf
  have Hc := hide hc
  clear hf hc
  go_enter Tryd.func22, Tryd.ntmps22
  go_wp2_with fail
  go_region_with (first
    | (go_at_call 39; refine (rfit_any b z 2 P M D d dc O o oc _ (by decide)).mono ?_; rintro x w1 ⟨hx, hb1⟩; rw [Hf.out, Hc.out] at hx; subst hx))
  all_goals
    have hb1' : Below w0.heap.size w0 w1 := (Below.refl _ _).drew.trans hb1
    have hV1 := hV0.below hb1'
    have hO1 := hO.below hb1'
    have hZ1 := hZ.below hb1'
    have hb01 := hb0.trans (hb1'.mono hb0.size)
    have sz1 : w0.heap.size ≤ w1.heap.size := hb1'.size
    have zl := hZ.lt
    clear x0 x1 x4 k0 k1 k2 k3 k4 y0 y1 f0 f1
    have y0 := hZ1.cell (j := 0) rfl
    have y1 := hZ1.cell (j := 1) rfl
    have f0 := hZ1.frozen 0
    have f1 := hZ1.frozen 1
    have x4 := hV1.blk.cell (j := 4) rfl
    have e4 := hV1.blk.frozen 4
    have hV2 := hV1.setLast num
    have hO2 := hO1.apart (k := rv) (by omega) 4 (.int .i64 num)
    have hZ2 := hZ1.apart (k := rv) (by omega) 4 (.int .i64 num)
    have hU2 := (Upd.of_below (v := rv) (r := gb) (s := gv) hb01).set_v 4 (.int .i64 num)
    have sz2 : (w1.setCell ⟨rv, 4, none⟩ (.int .i64 num)).heap.size = w1.heap.size := by simp
    have hb3 : Below (w1.setCell ⟨rv, 4, none⟩ (.int .i64 num)).heap.size (w1.setCell ⟨rv, 4, none⟩ (.int .i64 num)) ((w1.setCell ⟨rv, 4, none⟩ (.int .i64 num)).alloc (.cells #[.int .u8 1, .slice none 0 0] 49)) := (Below.refl _ _).alloc (Nat.le_refl _) _
    have hR3 := Blk.new (w1.setCell ⟨rv, 4, none⟩ (.int .i64 num)) [.int .u8 1, .slice none 0 0] 49
    rw [sz2] at hR3
    have hV3 := hV2.below hb3
    have hO3 := hO2.below hb3
    have hZ3 := hZ2.below hb3
    have hU3 : Upd rv gb gv w _ := hU2.trans (Upd.of_below hb3)
    clear hV2 hO2 hZ2 hU2 sz2 hb3
    have r0 := hR3.cell (j := 0) rfl
    have r1 := hR3.cell (j := 1) rfl
    have y0 := hZ3.cell (j := 0) rfl
    have y1 := hZ3.cell (j := 1) rfl
    have f0 := hZ3.frozen 0
    have f1 := hZ3.frozen 1
    have q0 := hO3.cell (j := 0) rfl
    have q1 := hO3.cell (j := 1) rfl
    have q2 := hO3.cell (j := 2) rfl
    have q3 := hO3.cell (j := 3) rfl
    have q4 := hO3.cell (j := 4) rfl
    have s1 := hR3.frozen 1
    have e1 := hV3.blk.cell (j := 1) rfl
    have glt := hR3.lt
    have hrows3 : ∀ i A c, i < b → rows[i]? = some (.slice A z c) → ∀ a, A = some a → a.block ≠ w1.heap.size := hV1.rows_lt (Nat.le_refl _)
    have hD3 := Rd.upd hD hU3 hDq
    go_wp2_with fail
    go_fit (rwrite_any _ lo rv gb gv cb cv b z N rows sv bs vs num P M D d dc ds num hV3 hin Hd.out Hdn.out hdc hdm hD3 hDq)
    rintro x w4 ⟨rfl, ⟨rows', hV4, hRN⟩, hU4⟩
    have g34 := hU4.size
    have hR4 := (hU4.blk _ glt (by omega) (by omega) (by omega)).trans hR3
    have hZ4 := (hU4.blk (g + 1) (by omega) (by omega) (by omega) (by omega)).trans hZ3
    have hrows4 : ∀ i A c, i < b → rows'[i]? = some (.slice A z c) → ∀ a, A = some a → a.block ≠ g + 1 := fun i A c hi h a ha => by
      rcases hRN i A c hi h with h | h
      · exact hrows i A c hi h a ha
      · have := h a ha
        omega
    clear q0 q1 q2 q3 q4 s1 e1 y0 y1 f0 f1 r0 r1 x4 e4
    have y0 := Blk.cell hZ4 (j := 0) rfl
    have y1 := Blk.cell hZ4 (j := 1) rfl
    have f0 := Blk.frozen hZ4 0
    have f1 := Blk.frozen hZ4 1
    have r0 := Blk.cell hR4 (j := 0) rfl
    have r1 := Blk.cell hR4 (j := 1) rfl
    go_wp2
    refine bodyPost_ret (results_cell2 rfl rfl ((Blk.set hZ4 0 (.int .u8 1)).set 1 (.slice none 0 0)) Tryd.underlying49 rfl (by kernel_rfl)) rfl ?_
    exact ⟨none, 0, rfl, Nat.le_refl _, by omega, Rd.nil, (fun a ha => by cases ha), ⟨rows', (hV4.far (by omega) (by omega) (by omega) hrows4 0 _).far (by omega) (by omega) (by omega) hrows4 1 _⟩, ((hU3.trans hU4).set_far (by omega) 0 _).set_far (by omega) 1 _⟩
set_option maxHeartbeats 3200000 in
theorem rdo_swapyes (w : World) (lo rv gb gv cb cv b z N : Nat) (rows sv : List Value) (bs : List UInt8) (vs : List Int) (last : Int) (P M : Nat) (D : Option Addr) (d dc : Nat) (O : Option Addr) (o oc : Nat) (num : Int) (h : RVolIs w lo rv gb gv cb cv b z N rows sv bs vs last) (hn1 : 1 ≤ num) (hn2 : num ≤ 4611686018427387904) (hn3 : last ≤ num) (hf : ftE b z 5 P M d o = 0) (hc : ftC b z 5 P M d o = 1) (os ds : List UInt8) (hd : ds.length = d) (hdn : d = z) (hdc : d ≤ dc) (hdm : dc ≤ 9223372036854775807) (hD : Rd w D (bys ds)) (hDq : ∀ a, D = some a → a.block ≠ rv ∧ a.block ≠ gb ∧ a.block ≠ gv) (hPb : P + 1 ≤ b) (ho : os.length = o) (hOr : Rd w O (bys os)) (hOq : ∀ a, O = some a → a.block ≠ rv ∧ a.block ≠ gb ∧ a.block ≠ gv) (heq : segB bs P 1 z = os) :
    Calls Tryd.prog 22 #[.pointer (some ⟨rv, 0, none⟩), opv 5 P M D d dc O o oc, .int .i64 num] w (RDoIs lo rv gb gv cb cv b z N sv 0 1 [] (splB bs (P * z) ds) (stampL vs P num 1) num w) := by
  obtain ⟨g, hg⟩ : ∃ g, w.heap.size = g := ⟨_, rfl⟩
  obtain ⟨w0, hw0⟩ : ∃ w0, (w.alloc (.cells #[.int .u8 5, .int .i64 (P : Nat), .int .i64 (M : Nat), .slice D d dc, .slice O o oc] 38)).alloc (.cells #[.int .u8 0, .slice none 0 0] 49) = w0 := ⟨_, rfl⟩
  have hO : Blk w0 g [.int .u8 5, .int .i64 (P : Nat), .int .i64 (M : Nat), .slice D d dc, .slice O o oc] 38 := by rw [← hw0, ← hg]; exact (Blk.new w [.int .u8 5, .int .i64 (P : Nat), .int .i64 (M : Nat), .slice D d dc, .slice O o oc] _).alloc _
  have hZ : Blk w0 (g + 1) [.int .u8 0, .slice none 0 0] 49 := by
    rw [← hw0, ← hg]
    have := Blk.new (w.alloc (.cells #[.int .u8 5, .int .i64 (P : Nat), .int .i64 (M : Nat), .slice D d dc, .slice O o oc] 38)) [.int .u8 0, .slice none 0 0] 49
    rwa [World.size_alloc] at this
  have hb0 : Below w.heap.size w w0 := by rw [← hw0]; exact ((Below.refl _ _).alloc (Nat.le_refl _) _).alloc (by simp) _
  have hV0 := h.below hb0
  have slt := h.ver.lt
  have vlt := h.blk.lt
  have rlt := h.row.lt
  have x0 := hV0.blk.cell (j := 0) rfl
  have x1 := hV0.blk.cell (j := 1) rfl
  have x4 := hV0.blk.cell (j := 4) rfl
  have k0 := hO.cell (j := 0) rfl
  have k1 := hO.cell (j := 1) rfl
  have k2 := hO.cell (j := 2) rfl
  have k3 := hO.cell (j := 3) rfl
  have k4 := hO.cell (j := 4) rfl
  have y0 := hZ.cell (j := 0) rfl
  have y1 := hZ.cell (j := 1) rfl
  have f0 := hZ.frozen 0
  have f1 := hZ.frozen 1
  have hrows : ∀ i A c, i < b → rows[i]? = some (.slice A z c) → ∀ a, A = some a → a.block ≠ g + 1 := h.rows_lt (by omega)
  have Hd := hide hd
  have Hdn := hide hdn
  have Heq := hide heq
  have Ho := hide ho
  have Hsl := hide (show (segB bs P 1 z).length = z by rw [segB_length h.lb h.hN hPb, Nat.one_mul])
  clear ho
  clear hd hdn heq
  have Hf := hide hf
  have Hc := hide hc
  clear hf hc
  go_enter Tryd.func22, Tryd.ntmps22
  go_wp2_with fail
  go_region_with (first
    | (go_at_call 39; refine (rfit_any b z 5 P M D d dc O o oc _ (by decide)).mono ?_; rintro x w1 ⟨hx, hb1⟩; rw [Hf.out, Hc.out] at hx; subst hx))
  all_goals
    have hb1' : Below w0.heap.size w0 w1 := (Below.refl _ _).drew.trans hb1
    have hV1 := hV0.below hb1'
    have hO1 := hO.below hb1'
    have hZ1 := hZ.below hb1'
    have hb01 := hb0.trans (hb1'.mono hb0.size)
    have sz1 : w0.heap.size ≤ w1.heap.size := hb1'.size
    have zl := hZ.lt
    clear x0 x1 x4 k0 k1 k2 k3 k4 y0 y1 f0 f1
    have y0 := hZ1.cell (j := 0) rfl
    have y1 := hZ1.cell (j := 1) rfl
    have f0 := hZ1.frozen 0
    have f1 := hZ1.frozen 1
    have x4 := hV1.blk.cell (j := 4) rfl
    have e4 := hV1.blk.frozen 4
    have hV2 := hV1.setLast num
    have hO2 := hO1.apart (k := rv) (by omega) 4 (.int .i64 num)
    have hZ2 := hZ1.apart (k := rv) (by omega) 4 (.int .i64 num)
    have hU2 := (Upd.of_below (v := rv) (r := gb) (s := gv) hb01).set_v 4 (.int .i64 num)
    have sz2 : (w1.setCell ⟨rv, 4, none⟩ (.int .i64 num)).heap.size = w1.heap.size := by simp
    have hb3 : Below (w1.setCell ⟨rv, 4, none⟩ (.int .i64 num)).heap.size (w1.setCell ⟨rv, 4, none⟩ (.int .i64 num)) ((w1.setCell ⟨rv, 4, none⟩ (.int .i64 num)).alloc (.cells #[.int .u8 1, .slice none 0 0] 49)) := (Below.refl _ _).alloc (Nat.le_refl _) _
    have hR3 := Blk.new (w1.setCell ⟨rv, 4, none⟩ (.int .i64 num)) [.int .u8 1, .slice none 0 0] 49
    rw [sz2] at hR3
    have hV3 := hV2.below hb3
    have hO3 := hO2.below hb3
    have hZ3 := hZ2.below hb3
    have hU3 : Upd rv gb gv w _ := hU2.trans (Upd.of_below hb3)
    clear hV2 hO2 hZ2 hU2 sz2 hb3
    have r0 := hR3.cell (j := 0) rfl
    have r1 := hR3.cell (j := 1) rfl
    have y0 := hZ3.cell (j := 0) rfl
    have y1 := hZ3.cell (j := 1) rfl
    have f0 := hZ3.frozen 0
    have f1 := hZ3.frozen 1
    have q0 := hO3.cell (j := 0) rfl
    have q1 := hO3.cell (j := 1) rfl
    have q2 := hO3.cell (j := 2) rfl
    have q3 := hO3.cell (j := 3) rfl
    have q4 := hO3.cell (j := 4) rfl
    have s1 := hR3.frozen 1
    have e1 := hV3.blk.cell (j := 1) rfl
    have glt := hR3.lt
    have hrows3 : ∀ i A c, i < b → rows[i]? = some (.slice A z c) → ∀ a, A = some a → a.block ≠ w1.heap.size := hV1.rows_lt (Nat.le_refl _)
    have hOr3 := Rd.upd hOr hU3 hOq
    obtain ⟨A0, c0, j1, j2, j3, j4, j5⟩ := hV3.cells P (by omega)
    have gP := hV3.row.cell j1
    have e2 := hV3.blk.cell (j := 2) rfl
    have cv1 : ∀ t, (convert 36 9 (.slice A0 z c0)).run Tryd.prog (((w1.setCell ⟨rv, 4, none⟩ (.int .i64 num)).alloc (.cells #[.int .u8 1, .slice none 0 0] 49)).drewN t) = .ok (.string (strOf (segB bs P 1 z))) (((w1.setCell ⟨rv, 4, none⟩ (.int .i64 num)).alloc (.cells #[.int .u8 1, .slice none 0 0] 49)).drewN t) := fun t => convB c0 Hsl.out (j4.drewN t)
    have cv2 : ∀ t, (convert 36 9 (.slice O o oc)).run Tryd.prog (((w1.setCell ⟨rv, 4, none⟩ (.int .i64 num)).alloc (.cells #[.int .u8 1, .slice none 0 0] 49)).drewN t) = .ok (.string (strOf (segB bs P 1 z))) (((w1.setCell ⟨rv, 4, none⟩ (.int .i64 num)).alloc (.cells #[.int .u8 1, .slice none 0 0] 49)).drewN t) := fun t => by rw [Heq.out]; exact convB oc Ho.out (hOr3.drewN t)
    have hPb' : P < b := by omega
    have hD3 := Rd.upd hD hU3 hDq
    go_wp2
    go_quiet (fail)
    go_wp2_with fail
    go_fit (rwrite_any _ lo rv gb gv cb cv b z N rows sv bs vs num P 1 D d dc ds num (hV3.drewN nq) hPb Hd.out (by rw [Hdn.out, Nat.one_mul]) hdc hdm (hD3.drewN nq) hDq)
    rintro x w4 ⟨rfl, ⟨rows', hV4, hRN⟩, hU4⟩
    clear cv1 cv2 gP e2
    have hU3 := hU3.drewN nq
    have g34 := hU4.size
    have dsz : (((w1.setCell ⟨rv, 4, none⟩ (.int .i64 num)).alloc (.cells #[.int .u8 1, .slice none 0 0] 49)).drewN nq).heap.size = ((w1.setCell ⟨rv, 4, none⟩ (.int .i64 num)).alloc (.cells #[.int .u8 1, .slice none 0 0] 49)).heap.size := rfl
    rw [dsz] at g34 hRN
    have hR4 := (hU4.blk _ glt (by omega) (by omega) (by omega)).trans hR3
    have hZ4 := (hU4.blk (g + 1) (by omega) (by omega) (by omega) (by omega)).trans hZ3
    have hrows4 : ∀ i A c, i < b → rows'[i]? = some (.slice A z c) → ∀ a, A = some a → a.block ≠ g + 1 := fun i A c hi h a ha => by
      rcases hRN i A c hi h with h | h
      · exact hrows i A c hi h a ha
      · have := h a ha
        omega
    clear q0 q1 q2 q3 q4 s1 e1 y0 y1 f0 f1 r0 r1 x4 e4
    have y0 := Blk.cell hZ4 (j := 0) rfl
    have y1 := Blk.cell hZ4 (j := 1) rfl
    have f0 := Blk.frozen hZ4 0
    have f1 := Blk.frozen hZ4 1
    have r0 := Blk.cell hR4 (j := 0) rfl
    have r1 := Blk.cell hR4 (j := 1) rfl
    go_wp2
    refine bodyPost_ret (results_cell2 rfl rfl ((Blk.set hZ4 0 (.int .u8 1)).set 1 (.slice none 0 0)) Tryd.underlying49 rfl (by kernel_rfl)) rfl ?_
    exact ⟨none, 0, rfl, Nat.le_refl _, by omega, Rd.nil, (fun a ha => by cases ha), ⟨rows', (hV4.far (by omega) (by omega) (by omega) hrows4 0 _).far (by omega) (by omega) (by omega) hrows4 1 _⟩, ((hU3.trans hU4).set_far (by omega) 0 _).set_far (by omega) 1 _⟩
set_option maxHeartbeats 3200000 in
theorem rdo_swapno (w : World) (lo rv gb gv cb cv b z N : Nat) (rows sv : List Value) (bs : List UInt8) (vs : List Int) (last : Int) (P M : Nat) (D : Option Addr) (d dc : Nat) (O : Option Addr) (o oc : Nat) (num : Int) (h : RVolIs w lo rv gb gv cb cv b z N rows sv bs vs last) (hn1 : 1 ≤ num) (hn2 : num ≤ 4611686018427387904) (hn3 : last ≤ num) (hf : ftE b z 5 P M d o = 0) (hc : ftC b z 5 P M d o = 1) (os : List UInt8) (hPb : P + 1 ≤ b) (ho : os.length = o) (hOr : Rd w O (bys os)) (hOq : ∀ a, O = some a → a.block ≠ rv ∧ a.block ≠ gb ∧ a.block ≠ gv) (hne : segB bs P 1 z ≠ os) :
    Calls Tryd.prog 22 #[.pointer (some ⟨rv, 0, none⟩), opv 5 P M D d dc O o oc, .int .i64 num] w (RDoIs lo rv gb gv cb cv b z N sv 0 4 (segB bs P 1 z) bs vs num w) := by
  obtain ⟨g, hg⟩ : ∃ g, w.heap.size = g := ⟨_, rfl⟩
  obtain ⟨w0, hw0⟩ : ∃ w0, (w.alloc (.cells #[.int .u8 5, .int .i64 (P : Nat), .int .i64 (M : Nat), .slice D d dc, .slice O o oc] 38)).alloc (.cells #[.int .u8 0, .slice none 0 0] 49) = w0 := ⟨_, rfl⟩
  have hO : Blk w0 g [.int .u8 5, .int .i64 (P : Nat), .int .i64 (M : Nat), .slice D d dc, .slice O o oc] 38 := by rw [← hw0, ← hg]; exact (Blk.new w [.int .u8 5, .int .i64 (P : Nat), .int .i64 (M : Nat), .slice D d dc, .slice O o oc] _).alloc _
  have hZ : Blk w0 (g + 1) [.int .u8 0, .slice none 0 0] 49 := by
    rw [← hw0, ← hg]
    have := Blk.new (w.alloc (.cells #[.int .u8 5, .int .i64 (P : Nat), .int .i64 (M : Nat), .slice D d dc, .slice O o oc] 38)) [.int .u8 0, .slice none 0 0] 49
    rwa [World.size_alloc] at this
  have hb0 : Below w.heap.size w w0 := by rw [← hw0]; exact ((Below.refl _ _).alloc (Nat.le_refl _) _).alloc (by simp) _
  have hV0 := h.below hb0
  have slt := h.ver.lt
  have vlt := h.blk.lt
  have rlt := h.row.lt
  have x0 := hV0.blk.cell (j := 0) rfl
  have x1 := hV0.blk.cell (j := 1) rfl
  have x4 := hV0.blk.cell (j := 4) rfl
  have k0 := hO.cell (j := 0) rfl
  have k1 := hO.cell (j := 1) rfl
  have k2 := hO.cell (j := 2) rfl
  have k3 := hO.cell (j := 3) rfl
  have k4 := hO.cell (j := 4) rfl
  have y0 := hZ.cell (j := 0) rfl
  have y1 := hZ.cell (j := 1) rfl
  have f0 := hZ.frozen 0
  have f1 := hZ.frozen 1
  have hrows : ∀ i A c, i < b → rows[i]? = some (.slice A z c) → ∀ a, A = some a → a.block ≠ g + 1 := h.rows_lt (by omega)
  have Hne := hide hne
  have Ho := hide ho
  have Hsl := hide (show (segB bs P 1 z).length = z by rw [segB_length h.lb h.hN hPb, Nat.one_mul])
  clear ho
  clear hne
  have Hf := hide hf
  have Hc := hide hc
  clear hf hc
  go_enter Tryd.func22, Tryd.ntmps22
  go_wp2_with fail
  go_region_with (first
    | (go_at_call 39; refine (rfit_any b z 5 P M D d dc O o oc _ (by decide)).mono ?_; rintro x w1 ⟨hx, hb1⟩; rw [Hf.out, Hc.out] at hx; subst hx))
  all_goals
    have hb1' : Below w0.heap.size w0 w1 := (Below.refl _ _).drew.trans hb1
    have hV1 := hV0.below hb1'
    have hO1 := hO.below hb1'
    have hZ1 := hZ.below hb1'
    have hb01 := hb0.trans (hb1'.mono hb0.size)
    have sz1 : w0.heap.size ≤ w1.heap.size := hb1'.size
    have zl := hZ.lt
    clear x0 x1 x4 k0 k1 k2 k3 k4 y0 y1 f0 f1
    have y0 := hZ1.cell (j := 0) rfl
    have y1 := hZ1.cell (j := 1) rfl
    have f0 := hZ1.frozen 0
    have f1 := hZ1.frozen 1
    have x4 := hV1.blk.cell (j := 4) rfl
    have e4 := hV1.blk.frozen 4
    have hV2 := hV1.setLast num
    have hO2 := hO1.apart (k := rv) (by omega) 4 (.int .i64 num)
    have hZ2 := hZ1.apart (k := rv) (by omega) 4 (.int .i64 num)
    have hU2 := (Upd.of_below (v := rv) (r := gb) (s := gv) hb01).set_v 4 (.int .i64 num)
    have sz2 : (w1.setCell ⟨rv, 4, none⟩ (.int .i64 num)).heap.size = w1.heap.size := by simp
    have hb3 : Below (w1.setCell ⟨rv, 4, none⟩ (.int .i64 num)).heap.size (w1.setCell ⟨rv, 4, none⟩ (.int .i64 num)) ((w1.setCell ⟨rv, 4, none⟩ (.int .i64 num)).alloc (.cells #[.int .u8 1, .slice none 0 0] 49)) := (Below.refl _ _).alloc (Nat.le_refl _) _
    have hR3 := Blk.new (w1.setCell ⟨rv, 4, none⟩ (.int .i64 num)) [.int .u8 1, .slice none 0 0] 49
    rw [sz2] at hR3
    have hV3 := hV2.below hb3
    have hO3 := hO2.below hb3
    have hZ3 := hZ2.below hb3
    have hU3 : Upd rv gb gv w _ := hU2.trans (Upd.of_below hb3)
    clear hV2 hO2 hZ2 hU2 sz2 hb3
    have r0 := hR3.cell (j := 0) rfl
    have r1 := hR3.cell (j := 1) rfl
    have y0 := hZ3.cell (j := 0) rfl
    have y1 := hZ3.cell (j := 1) rfl
    have f0 := hZ3.frozen 0
    have f1 := hZ3.frozen 1
    have q0 := hO3.cell (j := 0) rfl
    have q1 := hO3.cell (j := 1) rfl
    have q2 := hO3.cell (j := 2) rfl
    have q3 := hO3.cell (j := 3) rfl
    have q4 := hO3.cell (j := 4) rfl
    have s1 := hR3.frozen 1
    have e1 := hV3.blk.cell (j := 1) rfl
    have glt := hR3.lt
    have hrows3 : ∀ i A c, i < b → rows[i]? = some (.slice A z c) → ∀ a, A = some a → a.block ≠ w1.heap.size := hV1.rows_lt (Nat.le_refl _)
    have hOr3 := Rd.upd hOr hU3 hOq
    obtain ⟨A0, c0, j1, j2, j3, j4, j5⟩ := hV3.cells P (by omega)
    have gP := hV3.row.cell j1
    have e2 := hV3.blk.cell (j := 2) rfl
    have cv1 : ∀ t, (convert 36 9 (.slice A0 z c0)).run Tryd.prog (((w1.setCell ⟨rv, 4, none⟩ (.int .i64 num)).alloc (.cells #[.int .u8 1, .slice none 0 0] 49)).drewN t) = .ok (.string (strOf (segB bs P 1 z))) (((w1.setCell ⟨rv, 4, none⟩ (.int .i64 num)).alloc (.cells #[.int .u8 1, .slice none 0 0] 49)).drewN t) := fun t => convB c0 Hsl.out (j4.drewN t)
    have cv2 : ∀ t, (convert 36 9 (.slice O o oc)).run Tryd.prog (((w1.setCell ⟨rv, 4, none⟩ (.int .i64 num)).alloc (.cells #[.int .u8 1, .slice none 0 0] 49)).drewN t) = .ok (.string (strOf os)) (((w1.setCell ⟨rv, 4, none⟩ (.int .i64 num)).alloc (.cells #[.int .u8 1, .slice none 0 0] 49)).drewN t) := fun t => convB oc Ho.out (hOr3.drewN t)
    have hPb' : P < b := by omega
    have hso : (segB bs P 1 z == os) = false := by simpa using Hne.out
    go_wp2
    go_quiet (fail)
    go_wp2_with fail
    go_fit (rread_any _ lo rv gb gv cb cv b z N rows sv bs vs num P 1 (hV3.drewN nq) hPb)
    rintro x w4 ⟨o4, rfl, ho4, hb4⟩
    obtain ⟨A4, c4, rfl, hl4, hc4, hcm4, hrd4, ha4⟩ := own_out ho4
    rw [Nat.one_mul] at hc4
    rw [Nat.one_mul]
    have dsz : (((w1.setCell ⟨rv, 4, none⟩ (.int .i64 num)).alloc (.cells #[.int .u8 1, .slice none 0 0] 49)).drewN nq).heap.size = ((w1.setCell ⟨rv, 4, none⟩ (.int .i64 num)).alloc (.cells #[.int .u8 1, .slice none 0 0] 49)).heap.size := rfl
    have g34 := hb4.size
    rw [dsz] at g34 ha4
    have hZ4 := (hb4.block (g + 1) (by rw [dsz]; omega)).trans hZ3
    have hV4 := (hV3.drewN nq).below hb4
    have hU4 : Upd rv gb gv w w4 := (hU3.drewN nq).trans (Upd.of_below hb4)
    clear cv1 cv2 gP e2 q0 q1 q2 q3 q4 s1 e1 y0 y1 f0 f1 r0 r1 x4 e4
    have y0 := Blk.cell hZ4 (j := 0) rfl
    have y1 := Blk.cell hZ4 (j := 1) rfl
    have f0 := Blk.frozen hZ4 0
    have f1 := Blk.frozen hZ4 1
    go_wp2
    refine bodyPost_ret (results_cell2 rfl rfl ((Blk.set hZ4 0 (.int .u8 4)).set 1 (.slice A4 z c4)) Tryd.underlying49 rfl (by kernel_rfl)) rfl ?_
    refine ⟨A4, c4, by rw [Hsl.out]; rfl, by rw [Hsl.out]; exact hc4, by unfold maxLen at hcm4; omega, ?_, (fun a ha => by have := ha4 a ha; omega), ⟨rows, (hV4.far (by omega) (by omega) (by omega) hrows 0 _).far (by omega) (by omega) (by omega) hrows 1 _⟩, (hU4.set_far (by omega) 0 _).set_far (by omega) 1 _⟩
    exact (hrd4.upset (fun a ha => (ha4 a ha).1) (by omega)).upset (fun a ha => (ha4 a ha).1) (by omega)
end Go.Proofs.YtjilkaciopiabaaDoor
