/- plinthref05: Do, case by case (written by gen5w.py). -/
import Derived.Test.YtjilkaciopiabaaDoorF05v
import Derived.Test.YtjilkaciopiabaaDoorF05e
namespace Go.Proofs.YtjilkaciopiabaaDoor
open Go.RowKit Go.Px
set_option linter.unusedVariables false
def RDoIs (lo rv gb gv cb cv b z N : Nat) (sv : List Value) (E : Int) (C : Nat) (data : List UInt8) (bs' : List UInt8) (vs' : List Int) (last : Int) (w : World) (e : Ending) (w' : World) : Prop :=
  ∃ A c, e = .returned (.tuple #[resv C A data.length c, .int .i64 E]) ∧ data.length ≤ c ∧ c ≤ 9223372036854775807 ∧ Rd w' A (bys data) ∧ (∀ a, A = some a → w.heap.size ≤ a.block) ∧ (∃ rows', RVolIs w' lo rv gb gv cb cv b z N rows' sv bs' vs' last) ∧ Upd rv gb gv w w'
section
variable {w w' : World} {lo rv gb gv cb cv b z N : Nat} {rows sv : List Value} {bs : List UInt8} {vs : List Int} {last : Int}
theorem RVolIs.far (h : RVolIs w lo rv gb gv cb cv b z N rows sv bs vs last) {g : Nat} (h1 : g ≠ rv) (h2 : g ≠ gb) (h3 : g ≠ gv) (h4 : ∀ i A c, i < b → rows[i]? = some (.slice A z c) → ∀ a, A = some a → a.block ≠ g) (j : Nat) (u : Value) :
    RVolIs (w.setCell ⟨g, j, none⟩ u) lo rv gb gv cb cv b z N rows sv bs vs last := by
  have hU : Upd g g g w (w.setCell ⟨g, j, none⟩ u) := Upd.setV w j u
  exact { h with
    blk := h.blk.apart (Ne.symm h1) j u
    row := h.row.apart (Ne.symm h2) j u
    ver := h.ver.apart (Ne.symm h3) j u
    cells := fun i hi => by
      obtain ⟨A', c', k1, k2, k3, k4, k5⟩ := h.cells i hi
      exact ⟨A', c', k1, k2, k3, Rd.upd k4 hU (fun a ha => ⟨h4 i A' c' hi k1 a ha, h4 i A' c' hi k1 a ha, h4 i A' c' hi k1 a ha⟩), k5⟩ }
theorem RVolIs.rows_lt (h : RVolIs w lo rv gb gv cb cv b z N rows sv bs vs last) {g : Nat} (hg : w.heap.size ≤ g) : ∀ i A c, i < b → rows[i]? = some (.slice A z c) → ∀ a, A = some a → a.block ≠ g := by
  intro i A c hi hr a ha
  obtain ⟨A', c', k1, k2, k3, k4, k5⟩ := h.cells i hi
  rw [hr] at k1
  injection k1 with k1
  injection k1 with e1 e2 e3
  subst e1 ha
  have hl : 0 < (bys (segB bs i 1 z)).length := by
    rw [bys_length, segB_length h.lb h.hN (by omega)]
    have := h.hz.1
    omega
  obtain ⟨x, hx, hat⟩ := k4.some_of hl
  injection hx with hx
  subst hx
  have := World.block_lt_of_cell? w _ (hat 0 _ (List.getElem?_eq_getElem hl))
  rw [add_block] at this
  omega
end
set_option maxHeartbeats 3200000 in
theorem rdo_badnum (w : World) (lo rv gb gv cb cv b z N : Nat) (rows sv : List Value) (bs : List UInt8) (vs : List Int) (last : Int) (k : Nat) (p n : Int) (D : Option Addr) (d dc : Nat) (O : Option Addr) (o oc : Nat) (num : Int) (h : RVolIs w lo rv gb gv cb cv b z N rows sv bs vs last) (hbad : num < 1 ∨ (1 ≤ num ∧ 4611686018427387904 < num) ∨ (1 ≤ num ∧ num ≤ 4611686018427387904 ∧ num < last)) :
    Calls Tryd.prog 22 #[.pointer (some ⟨rv, 0, none⟩), opv k p n D d dc O o oc, .int .i64 num] w (RDoIs lo rv gb gv cb cv b z N sv 5 0 [] bs vs last w) := by
  obtain ⟨g, hg⟩ : ∃ g, w.heap.size = g := ⟨_, rfl⟩
  obtain ⟨w0, hw0⟩ : ∃ w0, (w.alloc (.cells #[.int .u8 k, .int .i64 p, .int .i64 n, .slice D d dc, .slice O o oc] 38)).alloc (.cells #[.int .u8 0, .slice none 0 0] 49) = w0 := ⟨_, rfl⟩
  have hO : Blk w0 g [.int .u8 k, .int .i64 p, .int .i64 n, .slice D d dc, .slice O o oc] 38 := by rw [← hw0, ← hg]; exact (Blk.new w [.int .u8 k, .int .i64 p, .int .i64 n, .slice D d dc, .slice O o oc] _).alloc _
  have hZ : Blk w0 (g + 1) [.int .u8 0, .slice none 0 0] 49 := by
    rw [← hw0, ← hg]
    have := Blk.new (w.alloc (.cells #[.int .u8 k, .int .i64 p, .int .i64 n, .slice D d dc, .slice O o oc] 38)) [.int .u8 0, .slice none 0 0] 49
    rwa [World.size_alloc] at this
  have hb0 : Below w.heap.size w w0 := by rw [← hw0]; exact ((Below.refl _ _).alloc (Nat.le_refl _) _).alloc (by simp) _
  have hV0 := h.below hb0
  have slt := h.ver.lt
  have vlt := h.blk.lt
  have rlt := h.row.lt
  have x0 := hV0.blk.cell (j := 0) rfl
  have x1 := hV0.blk.cell (j := 1) rfl
  have x4 := hV0.blk.cell (j := 4) rfl
  have k0 := hO.cell (j := 0) rfl
  have k1 := hO.cell (j := 1) rfl
  have k2 := hO.cell (j := 2) rfl
  have k3 := hO.cell (j := 3) rfl
  have k4 := hO.cell (j := 4) rfl
  have y0 := hZ.cell (j := 0) rfl
  have y1 := hZ.cell (j := 1) rfl
  have f0 := hZ.frozen 0
  have f1 := hZ.frozen 1
  have hrows : ∀ i A c, i < b → rows[i]? = some (.slice A z c) → ∀ a, A = some a → a.block ≠ g + 1 := h.rows_lt (by omega)
  rcases hbad with q1 | ⟨q1, q2⟩ | ⟨q1, q2, q3⟩
  all_goals
    go_enter Tryd.func22, Tryd.ntmps22
    go_wp2
    refine bodyPost_ret (results_cell2 rfl rfl ((hZ.set 0 (.int .u8 0)).set 1 (.slice none 0 0)) Tryd.underlying49 rfl (by kernel_rfl)) rfl ?_
    exact ⟨none, 0, rfl, Nat.le_refl _, by omega, Rd.nil, (fun a ha => by cases ha), ⟨rows, (hV0.far (by omega) (by omega) (by omega) hrows 0 _).far (by omega) (by omega) (by omega) hrows 1 _⟩, Upd.of_below ((hb0.setCell (leBk (by omega)) _).setCell (leBk (by omega)) _)⟩
set_option maxHeartbeats 3200000 in
theorem rdo_badfit (w : World) (lo rv gb gv cb cv b z N : Nat) (rows sv : List Value) (bs : List UInt8) (vs : List Int) (last : Int) (k : Nat) (p n : Int) (D : Option Addr) (d dc : Nat) (O : Option Addr) (o oc : Nat) (num : Int) (hk : k < 256) (h : RVolIs w lo rv gb gv cb cv b z N rows sv bs vs last) (hn1 : 1 ≤ num) (hn2 : num ≤ 4611686018427387904) (hn3 : last ≤ num) (E : Int) (hE : E ≠ 0) (hf : ftE b z k p n d o = E) (hc : ftC b z k p n d o = 0) :
    Calls Tryd.prog 22 #[.pointer (some ⟨rv, 0, none⟩), opv k p n D d dc O o oc, .int .i64 num] w (RDoIs lo rv gb gv cb cv b z N sv E 0 [] bs vs last w) := by
  have q1 : (E != 0) = true := by simpa using hE
  obtain ⟨g, hg⟩ : ∃ g, w.heap.size = g := ⟨_, rfl⟩
  obtain ⟨w0, hw0⟩ : ∃ w0, (w.alloc (.cells #[.int .u8 k, .int .i64 p, .int .i64 n, .slice D d dc, .slice O o oc] 38)).alloc (.cells #[.int .u8 0, .slice none 0 0] 49) = w0 := ⟨_, rfl⟩
  have hO : Blk w0 g [.int .u8 k, .int .i64 p, .int .i64 n, .slice D d dc, .slice O o oc] 38 := by rw [← hw0, ← hg]; exact (Blk.new w [.int .u8 k, .int .i64 p, .int .i64 n, .slice D d dc, .slice O o oc] _).alloc _
  have hZ : Blk w0 (g + 1) [.int .u8 0, .slice none 0 0] 49 := by
    rw [← hw0, ← hg]
    have := Blk.new (w.alloc (.cells #[.int .u8 k, .int .i64 p, .int .i64 n, .slice D d dc, .slice O o oc] 38)) [.int .u8 0, .slice none 0 0] 49
    rwa [World.size_alloc] at this
  have hb0 : Below w.heap.size w w0 := by rw [← hw0]; exact ((Below.refl _ _).alloc (Nat.le_refl _) _).alloc (by simp) _
  have hV0 := h.below hb0
  have slt := h.ver.lt
  have vlt := h.blk.lt
  have rlt := h.row.lt
  have x0 := hV0.blk.cell (j := 0) rfl
  have x1 := hV0.blk.cell (j := 1) rfl
  have x4 := hV0.blk.cell (j := 4) rfl
  have k0 := hO.cell (j := 0) rfl
  have k1 := hO.cell (j := 1) rfl
  have k2 := hO.cell (j := 2) rfl
  have k3 := hO.cell (j := 3) rfl
  have k4 := hO.cell (j := 4) rfl
  have y0 := hZ.cell (j := 0) rfl
  have y1 := hZ.cell (j := 1) rfl
  have f0 := hZ.frozen 0
  have f1 := hZ.frozen 1
  have hrows : ∀ i A c, i < b → rows[i]? = some (.slice A z c) → ∀ a, A = some a → a.block ≠ g + 1 := h.rows_lt (by omega)
  have Hf := hide hf
  have Hc := hide hc
  clear hf hc
  go_enter Tryd.func22, Tryd.ntmps22
  go_wp2_with fail
  go_region_with (first
    | (go_at_call 39; refine (rfit_any b z k p n D d dc O o oc _ hk).mono ?_; rintro x w1 ⟨hx, hb1⟩; rw [Hf.out, Hc.out] at hx; subst hx))
  all_goals
    have hb1' : Below w0.heap.size w0 w1 := (Below.refl _ _).drew.trans hb1
    have hV1 := hV0.below hb1'
    have hO1 := hO.below hb1'
    have hZ1 := hZ.below hb1'
    have hb01 := hb0.trans (hb1'.mono hb0.size)
    have sz1 : w0.heap.size ≤ w1.heap.size := hb1'.size
    have zl := hZ.lt
    clear x0 x1 x4 k0 k1 k2 k3 k4 y0 y1 f0 f1
    have y0 := hZ1.cell (j := 0) rfl
    have y1 := hZ1.cell (j := 1) rfl
    have f0 := hZ1.frozen 0
    have f1 := hZ1.frozen 1
    have x4 := hV1.blk.cell (j := 4) rfl
    have e4 := hV1.blk.frozen 4
    go_wp2
    refine bodyPost_ret (results_cell2 rfl rfl ((hZ1.set 0 (.int .u8 0)).set 1 (.slice none 0 0)) Tryd.underlying49 rfl (by kernel_rfl)) rfl ?_
    exact ⟨none, 0, rfl, Nat.le_refl _, by omega, Rd.nil, (fun a ha => by cases ha), ⟨rows, (hV1.far (by omega) (by omega) (by omega) hrows 0 _).far (by omega) (by omega) (by omega) hrows 1 _⟩, Upd.of_below ((hb01.setCell (leBk (by omega)) _).setCell (leBk (by omega)) _)⟩
set_option maxHeartbeats 3200000 in
theorem rdo_badcode (w : World) (lo rv gb gv cb cv b z N : Nat) (rows sv : List Value) (bs : List UInt8) (vs : List Int) (last : Int) (k : Nat) (p n : Int) (D : Option Addr) (d dc : Nat) (O : Option Addr) (o oc : Nat) (num : Int) (hk : k < 256) (h : RVolIs w lo rv gb gv cb cv b z N rows sv bs vs last) (hn1 : 1 ≤ num) (hn2 : num ≤ 4611686018427387904) (hn3 : last ≤ num) (C : Nat) (hC : C ≠ 1) (hf : ftE b z k p n d o = 0) (hc : ftC b z k p n d o = (C : Int)) :
    Calls Tryd.prog 22 #[.pointer (some ⟨rv, 0, none⟩), opv k p n D d dc O o oc, .int .i64 num] w (RDoIs lo rv gb gv cb cv b z N sv 0 C [] bs vs num w) := by
  have q1 : ((C : Int) != 1) = true := by simp; omega
  obtain ⟨g, hg⟩ : ∃ g, w.heap.size = g := ⟨_, rfl⟩
  obtain ⟨w0, hw0⟩ : ∃ w0, (w.alloc (.cells #[.int .u8 k, .int .i64 p, .int .i64 n, .slice D d dc, .slice O o oc] 38)).alloc (.cells #[.int .u8 0, .slice none 0 0] 49) = w0 := ⟨_, rfl⟩
  have hO : Blk w0 g [.int .u8 k, .int .i64 p, .int .i64 n, .slice D d dc, .slice O o oc] 38 := by rw [← hw0, ← hg]; exact (Blk.new w [.int .u8 k, .int .i64 p, .int .i64 n, .slice D d dc, .slice O o oc] _).alloc _
  have hZ : Blk w0 (g + 1) [.int .u8 0, .slice none 0 0] 49 := by
    rw [← hw0, ← hg]
    have := Blk.new (w.alloc (.cells #[.int .u8 k, .int .i64 p, .int .i64 n, .slice D d dc, .slice O o oc] 38)) [.int .u8 0, .slice none 0 0] 49
    rwa [World.size_alloc] at this
  have hb0 : Below w.heap.size w w0 := by rw [← hw0]; exact ((Below.refl _ _).alloc (Nat.le_refl _) _).alloc (by simp) _
  have hV0 := h.below hb0
  have slt := h.ver.lt
  have vlt := h.blk.lt
  have rlt := h.row.lt
  have x0 := hV0.blk.cell (j := 0) rfl
  have x1 := hV0.blk.cell (j := 1) rfl
  have x4 := hV0.blk.cell (j := 4) rfl
  have k0 := hO.cell (j := 0) rfl
  have k1 := hO.cell (j := 1) rfl
  have k2 := hO.cell (j := 2) rfl
  have k3 := hO.cell (j := 3) rfl
  have k4 := hO.cell (j := 4) rfl
  have y0 := hZ.cell (j := 0) rfl
  have y1 := hZ.cell (j := 1) rfl
  have f0 := hZ.frozen 0
  have f1 := hZ.frozen 1
  have hrows : ∀ i A c, i < b → rows[i]? = some (.slice A z c) → ∀ a, A = some a → a.block ≠ g + 1 := h.rows_lt (by omega)
  have Hf := hide hf
  have Hc := hide hc
  clear hf hc
  go_enter Tryd.func22, Tryd.ntmps22
  go_wp2_with fail
  go_region_with (first
    | (go_at_call 39; refine (rfit_any b z k p n D d dc O o oc _ hk).mono ?_; rintro x w1 ⟨hx, hb1⟩; rw [Hf.out, Hc.out] at hx; subst hx))
  all_goals
    have hb1' : Below w0.heap.size w0 w1 := (Below.refl _ _).drew.trans hb1
    have hV1 := hV0.below hb1'
    have hO1 := hO.below hb1'
    have hZ1 := hZ.below hb1'
    have hb01 := hb0.trans (hb1'.mono hb0.size)
    have sz1 : w0.heap.size ≤ w1.heap.size := hb1'.size
    have zl := hZ.lt
    clear x0 x1 x4 k0 k1 k2 k3 k4 y0 y1 f0 f1
    have y0 := hZ1.cell (j := 0) rfl
    have y1 := hZ1.cell (j := 1) rfl
    have f0 := hZ1.frozen 0
    have f1 := hZ1.frozen 1
    have x4 := hV1.blk.cell (j := 4) rfl
    have e4 := hV1.blk.frozen 4
    have hV2 := hV1.setLast num
    have hO2 := hO1.apart (k := rv) (by omega) 4 (.int .i64 num)
    have hZ2 := hZ1.apart (k := rv) (by omega) 4 (.int .i64 num)
    have hU2 := (Upd.of_below (v := rv) (r := gb) (s := gv) hb01).set_v 4 (.int .i64 num)
    have sz2 : (w1.setCell ⟨rv, 4, none⟩ (.int .i64 num)).heap.size = w1.heap.size := by simp
    have hb3 : Below (w1.setCell ⟨rv, 4, none⟩ (.int .i64 num)).heap.size (w1.setCell ⟨rv, 4, none⟩ (.int .i64 num)) ((w1.setCell ⟨rv, 4, none⟩ (.int .i64 num)).alloc (.cells #[.int .u8 C, .slice none 0 0] 49)) := (Below.refl _ _).alloc (Nat.le_refl _) _
    have hR3 := Blk.new (w1.setCell ⟨rv, 4, none⟩ (.int .i64 num)) [.int .u8 C, .slice none 0 0] 49
    rw [sz2] at hR3
    have hV3 := hV2.below hb3
    have hO3 := hO2.below hb3
    have hZ3 := hZ2.below hb3
    have hU3 : Upd rv gb gv w _ := hU2.trans (Upd.of_below hb3)
    clear hV2 hO2 hZ2 hU2 sz2 hb3
    have r0 := hR3.cell (j := 0) rfl
    have r1 := hR3.cell (j := 1) rfl
    have y0 := hZ3.cell (j := 0) rfl
    have y1 := hZ3.cell (j := 1) rfl
    have f0 := hZ3.frozen 0
    have f1 := hZ3.frozen 1
    go_wp2
    refine bodyPost_ret (results_cell2 rfl rfl ((hZ3.set 0 (.int .u8 C)).set 1 (.slice none 0 0)) Tryd.underlying49 rfl (by kernel_rfl)) rfl ?_
    exact ⟨none, 0, rfl, Nat.le_refl _, by omega, Rd.nil, (fun a ha => by cases ha), ⟨rows, (hV3.far (by omega) (by omega) (by omega) hrows 0 _).far (by omega) (by omega) (by omega) hrows 1 _⟩, (hU3.set_far (by omega) 0 _).set_far (by omega) 1 _⟩
end Go.Proofs.YtjilkaciopiabaaDoor
