/- volume.Do, where the number is right. -/
import Derived.Test.YtjilkaciopiabaaDoorF05c
namespace Go.Proofs.YtjilkaciopiabaaDoor
open Go.RowKit Go.Px
set_option linter.unusedVariables false

set_option maxHeartbeats 3200000 in
theorem do_badfit (w : World) (v r s b z N : Nat) (bs : List UInt8) (vs : List Int) (last : Int) (k : Nat) (p n : Int) (D : Option Addr) (d dc : Nat) (O : Option Addr) (o oc : Nat) (num : Int) (hk : k < 256) (h : VolIs w v r s b z N bs vs last) (hs : serB num = true) (hl : ¬ num < last) (E : Int) (hE : E ≠ 0) (hf : ftE b z k p n d o = E) (hc : ftC b z k p n d o = 0) :
    Calls Tryd.prog 11 #[.pointer (some ⟨v, 0, none⟩), opv k p n D d dc O o oc, .int .i64 num] w (DoIs v r s b z N E 0 [] bs vs last w) := by
  have q1 : (E != 0) = true := by simpa using hE
  obtain ⟨g, hg⟩ : ∃ g, w.heap.size = g := ⟨_, rfl⟩
  obtain ⟨w0, hw0⟩ : ∃ w0, (w.alloc (.cells #[.int .u8 k, .int .i64 p, .int .i64 n, .slice D d dc, .slice O o oc] 38)).alloc (.cells #[.int .u8 0, .slice none 0 0] 49) = w0 := ⟨_, rfl⟩
  have hO : Blk w0 g [.int .u8 k, .int .i64 p, .int .i64 n, .slice D d dc, .slice O o oc] 38 := by rw [← hw0, ← hg]; exact (Blk.new w [.int .u8 k, .int .i64 p, .int .i64 n, .slice D d dc, .slice O o oc] _).alloc _
  have hZ : Blk w0 (g + 1) [.int .u8 0, .slice none 0 0] 49 := by
    rw [← hw0, ← hg]
    have := Blk.new (w.alloc (.cells #[.int .u8 k, .int .i64 p, .int .i64 n, .slice D d dc, .slice O o oc] 38)) [.int .u8 0, .slice none 0 0] 49
    rwa [World.size_alloc] at this
  have hb0 : Below w.heap.size w w0 := by rw [← hw0]; exact ((Below.refl _ _).alloc (Nat.le_refl _) _).alloc (by simp) _
  have hV0 := h.below hb0
  have slt := h.ver.lt
  have vlt := h.blk.lt
  have rlt := h.row.lt
  have Hs := hide hs
  have hl' : decide (num < last) = false := decide_eq_false hl
  have Hf := hide hf
  have Hc := hide hc
  have x0 := hV0.blk.cell (j := 0) rfl
  have x1 := hV0.blk.cell (j := 1) rfl
  have x4 := hV0.blk.cell (j := 4) rfl
  have k0 := hO.cell (j := 0) rfl
  have k1 := hO.cell (j := 1) rfl
  have k2 := hO.cell (j := 2) rfl
  have k3 := hO.cell (j := 3) rfl
  have k4 := hO.cell (j := 4) rfl
  clear hs hl hf hc
  go_enter Tryd.func11, Tryd.ntmps11
  go_wp2_with fail
  go_fit (made_any w0 v r s b z N bs vs last hV0)
  rintro x w1 ⟨rfl, rfl⟩
  go_wp2_with fail
  go_fit (serial_any num w0)
  rw [Hs.out]
  rintro x w1 ⟨rfl, rfl⟩
  go_wp2_with fail
  go_region_with (first
    | (go_at_call 28; refine (fit_any b z k p n D d dc O o oc _ hk).mono ?_; rintro x w1 ⟨hx, hb1⟩; rw [Hf.out, Hc.out] at hx; subst hx))
  all_goals
    have hV1 := hV0.drew.below hb1
    have hO1 := hO.drew.below hb1
    have hZ1 := hZ.drew.below hb1
    have hb01 := hb0.drew.trans (hb1.mono hb0.size)
    have sz1 : w0.heap.size ≤ w1.heap.size := hb1.size
    have zl := hZ.lt
    clear x0 x1 x4 k0 k1 k2 k3 k4
    have y0 := hZ1.cell (j := 0) rfl
    have y1 := hZ1.cell (j := 1) rfl
    have f0 := hZ1.frozen 0
    have f1 := hZ1.frozen 1
    go_wp2
    refine bodyPost_ret (results_cell2 rfl rfl ((hZ1.set 0 (.int .u8 0)).set 1 (.slice none 0 0)) Tryd.underlying49 rfl (by kernel_rfl)) rfl ?_
    exact ⟨none, 0, rfl, Rd.nil, (fun a ha => by cases ha), (hV1.far (by omega) (by omega) (by omega) 0 _).far (by omega) (by omega) (by omega) 1 _, Upd.of_below ((hb01.setCell (leBk (by omega)) _).setCell (leBk (by omega)) _)⟩

set_option maxHeartbeats 3200000 in
theorem do_badcode (w : World) (v r s b z N : Nat) (bs : List UInt8) (vs : List Int) (last : Int) (k : Nat) (p n : Int) (D : Option Addr) (d dc : Nat) (O : Option Addr) (o oc : Nat) (num : Int) (hk : k < 256) (h : VolIs w v r s b z N bs vs last) (hs : serB num = true) (hl : ¬ num < last) (C : Nat) (hC : C ≠ 1) (hf : ftE b z k p n d o = 0) (hc : ftC b z k p n d o = (C : Int)) :
    Calls Tryd.prog 11 #[.pointer (some ⟨v, 0, none⟩), opv k p n D d dc O o oc, .int .i64 num] w (DoIs v r s b z N 0 C [] bs vs num w) := by
  have q1 : ((C : Int) != 1) = true := by simp; omega
  obtain ⟨g, hg⟩ : ∃ g, w.heap.size = g := ⟨_, rfl⟩
  obtain ⟨w0, hw0⟩ : ∃ w0, (w.alloc (.cells #[.int .u8 k, .int .i64 p, .int .i64 n, .slice D d dc, .slice O o oc] 38)).alloc (.cells #[.int .u8 0, .slice none 0 0] 49) = w0 := ⟨_, rfl⟩
  have hO : Blk w0 g [.int .u8 k, .int .i64 p, .int .i64 n, .slice D d dc, .slice O o oc] 38 := by rw [← hw0, ← hg]; exact (Blk.new w [.int .u8 k, .int .i64 p, .int .i64 n, .slice D d dc, .slice O o oc] _).alloc _
  have hZ : Blk w0 (g + 1) [.int .u8 0, .slice none 0 0] 49 := by
    rw [← hw0, ← hg]
    have := Blk.new (w.alloc (.cells #[.int .u8 k, .int .i64 p, .int .i64 n, .slice D d dc, .slice O o oc] 38)) [.int .u8 0, .slice none 0 0] 49
    rwa [World.size_alloc] at this
  have hb0 : Below w.heap.size w w0 := by rw [← hw0]; exact ((Below.refl _ _).alloc (Nat.le_refl _) _).alloc (by simp) _
  have hV0 := h.below hb0
  have slt := h.ver.lt
  have vlt := h.blk.lt
  have rlt := h.row.lt
  have Hs := hide hs
  have hl' : decide (num < last) = false := decide_eq_false hl
  have Hf := hide hf
  have Hc := hide hc
  have x0 := hV0.blk.cell (j := 0) rfl
  have x1 := hV0.blk.cell (j := 1) rfl
  have x4 := hV0.blk.cell (j := 4) rfl
  have k0 := hO.cell (j := 0) rfl
  have k1 := hO.cell (j := 1) rfl
  have k2 := hO.cell (j := 2) rfl
  have k3 := hO.cell (j := 3) rfl
  have k4 := hO.cell (j := 4) rfl
  clear hs hl hf hc
  go_enter Tryd.func11, Tryd.ntmps11
  go_wp2_with fail
  go_fit (made_any w0 v r s b z N bs vs last hV0)
  rintro x w1 ⟨rfl, rfl⟩
  go_wp2_with fail
  go_fit (serial_any num w0)
  rw [Hs.out]
  rintro x w1 ⟨rfl, rfl⟩
  go_wp2_with fail
  go_region_with (first
    | (go_at_call 28; refine (fit_any b z k p n D d dc O o oc _ hk).mono ?_; rintro x w1 ⟨hx, hb1⟩; rw [Hf.out, Hc.out] at hx; subst hx))
  all_goals
    have hV1 := hV0.drew.below hb1
    have hO1 := hO.drew.below hb1
    have hZ1 := hZ.drew.below hb1
    have hb01 := hb0.drew.trans (hb1.mono hb0.size)
    have sz1 : w0.heap.size ≤ w1.heap.size := hb1.size
    have zl := hZ.lt
    clear x0 x1 x4 k0 k1 k2 k3 k4
    have y0 := hZ1.cell (j := 0) rfl
    have y1 := hZ1.cell (j := 1) rfl
    have f0 := hZ1.frozen 0
    have f1 := hZ1.frozen 1
    have x4 := hV1.blk.cell (j := 4) rfl
    have e4 := hV1.blk.frozen 4
    go_wp2
    have hZ2 := ((hZ1.apart (k := v) (by omega) 4 (.int .i64 num)).set 0 (.int .u8 C)).set 1 (.slice none 0 0)
    refine bodyPost_ret (results_cell2 rfl rfl hZ2 Tryd.underlying49 rfl (by kernel_rfl)) rfl ?_
    refine ⟨none, 0, rfl, Rd.nil, (fun a ha => by cases ha), ((hV1.setLast num).far (by omega) (by omega) (by omega) 0 _).far (by omega) (by omega) (by omega) 1 _, ?_⟩
    exact (((Upd.of_below hb01).set_v 4 _).set_far (by omega) 0 _).set_far (by omega) 1 _

set_option maxHeartbeats 3200000 in
theorem do_ok (w : World) (v r s b z N : Nat) (bs : List UInt8) (vs : List Int) (last : Int) (k : Nat) (p n : Int) (D : Option Addr) (d dc : Nat) (O : Option Addr) (o oc : Nat) (num : Int) (hk : k < 256) (h : VolIs w v r s b z N bs vs last) (hs : serB num = true) (hl : ¬ num < last) (hf : ftE b z k p n d o = 0) (hc : ftC b z k p n d o = 1) (C : Nat) (data bs' : List UInt8) (vs' : List Int)
    (HD : ∀ w1, VolIs w1 v r s b z N bs vs num → Upd v r s w w1 → Calls Tryd.prog 29 #[.pointer (some ⟨v, 0, none⟩), opv k p n D d dc O o oc, .int .i64 num] w1 (DoneIs v r s b z N C data bs' vs' num w1)) :
    Calls Tryd.prog 11 #[.pointer (some ⟨v, 0, none⟩), opv k p n D d dc O o oc, .int .i64 num] w (DoIs v r s b z N 0 C data bs' vs' num w) := by
  have HD' := hide HD
  clear HD
  obtain ⟨g, hg⟩ : ∃ g, w.heap.size = g := ⟨_, rfl⟩
  obtain ⟨w0, hw0⟩ : ∃ w0, (w.alloc (.cells #[.int .u8 k, .int .i64 p, .int .i64 n, .slice D d dc, .slice O o oc] 38)).alloc (.cells #[.int .u8 0, .slice none 0 0] 49) = w0 := ⟨_, rfl⟩
  have hO : Blk w0 g [.int .u8 k, .int .i64 p, .int .i64 n, .slice D d dc, .slice O o oc] 38 := by rw [← hw0, ← hg]; exact (Blk.new w [.int .u8 k, .int .i64 p, .int .i64 n, .slice D d dc, .slice O o oc] _).alloc _
  have hZ : Blk w0 (g + 1) [.int .u8 0, .slice none 0 0] 49 := by
    rw [← hw0, ← hg]
    have := Blk.new (w.alloc (.cells #[.int .u8 k, .int .i64 p, .int .i64 n, .slice D d dc, .slice O o oc] 38)) [.int .u8 0, .slice none 0 0] 49
    rwa [World.size_alloc] at this
  have hb0 : Below w.heap.size w w0 := by rw [← hw0]; exact ((Below.refl _ _).alloc (Nat.le_refl _) _).alloc (by simp) _
  have hV0 := h.below hb0
  have slt := h.ver.lt
  have vlt := h.blk.lt
  have rlt := h.row.lt
  have Hs := hide hs
  have hl' : decide (num < last) = false := decide_eq_false hl
  have Hf := hide hf
  have Hc := hide hc
  have x0 := hV0.blk.cell (j := 0) rfl
  have x1 := hV0.blk.cell (j := 1) rfl
  have x4 := hV0.blk.cell (j := 4) rfl
  have k0 := hO.cell (j := 0) rfl
  have k1 := hO.cell (j := 1) rfl
  have k2 := hO.cell (j := 2) rfl
  have k3 := hO.cell (j := 3) rfl
  have k4 := hO.cell (j := 4) rfl
  clear hs hl hf hc
  go_enter Tryd.func11, Tryd.ntmps11
  go_wp2_with fail
  go_fit (made_any w0 v r s b z N bs vs last hV0)
  rintro x w1 ⟨rfl, rfl⟩
  go_wp2_with fail
  go_fit (serial_any num w0)
  rw [Hs.out]
  rintro x w1 ⟨rfl, rfl⟩
  go_wp2_with fail
  go_region_with (first
    | (go_at_call 28; refine (fit_any b z k p n D d dc O o oc _ hk).mono ?_; rintro x w1 ⟨hx, hb1⟩; rw [Hf.out, Hc.out] at hx; subst hx))
  all_goals
    have hV1 := hV0.drew.below hb1
    have hO1 := hO.drew.below hb1
    have hZ1 := hZ.drew.below hb1
    have hb01 := hb0.drew.trans (hb1.mono hb0.size)
    have sz1 : w0.heap.size ≤ w1.heap.size := hb1.size
    have zl := hZ.lt
    clear x0 x1 x4 k0 k1 k2 k3 k4
    have x4 := hV1.blk.cell (j := 4) rfl
    have e4 := hV1.blk.frozen 4
    have hO2 := hO1.apart (k := v) (by omega) 4 (.int .i64 num)
    have hZ2 := hZ1.apart (k := v) (by omega) 4 (.int .i64 num)
    have hV2 := hV1.setLast num
    have hU2 := (Upd.of_below (v := v) (r := r) (s := s) hb01).set_v 4 (.int .i64 num)
    have k0 := hO1.cell (j := 0) rfl
    have k1 := hO1.cell (j := 1) rfl
    have k2 := hO1.cell (j := 2) rfl
    have k3 := hO1.cell (j := 3) rfl
    have k4 := hO1.cell (j := 4) rfl
    go_wp2_with fail
    go_fit (HD'.out _ hV2 hU2)
    rintro x w3 ⟨A, c, rfl, hA, uA, hV3, g1, g2, g3, g4, g5⟩
    have szs : w1.heap.size ≤ w3.heap.size := by simpa using g1
    have hZ3 : Blk w3 (g + 1) [.int .u8 0, .slice none 0 0] 49 := (g5 (g + 1) (by simp; omega) (by omega) (by omega)).trans hZ2
    have hU3 : Upd v r s w w3 := hU2.trans ⟨g2, g3, g4, g1, fun q hq _ h2 h3 => g5 q hq h2 h3⟩
    clear x4 e4 k0 k1 k2 k3 k4
    have y0 := hZ3.cell (j := 0) rfl
    have y1 := hZ3.cell (j := 1) rfl
    have f0 := hZ3.frozen 0
    have f1 := hZ3.frozen 1
    go_wp2
    have hZ4 := (hZ3.set 0 (.int .u8 C)).set 1 (.slice A data.length c)
    refine bodyPost_ret (results_cell2 rfl rfl hZ4 Tryd.underlying49 rfl (by kernel_rfl)) rfl ?_
    have uB : ∀ a, A = some a → g + 2 ≤ a.block := fun a ha => by have := uA a ha; simp at this; omega
    refine ⟨A, c, rfl, (hA.upset (g := g + 1) uB (by omega)).upset (g := g + 1) uB (by omega), (fun a ha => by have := uB a ha; omega), (hV3.far (by omega) (by omega) (by omega) 0 _).far (by omega) (by omega) (by omega) 1 _, (hU3.set_far (by omega) 0 _).set_far (by omega) 1 _⟩
end Go.Proofs.YtjilkaciopiabaaDoor
