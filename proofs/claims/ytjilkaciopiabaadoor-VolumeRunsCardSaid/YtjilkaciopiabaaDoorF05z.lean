/- plinthref05: Do where a request fits, kind by kind (written by gen5x.py). -/
import Derived.Test.YtjilkaciopiabaaDoorF05x
namespace Go.Proofs.YtjilkaciopiabaaDoor
open Go.RowKit Go.Px
set_option linter.unusedVariables false
set_option maxHeartbeats 3200000 in
theorem rdo_trim (w : World) (lo rv gb gv cb cv b z N : Nat) (rows sv : List Value) (bs : List UInt8) (vs : List Int) (last : Int) (P M : Nat) (D : Option Addr) (d dc : Nat) (O : Option Addr) (o oc : Nat) (num : Int) (h : RVolIs w lo rv gb gv cb cv b z N rows sv bs vs last) (hn1 : 1 ≤ num) (hn2 : num ≤ 4611686018427387904) (hn3 : last ≤ num) (hf : ftE b z 3 P M d o = 0) (hc : ftC b z 3 P M d o = 1) (hin : P + M ≤ b) :
    Calls Tryd.prog 22 #[.pointer (some ⟨rv, 0, none⟩), opv 3 P M D d dc O o oc, .int .i64 num] w (RDoIs lo rv gb gv cb cv b z N sv 0 1 [] (splB bs (P * z) (List.replicate (M * z) 0)) (stampL vs P num M) num w) := by
  obtain ⟨g, hg⟩ : ∃ g, w.heap.size = g := ⟨_, rfl⟩
  obtain ⟨w0, hw0⟩ : ∃ w0, (w.alloc (.cells #[.int .u8 3, .int .i64 (P : Nat), .int .i64 (M : Nat), .slice D d dc, .slice O o oc] 38)).alloc (.cells #[.int .u8 0, .slice none 0 0] 49) = w0 := ⟨_, rfl⟩
  have hO : Blk w0 g [.int .u8 3, .int .i64 (P : Nat), .int .i64 (M : Nat), .slice D d dc, .slice O o oc] 38 := by rw [← hw0, ← hg]; exact (Blk.new w [.int .u8 3, .int .i64 (P : Nat), .int .i64 (M : Nat), .slice D d dc, .slice O o oc] _).alloc _
  have hZ : Blk w0 (g + 1) [.int .u8 0, .slice none 0 0] 49 := by
    rw [← hw0, ← hg]
    have := Blk.new (w.alloc (.cells #[.int .u8 3, .int .i64 (P : Nat), .int .i64 (M : Nat), .slice D d dc, .slice O o oc] 38)) [.int .u8 0, .slice none 0 0] 49
    rwa [World.size_alloc] at this
  have hb0 : Below w.heap.size w w0 := by rw [← hw0]; exact ((Below.refl _ _).alloc (Nat.le_refl _) _).alloc (by simp) _
  have hV0 := h.below hb0
  have slt := h.ver.lt
  have vlt := h.blk.lt
  have rlt := h.row.lt
  have x0 := hV0.blk.cell (j := 0) rfl
  have x1 := hV0.blk.cell (j := 1) rfl
  have x4 := hV0.blk.cell (j := 4) rfl
  have k0 := hO.cell (j := 0) rfl
  have k1 := hO.cell (j := 1) rfl
  have k2 := hO.cell (j := 2) rfl
  have k3 := hO.cell (j := 3) rfl
  have k4 := hO.cell (j := 4) rfl
  have y0 := hZ.cell (j := 0) rfl
  have y1 := hZ.cell (j := 1) rfl
  have f0 := hZ.frozen 0
  have f1 := hZ.frozen 1
  have hrows : ∀ i A c, i < b → rows[i]? = some (.slice A z c) → ∀ a, A = some a → a.block ≠ g + 1 := h.rows_lt (by omega)
  obtain ⟨L, hL⟩ : ∃ L, M * z = L := ⟨_, rfl⟩
  have hLI : (M : Int) * (z : Int) = (L : Int) := by rw [← hL]; simp
  have hLb : L ≤ 4096 * 4096 := by rw [← hL]; exact Nat.mul_le_mul (by have := h.hb.2; omega) h.hz.2
  have HL := hide hL
  clear hL
  have Hf := hide hf
  have Hc := hide hc
  clear hf hc
  go_enter Tryd.func22, Tryd.ntmps22
  go_wp2_with fail
  go_region_with (first
    | (go_at_call 39; refine (rfit_any b z 3 P M D d dc O o oc _ (by decide)).mono ?_; rintro x w1 ⟨hx, hb1⟩; rw [Hf.out, Hc.out] at hx; subst hx))
  all_goals
    have hb1' : Below w0.heap.size w0 w1 := (Below.refl _ _).drew.trans hb1
    have hV1 := hV0.below hb1'
    have hO1 := hO.below hb1'
    have hZ1 := hZ.below hb1'
    have hb01 := hb0.trans (hb1'.mono hb0.size)
    have sz1 : w0.heap.size ≤ w1.heap.size := hb1'.size
    have zl := hZ.lt
    clear x0 x1 x4 k0 k1 k2 k3 k4 y0 y1 f0 f1
    have y0 := hZ1.cell (j := 0) rfl
    have y1 := hZ1.cell (j := 1) rfl
    have f0 := hZ1.frozen 0
    have f1 := hZ1.frozen 1
    have x4 := hV1.blk.cell (j := 4) rfl
    have e4 := hV1.blk.frozen 4
    have hV2 := hV1.setLast num
    have hO2 := hO1.apart (k := rv) (by omega) 4 (.int .i64 num)
    have hZ2 := hZ1.apart (k := rv) (by omega) 4 (.int .i64 num)
    have hU2 := (Upd.of_below (v := rv) (r := gb) (s := gv) hb01).set_v 4 (.int .i64 num)
    have sz2 : (w1.setCell ⟨rv, 4, none⟩ (.int .i64 num)).heap.size = w1.heap.size := by simp
    have hb3 : Below (w1.setCell ⟨rv, 4, none⟩ (.int .i64 num)).heap.size (w1.setCell ⟨rv, 4, none⟩ (.int .i64 num)) ((w1.setCell ⟨rv, 4, none⟩ (.int .i64 num)).alloc (.cells #[.int .u8 1, .slice none 0 0] 49)) := (Below.refl _ _).alloc (Nat.le_refl _) _
    have hR3 := Blk.new (w1.setCell ⟨rv, 4, none⟩ (.int .i64 num)) [.int .u8 1, .slice none 0 0] 49
    rw [sz2] at hR3
    have hV3 := hV2.below hb3
    have hO3 := hO2.below hb3
    have hZ3 := hZ2.below hb3
    have hU3 : Upd rv gb gv w _ := hU2.trans (Upd.of_below hb3)
    clear hV2 hO2 hZ2 hU2 sz2 hb3
    have r0 := hR3.cell (j := 0) rfl
    have r1 := hR3.cell (j := 1) rfl
    have y0 := hZ3.cell (j := 0) rfl
    have y1 := hZ3.cell (j := 1) rfl
    have f0 := hZ3.frozen 0
    have f1 := hZ3.frozen 1
    have q0 := hO3.cell (j := 0) rfl
    have q1 := hO3.cell (j := 1) rfl
    have q2 := hO3.cell (j := 2) rfl
    have q3 := hO3.cell (j := 3) rfl
    have q4 := hO3.cell (j := 4) rfl
    have s1 := hR3.frozen 1
    have e1 := hV3.blk.cell (j := 1) rfl
    have glt := hR3.lt
    have hrows3 : ∀ i A c, i < b → rows[i]? = some (.slice A z c) → ∀ a, A = some a → a.block ≠ w1.heap.size := hV1.rows_lt (Nat.le_refl _)
    have hm1 := fun W => run_mkB (P := Tryd.prog) (t := 36) (e := 5) (z := .int .u8 0) (bytes := 1) Tryd.underlying36 (by kernel_rfl) rfl (N := L) (by omega) (by omega) W
    have hbX : Below ((w1.setCell ⟨rv, 4, none⟩ (.int .i64 num)).alloc (.cells #[.int .u8 1, .slice none 0 0] 49)).heap.size ((w1.setCell ⟨rv, 4, none⟩ (.int .i64 num)).alloc (.cells #[.int .u8 1, .slice none 0 0] 49)) ((((w1.setCell ⟨rv, 4, none⟩ (.int .i64 num)).alloc (.cells #[.int .u8 1, .slice none 0 0] 49)).alloc (.cells (List.replicate L (.int .u8 0)).toArray 5)).drew) := ((Below.refl _ _).alloc (Nat.le_refl _) _).drew
    have wsz : ((w1.setCell ⟨rv, 4, none⟩ (.int .i64 num)).alloc (.cells #[.int .u8 1, .slice none 0 0] 49)).heap.size = w1.heap.size + 1 := by simp
    have hVX := hV3.below hbX
    have hRz : Rd ((((w1.setCell ⟨rv, 4, none⟩ (.int .i64 num)).alloc (.cells #[.int .u8 1, .slice none 0 0] 49)).alloc (.cells (List.replicate L (.int .u8 0)).toArray 5)).drew) (some ⟨w1.heap.size + 1, 0, none⟩) (bys (List.replicate L 0)) := by
      have e := Rd.newN ((w1.setCell ⟨rv, 4, none⟩ (.int .i64 num)).alloc (.cells #[.int .u8 1, .slice none 0 0] 49)) (List.replicate L (.int .u8 0)) 5 (0, 0)
      rw [wsz] at e
      have e2 : bys (List.replicate L 0) = List.replicate L (.int .u8 0) := by simp [bys]
      rw [e2]
      exact e
    have hUX : Upd rv gb gv w ((((w1.setCell ⟨rv, 4, none⟩ (.int .i64 num)).alloc (.cells #[.int .u8 1, .slice none 0 0] 49)).alloc (.cells (List.replicate L (.int .u8 0)).toArray 5)).drew) := hU3.trans (Upd.of_below hbX)
    have hRX : Blk ((((w1.setCell ⟨rv, 4, none⟩ (.int .i64 num)).alloc (.cells #[.int .u8 1, .slice none 0 0] 49)).alloc (.cells (List.replicate L (.int .u8 0)).toArray 5)).drew) w1.heap.size [.int .u8 1, .slice none 0 0] 49 := hR3.below hbX
    have hZX : Blk ((((w1.setCell ⟨rv, 4, none⟩ (.int .i64 num)).alloc (.cells #[.int .u8 1, .slice none 0 0] 49)).alloc (.cells (List.replicate L (.int .u8 0)).toArray 5)).drew) (g + 1) [.int .u8 0, .slice none 0 0] 49 := hZ3.below hbX
    have gltX := hRX.lt
    have XSZ := hbX.size
    have u1 : IntKind.i64.wrap (L : Int) = (L : Int) := IntWalk.i64_in _ (by omega)
    have qa1 : (((w1.setCell ⟨rv, 4, none⟩ (.int .i64 num)).alloc (.cells #[.int .u8 1, .slice none 0 0] 49)).alloc (.cells (Array.replicate L (.int .u8 0)) 5)).cell? ⟨g, 1, none⟩ = some (.int .i64 (P : Nat)) := (hO3.alloc _).cell (j := 1) rfl
    go_wp2_with fail
    go_region_with (first | (go_at_call 38; refine (rwrite_any _ lo rv gb gv cb cv b z N rows sv bs vs num P M (some ⟨w1.heap.size + 1, 0, none⟩) L L (List.replicate L 0) num hVX hin (by simp) HL.out.symm (Nat.le_refl _) (by omega) hRz (fun a ha => by injection ha with ha; subst ha; exact ⟨by show w1.heap.size + 1 ≠ rv; omega, by show w1.heap.size + 1 ≠ gb; omega, by show w1.heap.size + 1 ≠ gv; omega⟩)).mono ?_; rintro x w4 ⟨rfl, ⟨rows', hV4, hRN⟩, hU4⟩; have hR4 := (hU4.blk _ gltX (by omega) (by omega) (by omega)).trans hRX; have hZ4 := (hU4.blk (g + 1) (by omega) (by omega) (by omega) (by omega)).trans hZX; have yy0 := Blk.cell hZ4 (j := 0) rfl; have yy1 := Blk.cell hZ4 (j := 1) rfl; have ff0 := Blk.frozen hZ4 0; have ff1 := Blk.frozen hZ4 1; have rr0 := Blk.cell hR4 (j := 0) rfl; have rr1 := Blk.cell hR4 (j := 1) rfl))
    all_goals
      rw [HL.out]
      clear hR4 hZ4 yy0 yy1 ff0 ff1 rr0 rr1
      have hR3 := hRX
      have hZ3 := hZX
      have hU3 := hUX
      have glt := gltX
      have g34 := hU4.size
      have hR4 := (hU4.blk _ glt (by omega) (by omega) (by omega)).trans hR3
      have hZ4 := (hU4.blk (g + 1) (by omega) (by omega) (by omega) (by omega)).trans hZ3
      have hrows4 : ∀ i A c, i < b → rows'[i]? = some (.slice A z c) → ∀ a, A = some a → a.block ≠ g + 1 := fun i A c hi h a ha => by
        rcases hRN i A c hi h with h | h
        · exact hrows i A c hi h a ha
        · have := h a ha
          omega
      clear q0 q1 q2 q3 q4 s1 e1 y0 y1 f0 f1 r0 r1 x4 e4
      have y0 := Blk.cell hZ4 (j := 0) rfl
      have y1 := Blk.cell hZ4 (j := 1) rfl
      have f0 := Blk.frozen hZ4 0
      have f1 := Blk.frozen hZ4 1
      have r0 := Blk.cell hR4 (j := 0) rfl
      have r1 := Blk.cell hR4 (j := 1) rfl
      try go_wp2
      refine bodyPost_ret (results_cell2 rfl rfl ((Blk.set hZ4 0 (.int .u8 1)).set 1 (.slice none 0 0)) Tryd.underlying49 rfl (by kernel_rfl)) rfl ?_
      rw [← HL.out] at hV4
      exact ⟨none, 0, rfl, Nat.le_refl _, by omega, Rd.nil, (fun a ha => by cases ha), ⟨rows', (hV4.far (by omega) (by omega) (by omega) hrows4 0 _).far (by omega) (by omega) (by omega) hrows4 1 _⟩, ((hU3.trans hU4).set_far (by omega) 0 _).set_far (by omega) 1 _⟩
end Go.Proofs.YtjilkaciopiabaaDoor
