/- block.DecodeResult. -/
import Derived.Test.YtabglphiafeheaaF04u
namespace Go.Proofs.Ytabglphiafeheaa
open Go.RowKit Go.Px
set_option linter.unusedVariables false
set_option linter.unusedSimpArgs false

theorem rsidle (p : Addr) (z : Int) (w : World) (hc : w.cell? p = some (.int .i64 z)) (hf : w.frozen? p = false) :
    CallsD Try.prog 45 #[.pointer (some p)] .returning w fun e u' w' => e = .returned (.tuple #[]) ∧ u' = .returning ∧ w' = w.drew.setCell p (.int .i64 z) := by
  have hC := caught_any z w.drew
  refine callsD_of_wpS Try.func45 rfl fun c₀ cs hu => ?_
  refine wpS_two (by kernel_rfl) rfl (by kernel_rfl) (by kernel_rfl) (by kernel_rfl) (by kernel_rfl) (by kernel_rfl) ?_ ?_
  all_goals
    simp [wpOpsS, go_sem, recoverD, hu, Try.ntmps45, Exit.thenS, hc, hf]
    refine hC.mono ?_
    rintro e w' ⟨rfl, rfl⟩
    simp [go_sem, hc, hf]
    cases c₀
    simp_all [bodyPostS, results, Try.results45]
theorem rsrecov (p : Addr) (x z : Int) (w : World) (hc : w.cell? p = some (.int .i64 z)) (hf : w.frozen? p = false) (hp : p.block < w.heap.size) :
    CallsD Try.prog 45 #[.pointer (some p)] (.panicking (stopped x)) w fun e u' w' => e = .returned (.tuple #[]) ∧ u' = .panicking [{ v := .iface 80 (.agg #[.int .i64 x]), recovered := true }] ∧ w' = ((w.drew.alloc (.cells #[.int .i64 x] 80)).setCell p (.int .i64 x)) := by
  have hC := caught_bad x z w.drew
  have hb := (Below.refl w.heap.size w).alloc (Nat.le_refl _) (.cells #[.int .i64 x] 80)
  have hca := (hb.cell (p := p) hp).trans hc
  have hfa := (hb.frozen (p := p) hp).trans hf
  clear hb
  refine callsD_of_wpS Try.func45 rfl fun c₀ cs hu => ?_
  refine wpS_two (by kernel_rfl) rfl (by kernel_rfl) (by kernel_rfl) (by kernel_rfl) (by kernel_rfl) (by kernel_rfl) ?_ ?_
  all_goals
    simp [wpOpsS, go_sem, recoverD, hu, stopped, Try.ntmps45, Exit.thenS, hc, hf]
    refine hC.mono ?_
    rintro e w' ⟨rfl, rfl⟩
    simp [go_sem, hca, hfa]
    cases c₀
    simp_all [bodyPostS, results, Try.results45]

def rsIs (k : Nat) (ds : List UInt8) (t2 : Int) (w : World) (e : Ending) (w' : World) : Prop :=
  ∃ D Dc, e = .returned (.tuple #[resv k D ds.length Dc, .int .i64 t2, .int .i64 0]) ∧ Rd w' D (bys ds) ∧ Up w.heap.size D ∧ Below w.heap.size w w'
set_option maxHeartbeats 3200000 in
theorem rsok (A : Option Addr) (m c : Nat) (bs : List UInt8) (k : Nat) (ds : List UInt8) (t2 : Int) (w : World) (hr : Rd w A (bys bs))
    (HOP : ∀ b w2, Blk w2 b [.slice A m c, .int .i64 0] 65 → Rd w2 A (bys bs) → w.heap.size + 2 ≤ b → Calls Try.prog 46 #[.pointer (some ⟨b, 0, none⟩)] w2 fun e w3 => ∃ D Dc, e = .returned (resv k D ds.length Dc) ∧ Rd w3 D (bys ds) ∧ Up b D ∧ Blk w3 b [.slice A m c, .int .i64 t2] 65 ∧ Below b w2 w3) :
    Calls Try.prog 28 #[.slice A m c] w (rsIs k ds t2 w) := by
  have hmf : ∀ (fn : Fn) (first cap : Array Value) (w : World), (Instr.makeFunc fn first cap).run Try.prog w = .ok (.func fn first cap) w := fun _ _ _ _ => rfl
  obtain ⟨g, hg⟩ : ∃ g, w.heap.size = g := ⟨_, rfl⟩
  obtain ⟨w0, hw0⟩ : ∃ w0, (w.alloc (.cells #[.int .u8 0, .slice none 0 0] 30)).alloc (.cells #[.int .i64 0] 31) = w0 := ⟨_, rfl⟩
  have hR : Blk w0 g [.int .u8 0, .slice none 0 0] 30 := by rw [← hw0, ← hg]; exact (Blk.new w [.int .u8 0, .slice none 0 0] _).alloc _
  have hE : Blk w0 (g + 1) [.int .i64 0] 31 := by
    rw [← hw0, ← hg]
    have := Blk.new (w.alloc (.cells #[.int .u8 0, .slice none 0 0] 30)) [.int .i64 0] 31
    rwa [World.size_alloc] at this
  have hb0 : Below w.heap.size w w0 := by rw [← hw0]; exact ((Below.refl _ _).alloc (Nat.le_refl _) _).alloc (by simp) _
  have hr0 := hr.below hb0
  have HO := hide HOP
  clear HOP
  go_enter_defers Try.func28, Try.ntmps28
  go_wp2_with fail
  go_fit (of_any A m c w0)
  rintro e w1 ⟨rfl, hb1⟩
  have hR1 := hR.below hb1
  have hE1 := hE.below hb1
  have hr1 := hr0.below hb1
  have hb01 := hb0.trans (hb1.mono hb0.size)
  have sz1 := hE1.lt
  obtain ⟨b, hb⟩ : ∃ b, w1.heap.size = b := ⟨_, rfl⟩
  obtain ⟨w2, hw2⟩ : ∃ w2, w1.alloc (.cells #[.slice A m c, .int .i64 0] 65) = w2 := ⟨_, rfl⟩
  have hB2 : Blk w2 b [.slice A m c, .int .i64 0] 65 := by rw [← hw2, ← hb]; exact Blk.new w1 [.slice A m c, .int .i64 0] _
  have hb12 : Below w1.heap.size w1 w2 := by rw [← hw2]; exact (Below.refl _ _).alloc (Nat.le_refl _) _
  have hR2 := hR1.below hb12
  have hE2 := hE1.below hb12
  have hr2 := hr1.below hb12
  have hb02 := hb01.trans (hb12.mono hb01.size)
  have Hw2 := hide hw2
  clear hw2
  go_wp2_with fail
  rw [Hw2.out]
  go_fit (HO.out b w2 hB2 hr2 (by omega))
  rintro e w3 ⟨D, Dc, rfl, hD3, uD, hB3, hb3⟩
  have hR3 := hR2.lo hb3 (by omega)
  have hE3 := hE2.lo hb3 (by omega)
  go_wp2_with fail
  obtain ⟨w4, hw4⟩ : ∃ w4, w3.alloc (.cells #[.int .u8 k, .slice D ds.length Dc] 30) = w4 := ⟨_, rfl⟩
  rw [hw4]
  obtain ⟨v, hv⟩ : ∃ v, w3.heap.size = v := ⟨_, rfl⟩
  have hV4 : Blk w4 v [.int .u8 k, .slice D ds.length Dc] 30 := by rw [← hw4, ← hv]; exact Blk.new w3 [.int .u8 k, .slice D ds.length Dc] _
  have hb34 : Below w3.heap.size w3 w4 := by rw [← hw4]; exact (Below.refl _ _).alloc (Nat.le_refl _) _
  have hR4 := hR3.below hb34
  have hE4 := hE3.below hb34
  have hB4 := hB3.below hb34
  have sb := hB3.lt
  have hD4 := hD3.below hb34
  have hb04 := (hb02.trans (hb3.mono (by omega))).trans (hb34.mono (by have := hb3.size; have := hB2.lt; omega))
  rw [hg] at hb04
  have hB4d := hB4.drew
  rw [hv]
  clear hw4 hv
  have x0 := hR4.cell (j := 0) rfl
  have f0 := hR4.frozen 0
  have y0 := hV4.cell (j := 0) rfl
  have x1 := hR4.cell (j := 1) rfl
  have f1 := hR4.frozen 1
  have y1 := hV4.cell (j := 1) rfl
  have e0 := hE4.cell (j := 0) rfl
  have fe := hE4.frozen 0
  refine wp_noexit ?_
  go_region_with (first
    | (go_at_call 41; (with_reducible refine (at_any b 65 (.slice A m c) t2 _ hB4d).mono ?_); rintro x wa ⟨rfl, rfl⟩))
  all_goals
    go_wp2_with fail
    refine leaves_cons (f := 45) (args := #[.pointer (some ⟨g + 1, 0, none⟩)]) (by simp) (by simp [go_sem]) ?_
    have hR5 := ((hR4.set 0 (.int .u8 k)).set 1 (.slice D ds.length Dc)).apart (k := g + 1) (by omega) 0 (.int .i64 0)
    have hE5 := ((hE4.apart (k := g) (by omega) 0 (.int .u8 k)).apart (k := g) (by omega) 1 (.slice D ds.length Dc)).set 0 (.int .i64 0)
    refine (rsidle ⟨g + 1, 0, none⟩ 0 _ (hE5.drew.cell (j := 0) rfl) (hE5.drew.frozen 0)).mono ?_
    rintro e u w6 ⟨rfl, rfl, rfl⟩
    have hR6 := hR5.drew.drew.apart (k := g + 1) (by omega) 0 (.int .i64 0)
    have hE6 := hE5.drew.drew.set 0 (.int .i64 0)
    refine ⟨_, results_cie rfl rfl rfl hR6 Try.underlying30 rfl (by kernel_rfl) (hE6.cell (j := 0) rfl) Try.underlying31, ?_⟩
    have fD := hD4 |>.upset uD (g := g) (by omega) (j := 0) (u := .int .u8 k) |>.upset uD (g := g) (by omega) (j := 1) (u := .slice D ds.length Dc) |>.upset uD (g := g + 1) (by omega) (j := 0) (u := .int .i64 0) |>.drew.drew |>.upset uD (g := g + 1) (by omega) (j := 0) (u := .int .i64 0)
    have fW := (((hb04.setCell (le_blk (B := g) (g := g) (j := 0) (Nat.le_refl _)) (.int .u8 k)).setCell (le_blk (B := g) (g := g) (j := 1) (Nat.le_refl _)) (.slice D ds.length Dc)).setCell (le_blk (B := g) (g := g + 1) (j := 0) (by omega)) (.int .i64 0)).drew.drew.setCell (le_blk (B := g) (g := g + 1) (j := 0) (by omega)) (.int .i64 0)
    refine ⟨D, Dc, rfl, fD, fun a ha => ?_, ?_⟩
    · have := uD a ha; omega
    · rw [hg]; exact fW

set_option maxHeartbeats 3200000 in
theorem rsbad (A : Option Addr) (m c : Nat) (bs : List UInt8) (x : Int) (w : World) (hr : Rd w A (bys bs))
    (HOP : ∀ b w2, Blk w2 b [.slice A m c, .int .i64 0] 65 → Rd w2 A (bys bs) → w.heap.size + 2 ≤ b → Calls Try.prog 46 #[.pointer (some ⟨b, 0, none⟩)] w2 fun e w' => e = .panicked (stopped x) ∧ Below b w2 w') :
    Calls Try.prog 28 #[.slice A m c] w fun e w' => e = .returned (.tuple #[.agg #[.int .u8 0, .slice none 0 0], .int .i64 0, .int .i64 x]) ∧ Below w.heap.size w w' := by
  have hmf : ∀ (fn : Fn) (first cap : Array Value) (w : World), (Instr.makeFunc fn first cap).run Try.prog w = .ok (.func fn first cap) w := fun _ _ _ _ => rfl
  obtain ⟨g, hg⟩ : ∃ g, w.heap.size = g := ⟨_, rfl⟩
  obtain ⟨w0, hw0⟩ : ∃ w0, (w.alloc (.cells #[.int .u8 0, .slice none 0 0] 30)).alloc (.cells #[.int .i64 0] 31) = w0 := ⟨_, rfl⟩
  have hR : Blk w0 g [.int .u8 0, .slice none 0 0] 30 := by rw [← hw0, ← hg]; exact (Blk.new w [.int .u8 0, .slice none 0 0] _).alloc _
  have hE : Blk w0 (g + 1) [.int .i64 0] 31 := by
    rw [← hw0, ← hg]
    have := Blk.new (w.alloc (.cells #[.int .u8 0, .slice none 0 0] 30)) [.int .i64 0] 31
    rwa [World.size_alloc] at this
  have hb0 : Below w.heap.size w w0 := by rw [← hw0]; exact ((Below.refl _ _).alloc (Nat.le_refl _) _).alloc (by simp) _
  have hr0 := hr.below hb0
  have HO := hide HOP
  clear HOP
  go_enter_defers Try.func28, Try.ntmps28
  go_wp2_with fail
  go_fit (of_any A m c w0)
  rintro e w1 ⟨rfl, hb1⟩
  have hR1 := hR.below hb1
  have hE1 := hE.below hb1
  have hr1 := hr0.below hb1
  have hb01 := hb0.trans (hb1.mono hb0.size)
  have sz1 := hE1.lt
  obtain ⟨b, hb⟩ : ∃ b, w1.heap.size = b := ⟨_, rfl⟩
  obtain ⟨w2, hw2⟩ : ∃ w2, w1.alloc (.cells #[.slice A m c, .int .i64 0] 65) = w2 := ⟨_, rfl⟩
  have hB2 : Blk w2 b [.slice A m c, .int .i64 0] 65 := by rw [← hw2, ← hb]; exact Blk.new w1 [.slice A m c, .int .i64 0] _
  have hb12 : Below w1.heap.size w1 w2 := by rw [← hw2]; exact (Below.refl _ _).alloc (Nat.le_refl _) _
  have hR2 := hR1.below hb12
  have hE2 := hE1.below hb12
  have hr2 := hr1.below hb12
  have hb02 := hb01.trans (hb12.mono hb01.size)
  have Hw2 := hide hw2
  clear hw2
  go_wp2_with fail
  rw [Hw2.out]
  go_fit (HO.out b w2 hB2 hr2 (by omega))
  rintro e w3 ⟨rfl, hb3⟩
  have hR3 := hR2.lo hb3 (by omega)
  have hE3 := hE2.lo hb3 (by omega)
  have hb03 := hb02.trans (hb3.mono (by omega))
  refine leaves_cons (f := 45) (args := #[.pointer (some ⟨g + 1, 0, none⟩)]) (by simp) (by simp [go_sem]) ?_
  refine (rsrecov ⟨g + 1, 0, none⟩ x 0 _ (hE3.cell (j := 0) rfl) (hE3.frozen 0) hE3.lt).mono ?_
  rintro e u w6 ⟨rfl, rfl, rfl⟩
  have hR6 := (hR3.drew.alloc (.cells #[.int .i64 x] 80)).apart (k := g + 1) (by omega) 0 (.int .i64 x)
  have hE6 := (hE3.drew.alloc (.cells #[.int .i64 x] 80)).set 0 (.int .i64 x)
  refine ⟨_, results_cie rfl rfl rfl hR6 Try.underlying30 rfl (by kernel_rfl) (hE6.cell (j := 0) rfl) Try.underlying31, rfl, ?_⟩
  exact (hb03.drew.alloc (by have := hR3.lt; simp [hg]; omega) _).setCell (by show w.heap.size ≤ g + 1; omega) _

end Go.Proofs.Ytabglphiafeheaa
