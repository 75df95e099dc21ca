/- Stage 24: copies of groups and results (out of stages 6 and 7). -/
import Derived.Test.YtlcbelmbonaooaaTyP
import Derived.Test.YtlcbelmbonaooaaSup18
namespace Go.Proofs.Ytlcbelmbonaooaa
set_option maxRecDepth 20000
open Go.RowKit Go.Px Go.Maps
set_option linter.unusedVariables false
set_option maxHeartbeats 800000 in
theorem cloneR_any (k : Nat) (A : Option Addr) (d dc : Nat) (bs : List UInt8) (w : World) (hd : bs.length = d) (hd8 : d ≤ 262144) (hr : Rd w A (bys bs)) :
    Calls Try.prog 48 #[resv k A d dc] w fun e w' => ∃ A' c, e = .returned (resv k A' d c) ∧ d ≤ c ∧ c ≤ 9223372036854775807 ∧ Rd w' A' (bys bs) ∧ (∀ a, A' = some a → w.heap.size ≤ a.block) ∧ Below w.heap.size w w' := by
  obtain ⟨g, hg⟩ : ∃ g, w.heap.size = g := ⟨_, rfl⟩
  obtain ⟨w0, hw0⟩ : ∃ x, (w.alloc (.cells #[.int .u8 k, .slice A d dc] 49)).alloc (.cells #[.int .u8 0, .slice none 0 0] 49) = x := ⟨_, rfl⟩
  have hP : Blk w0 g [.int .u8 k, .slice A d dc] 49 := by rw [← hw0, ← hg]; exact (Blk.new w [.int .u8 k, .slice A d dc] _).alloc _
  have hZ : Blk w0 (g + 1) [.int .u8 0, .slice none 0 0] 49 := by
    rw [← hw0, ← hg]
    have := Blk.new (w.alloc (.cells #[.int .u8 k, .slice A d dc] 49)) [.int .u8 0, .slice none 0 0] 49
    rwa [World.size_alloc] at this
  have hb0 : Below w.heap.size w w0 := by rw [← hw0]; exact ((Below.refl _ _).alloc (Nat.le_refl _) _).alloc (by simp) _
  have x1 := hP.cell (j := 1) rfl
  have Hd := hide hd
  have hr0 := hr.below hb0
  have zl := hZ.lt
  clear hd
  go_enter Try.func48, Try.ntmps48
  go_wp2_with fail
  first | rw [hw0] | skip
  go_fit (clone_any A d dc bs w0 Hd.out (by omega) hr0)
  rintro x w1 ⟨u, rfl, ho, hb1⟩
  obtain ⟨A1, c1, rfl, _, hc1, hcm1, hr1, ha1⟩ := own_out ho
  have hP1 := hP.below hb1
  have hZ1 := hZ.below hb1
  have szz := hb0.size
  have szy := hb1.size
  clear x1
  have x0 := hP1.cell (j := 0) rfl
  have x1 := hP1.cell (j := 1) rfl
  have f1 := hP1.frozen 1
  have z0 := hZ1.cell (j := 0) rfl
  have z1 := hZ1.cell (j := 1) rfl
  have fz0 := hZ1.frozen 0
  have fz1 := hZ1.frozen 1
  have hP2 := hP1.set 1 (.slice A1 d c1)
  have hZ2 := hZ1.apart (k := g) (by omega) 1 (.slice A1 d c1)
  have y0 := hP2.cell (j := 0) rfl
  have y1 := hP2.cell (j := 1) rfl
  have v0 := hZ2.cell (j := 0) rfl
  have v1 := hZ2.cell (j := 1) rfl
  have fv0 := hZ2.frozen 0
  have fv1 := hZ2.frozen 1
  go_wp2
  refine bodyPost_ret (results_cell rfl rfl ((hZ2.set 0 (.int .u8 k)).set 1 (.slice A1 d c1)) Try.underlying49 rfl (by kernel_rfl)) rfl ?_
  refine ⟨A1, c1, rfl, hc1, by unfold maxLen at hcm1; omega, ?_, fun a ha => by have := ha1 a ha; omega, (((hb0.trans (hb1.mono hb0.size)).setCell (leBk (by omega)) _).setCell (leBk (by omega)) _).setCell (leBk (by omega)) _⟩
  exact ((hr1.upset (fun a ha => (ha1 a ha).1) (by omega)).upset (fun a ha => (ha1 a ha).1) (by omega)).upset (fun a ha => (ha1 a ha).1) (by omega)

set_option maxHeartbeats 800000 in
theorem cloneG_any (e : Int) (A : Option Addr) (n c : Nat) (ms : List Int) (w : World) (hn : ms.length = n) (h8 : n ≤ 1099511627776) (hr : Rd w A (ints ms)) :
    Calls Try.prog 50 #[grp e A n c] w fun x w' => ∃ A' c', x = .returned (grp e A' n c') ∧ n ≤ c' ∧ c' ≤ 9223372036854775807 ∧ Rd w' A' (ints ms) ∧ (∀ a, A' = some a → w.heap.size ≤ a.block) ∧ Below w.heap.size w w' := by
  obtain ⟨g, hg⟩ : ∃ g, w.heap.size = g := ⟨_, rfl⟩
  obtain ⟨w0, hw0⟩ : ∃ x, (w.alloc (.cells #[.int .i64 e, .slice A n c] 24)).alloc (.cells #[.int .i64 0, .slice none 0 0] 24) = x := ⟨_, rfl⟩
  have hP : Blk w0 g [.int .i64 e, .slice A n c] 24 := by rw [← hw0, ← hg]; exact (Blk.new w [.int .i64 e, .slice A n c] _).alloc _
  have hZ : Blk w0 (g + 1) [.int .i64 0, .slice none 0 0] 24 := by
    rw [← hw0, ← hg]
    have := Blk.new (w.alloc (.cells #[.int .i64 e, .slice A n c] 24)) [.int .i64 0, .slice none 0 0] 24
    rwa [World.size_alloc] at this
  have hb0 : Below w.heap.size w w0 := by rw [← hw0]; exact ((Below.refl _ _).alloc (Nat.le_refl _) _).alloc (by simp) _
  have x1 := hP.cell (j := 1) rfl
  have Hn := hide hn
  have hr0 := hr.below hb0
  have zl := hZ.lt
  clear hn
  go_enter Try.func50, Try.ntmps50
  go_wp2_with fail
  first | rw [hw0] | skip
  go_fit (iclone_any A n c ms w0 Hn.out h8 hr0)
  rintro x w1 ⟨u, rfl, ho, hb1⟩
  obtain ⟨A1, c1, rfl, _, hc1, hcm1, hr1, ha1⟩ := own_out ho
  have hP1 := hP.below hb1
  have hZ1 := hZ.below hb1
  have szz := hb0.size
  have szy := hb1.size
  clear x1
  have x0 := hP1.cell (j := 0) rfl
  have x1 := hP1.cell (j := 1) rfl
  have f1 := hP1.frozen 1
  have z0 := hZ1.cell (j := 0) rfl
  have z1 := hZ1.cell (j := 1) rfl
  have fz0 := hZ1.frozen 0
  have fz1 := hZ1.frozen 1
  have hP2 := hP1.set 1 (.slice A1 n c1)
  have hZ2 := hZ1.apart (k := g) (by omega) 1 (.slice A1 n c1)
  have y0 := hP2.cell (j := 0) rfl
  have y1 := hP2.cell (j := 1) rfl
  have v0 := hZ2.cell (j := 0) rfl
  have v1 := hZ2.cell (j := 1) rfl
  have fv0 := hZ2.frozen 0
  have fv1 := hZ2.frozen 1
  go_wp2
  refine bodyPost_ret (results_cell rfl rfl ((hZ2.set 0 (.int .i64 e)).set 1 (.slice A1 n c1)) Try.underlying24 rfl (by kernel_rfl)) rfl ?_
  refine ⟨A1, c1, rfl, hc1, by unfold maxLen at hcm1; omega, ?_, fun a ha => by have := ha1 a ha; omega, (((hb0.trans (hb1.mono hb0.size)).setCell (leBk (by omega)) _).setCell (leBk (by omega)) _).setCell (leBk (by omega)) _⟩
  exact ((hr1.upset (fun a ha => (ha1 a ha).1) (by omega)).upset (fun a ha => (ha1 a ha).1) (by omega)).upset (fun a ha => (ha1 a ha).1) (by omega)
end Go.Proofs.Ytlcbelmbonaooaa
