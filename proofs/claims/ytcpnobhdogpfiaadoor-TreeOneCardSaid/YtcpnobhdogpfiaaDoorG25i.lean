/- Digests of pages, the program's and the document's. -/
import Derived.Test.YtcpnobhdogpfiaaDoorG25h
import Derived.Test.YtcpnobhdogpfiaaDoorF02b
import Derived.Test.YtcpnobhdogpfiaaDoorRnd
import Derived.Deep.DeepFit
import Derived.Deep.RegionHeld
namespace Go.Proofs.YtcpnobhdogpfiaaDoor
set_option maxRecDepth 20000
open Go.RowKit Go.Px
set_option linter.unusedVariables false
theorem brows_two {w : World} {A B : Option Addr} {n c m d : Nat} {xs ys : List UInt8} (h1 : xs.length = n) (h2 : n ≤ c) (h3 : n ≤ 1099511627776) (h4 : c ≤ 9223372036854775807) (h5 : Rd w A (bys xs)) (k1 : ys.length = m) (k2 : m ≤ d) (k3 : m ≤ 1099511627776) (k4 : d ≤ 9223372036854775807) (k5 : Rd w B (bys ys)) : BRows w [.slice A n c, .slice B m d] [xs, ys] :=
  (BRows.nil.snoc h1 h2 h3 h4 h5).snoc k1 k2 k3 k4 k5
/-- A page's digest. -/
def leafN (p v : Int) (bs : List UInt8) : Nat := sumN [flatB 8 ([p, v].map u64N), bs]
set_option maxRecDepth 100000 in
set_option maxHeartbeats 3200000 in
theorem leaf_any (p v : Int) (D : Option Addr) (n c : Nat) (bs : List UInt8) (w : World) (hn : bs.length = n) (hnc : n ≤ c) (hn8 : n ≤ 1099511627776) (hc63 : c ≤ 9223372036854775807) (hr : Rd w D (bys bs)) (ht : Tab w) :
    Calls Tryd.prog 15 #[.agg #[.int .i64 p, .int .i64 v, .slice D n c]] w fun e w' => e = .returned (.int .u32 ((leafN p v bs : Nat) : Int)) ∧ Below w.heap.size w w' := by
  obtain ⟨w0, hw0⟩ : ∃ x, w.alloc (.cells #[.int .i64 p, .int .i64 v, .slice D n c] 24) = x := ⟨_, rfl⟩
  have hb0 : Below w.heap.size w w0 := by rw [← hw0]; exact (Below.refl _ _).alloc (Nat.le_refl _) _
  have B1 : Blk w0 w.heap.size [.int .i64 p, .int .i64 v, .slice D n c] 24 := by rw [← hw0]; exact Blk.new w [.int .i64 p, .int .i64 v, .slice D n c] _
  have hr0 := hr.below hb0
  have ht0 : Tab w0 := Rd.below ht hb0
  have Hw0 := hide hw0
  have HS := hide (fun (Z : World) (hZ : Below w0.heap.size w0 Z) => (show Z.cell? ⟨w.heap.size, 0, none⟩ = some (.int .i64 p) ∧ Z.cell? ⟨w.heap.size, 1, none⟩ = some (.int .i64 v) ∧ Z.cell? ⟨w.heap.size, 2, none⟩ = some (.slice D n c) from ⟨(B1.below hZ).cell (j := 0) rfl, (B1.below hZ).cell (j := 1) rfl, (B1.below hZ).cell (j := 2) rfl⟩))
  have hS0 := HS.out w0.drew (Below.refl _ _).drew
  clear hw0 hr ht B1
  go_enter Tryd.func15, Tryd.ntmps15
  go_wp2_with fail
  rw [Hw0.out]
  refine wp_region_held_drew (S := fun Z => Z.cell? ⟨w.heap.size, 0, none⟩ = some (.int .i64 p) ∧ Z.cell? ⟨w.heap.size, 1, none⟩ = some (.int .i64 v) ∧ Z.cell? ⟨w.heap.size, 2, none⟩ = some (.slice D n c)) (by kernel_rfl) hS0 (fun _ => ?_)
  refine wpAnyH_take (fuel := 10) (i := 0) (v := .pointer (some ⟨w.heap.size, 0, none⟩)) rfl (by kernel_rfl) (by kernel_rfl) (by kernel_rfl) (fun _ _ _ h => h) (Or.inl ⟨by rfl, fun Z hZ => ?_⟩) hS0 ?_
  · obtain ⟨z1, z2, z3⟩ := hZ
    go_simp
  refine wpAnyH_take (i := 1) (v := .int .i64 p) rfl (by kernel_rfl) (by kernel_rfl) (by kernel_rfl) (fun _ _ _ h => h) (Or.inl ⟨by rfl, fun Z hZ => ?_⟩) hS0 ?_
  · obtain ⟨z1, z2, z3⟩ := hZ
    go_simp
  refine wpAnyH_take (i := 2) (v := .pointer (some ⟨w.heap.size, 1, none⟩)) rfl (by kernel_rfl) (by kernel_rfl) (by kernel_rfl) (fun _ _ _ h => h) (Or.inl ⟨by rfl, fun Z hZ => ?_⟩) hS0 ?_
  · obtain ⟨z1, z2, z3⟩ := hZ
    go_simp
  refine wpAnyH_take (i := 3) (v := .int .i64 v) rfl (by kernel_rfl) (by kernel_rfl) (by kernel_rfl) (fun _ _ _ h => h) (Or.inl ⟨by rfl, fun Z hZ => ?_⟩) hS0 ?_
  · obtain ⟨z1, z2, z3⟩ := hZ
    go_simp
  refine wpAnyH_take (i := 6) (v := .pointer (some ⟨w.heap.size, 2, none⟩)) rfl (by kernel_rfl) (by kernel_rfl) (by kernel_rfl) (fun _ _ _ h => h) (Or.inl ⟨by rfl, fun Z hZ => ?_⟩) hS0 ?_
  · obtain ⟨z1, z2, z3⟩ := hZ
    go_simp
  refine wpAnyH_take (i := 7) (v := .slice D n c) rfl (by kernel_rfl) (by kernel_rfl) (by kernel_rfl) (fun _ _ _ h => h) (Or.inl ⟨by rfl, fun Z hZ => ?_⟩) hS0 ?_
  · obtain ⟨z1, z2, z3⟩ := hZ
    go_simp
  obtain ⟨X1, hX1⟩ : ∃ y, w0.drew.alloc (.cells #[.int .i64 p, .int .i64 v] 3) = y := ⟨_, rfl⟩
  have hbX1 : Below w0.heap.size w0 X1 := by rw [← hX1]; exact (Below.refl _ w0).drew.alloc (Nat.le_refl _) _
  have rX1 : Rd X1 (some ⟨w0.heap.size, 0, none⟩) (ints [p, v]) := by rw [← hX1]; exact Rd.newN w0.drew [.int .i64 p, .int .i64 v] 3 (0, 0)
  have HS1 := HS.out X1 hbX1
  refine all_one (fuel := 4) (i := 4) (by kernel_rfl) rfl rfl (fun K hK => ?_)
  go_simp
  try rw [hX1]
  refine hK _ _ ⟨HS1, ?_⟩
  clear hK K
  refine all_one (fuel := 3) (i := 5) (by kernel_rfl) rfl rfl (fun K hK => ?_)
  go_simp
  refine (ints_all (some ⟨w0.heap.size, 0, none⟩) 2 2 [p, v] X1 rfl (by omega) rX1).mono ?_
  rintro e X2 ⟨u, rfl, ho2, hb2⟩
  have hfl : (flatB 8 ([p, v].map u64N)).length = 16 := by rw [flatB_length]; rfl
  rw [hfl] at ho2
  obtain ⟨A5, c5, rfl, _, hc5, hcm5, hr5, _⟩ := own_out ho2
  have hbX2 : Below w0.heap.size w0 X2 := hbX1.trans (hb2.mono hbX1.size)
  have HS2 := HS.out X2 hbX2
  refine hK _ _ ⟨HS2, ?_⟩
  clear hK K
  obtain ⟨X3, hX3⟩ : ∃ y, X2.alloc (.cells #[.slice A5 16 c5, .slice D n c] 22) = y := ⟨_, rfl⟩
  have hb3 : Below X2.heap.size X2 X3 := by rw [← hX3]; exact (Below.refl _ _).alloc (Nat.le_refl _) _
  have rX3 : Rd X3 (some ⟨X2.heap.size, 0, none⟩) [.slice A5 16 c5, .slice D n c] := by rw [← hX3]; exact Rd.newN X2 [.slice A5 16 c5, .slice D n c] 22 (0, 0)
  have hbX3 : Below w0.heap.size w0 X3 := hbX2.trans (hb3.mono hbX2.size)
  have HS3 := HS.out X3 hbX3
  refine all_one (fuel := 2) (i := 8) (by kernel_rfl) rfl rfl (fun K hK => ?_)
  go_simp
  try rw [hX3]
  refine hK _ _ ⟨HS3, ?_⟩
  clear hK K
  refine all_one (fuel := 1) (i := 9) (by kernel_rfl) rfl rfl (fun K hK => ?_)
  go_simp
  refine (sum_any (some ⟨X2.heap.size, 0, none⟩) 2 2 [.slice A5 16 c5, .slice D n c] [flatB 8 ([p, v].map u64N), bs] X3 rfl (by omega) rX3 (brows_two hfl hc5 (by omega) (by unfold maxLen at hcm5; omega) (hr5.below hb3) hn hnc hn8 hc63 (hr0.below hbX3)) (Rd.below ht0 hbX3)).mono ?_
  rintro e X4 ⟨rfl, rfl⟩
  refine hK _ _ ⟨HS3, ?_⟩
  clear hK K
  refine all_one (fuel := 0) (i := 10) (by kernel_rfl) rfl rfl (fun K hK => ?_)
  go_simp
  refine hK _ _ ⟨HS3, ?_⟩
  clear hK K
  refine wpAnyH_done (by kernel_rfl) ?_ _
  go_wp2
  go_ret
  exact ⟨rfl, hb0.trans (hbX3.mono hb0.size)⟩
set_option maxHeartbeats 3200000 in
theorem rleaf_any (p v : Int) (D : Option Addr) (n c : Nat) (bs : List UInt8) (w : World) (hn : bs.length = n) (hnc : n ≤ c) (hn8 : n ≤ 1099511627776) (hc63 : c ≤ 9223372036854775807) (hr : Rd w D (bys bs)) :
    Calls Tryd.prog 16 #[.agg #[.int .i64 p, .int .i64 v, .slice D n c]] w fun e w' => e = .returned (.int .u32 ((leafN p v bs : Nat) : Int)) ∧ Below w.heap.size w w' := by
  obtain ⟨w0, hw0⟩ : ∃ x, w.alloc (.cells #[.int .i64 p, .int .i64 v, .slice D n c] 24) = x := ⟨_, rfl⟩
  have hb0 : Below w.heap.size w w0 := by rw [← hw0]; exact (Below.refl _ _).alloc (Nat.le_refl _) _
  have B1 : Blk w0 w.heap.size [.int .i64 p, .int .i64 v, .slice D n c] 24 := by rw [← hw0]; exact Blk.new w [.int .i64 p, .int .i64 v, .slice D n c] _
  have hr0 := hr.below hb0
  have hU1 := u64N_wrap p
  have hU2 := u64N_wrap v
  have hl1 := u64N_lt p
  have hl2 := u64N_lt v
  have hleaf : leafN p v bs = sumN [flatB 8 [u64N p, u64N v], bs] := rfl
  obtain ⟨a, ha⟩ : ∃ y, u64N p = y := ⟨_, rfl⟩
  obtain ⟨b, hb⟩ : ∃ y, u64N v = y := ⟨_, rfl⟩
  rw [ha] at hU1 hl1 hleaf
  rw [hb] at hU2 hl2 hleaf
  have d0 := B1.cell (j := 0) rfl
  have d1 := B1.cell (j := 1) rfl
  obtain ⟨X1, hX1⟩ : ∃ y, w0.alloc (.cells #[.int .u64 (a : Int), .int .u64 (b : Int)] 84) = y := ⟨_, rfl⟩
  have hbX1 : Below w0.heap.size w0 X1 := by rw [← hX1]; exact (Below.refl _ w0).alloc (Nat.le_refl _) _
  have rX1 : Rd X1 (some ⟨w0.heap.size, 0, none⟩) (u64s [a, b]) := by rw [← hX1]; exact Rd.newN w0 [.int .u64 (a : Int), .int .u64 (b : Int)] 84 (0, 0)
  have z0 : w0.heap.size = w.heap.size + 1 := by rw [← hw0]; simp
  rw [z0] at rX1
  have Hw0 := hide hw0
  have HX1 := hide hX1
  have Hleaf := hide hleaf
  have HB1 := hide B1
  clear hw0 hr ha hb hX1 hleaf B1 z0
  go_enter Tryd.func16, Tryd.ntmps16
  go_wp2_with fail
  rw [Hw0.out]
  rw [HX1.out]
  go_fit (rputall8 (some ⟨w.heap.size + 1, 0, none⟩) 2 2 [a, b] X1 rfl (by omega) rX1 (by intro y hy; simp at hy; rcases hy with rfl | rfl <;> omega))
  rintro e X2 ⟨u, rfl, ho2, hb2⟩
  have hfl : (flatB 8 [a, b]).length = 16 := by rw [flatB_length]; rfl
  obtain ⟨A5, c5, rfl, _, hc5, hcm5, hr5, _⟩ := own_out ho2
  have hbX2 : Below w0.heap.size w0 X2 := hbX1.trans (hb2.mono hbX1.size)
  have d2 := (HB1.out.below hbX2).cell (j := 2) rfl
  obtain ⟨X3, hX3⟩ : ∃ y, X2.alloc (.cells #[.slice A5 16 c5, .slice D n c] 22) = y := ⟨_, rfl⟩
  have hb3 : Below X2.heap.size X2 X3 := by rw [← hX3]; exact (Below.refl _ _).alloc (Nat.le_refl _) _
  have rX3 : Rd X3 (some ⟨X2.heap.size, 0, none⟩) [.slice A5 16 c5, .slice D n c] := by rw [← hX3]; exact Rd.newN X2 [.slice A5 16 c5, .slice D n c] 22 (0, 0)
  have hbX3 : Below w0.heap.size w0 X3 := hbX2.trans (hb3.mono hbX2.size)
  have HX3 := hide hX3
  have HSU := hide (rsum_any (some ⟨X2.heap.size, 0, none⟩) 2 2 [.slice A5 16 c5, .slice D n c] [flatB 8 [a, b], bs] X3 rfl (by omega) rX3 (brows_two hfl hc5 (by omega) (by unfold maxLen at hcm5; omega) (hr5.below hb3) hn hnc hn8 hc63 (hr0.below hbX3)))
  clear hX3 d0 d1 ho2 hr5 rX3 rX1
  go_wp2_with fail
  rw [HX3.out]
  go_fit HSU.out
  rintro e X4 ⟨rfl, rfl⟩
  go_wp2
  go_ret
  exact ⟨by rw [Hleaf.out]; rfl, hb0.trans (hbX3.mono hb0.size)⟩
end Go.Proofs.YtcpnobhdogpfiaaDoor
