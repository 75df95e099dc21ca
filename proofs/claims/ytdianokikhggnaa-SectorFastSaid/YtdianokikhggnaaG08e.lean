/- Laws 8: step, what draws. -/
import Derived.Test.YtdianokikhggnaaG08d
namespace Go.Proofs.Ytdianokikhggnaa
set_option maxRecDepth 20000
open Go.RowKit Go.Px Go.Maps
set_option linter.unusedVariables false
section
variable {w w' w1 w2 : World} {t f lm bm t2 f2 : Nat} {cs cs' : List Value} {d d' : Dk}
set_option maxHeartbeats 1600000 in
/-- Bad of both. -/
theorem step08_6 (h : Both w t f lm bm t2 f2 d) (i n torn cut : Int) (A K : Option Addr) (m c kn kc : Nat) (hi1 : -9223372036854775808 ≤ i) (hi2 : i ≤ 9223372036854775807) :
    Calls Try.prog 10 #[.pointer (some ⟨t, 0, none⟩), .pointer (some ⟨t2, 0, none⟩), .agg #[.int .i64 6, .int .i64 i, .int .i64 n, .slice A m c, .slice K kn kc, .int .i64 torn, .int .i64 cut]] w fun e w' => e = .returned (.bool true) ∧ Both w' t f lm bm t2 f2 (d.badD i) ∧ Fr (Six t f lm bm t2 f2) w w' := by
  obtain ⟨w0, hw0⟩ : ∃ y, w.alloc (.cells #[.int .i64 6, .int .i64 i, .int .i64 n, .slice A m c, .slice K kn kc, .int .i64 torn, .int .i64 cut] 34) = y := ⟨_, rfl⟩
  obtain ⟨g, hg⟩ : ∃ g, w.heap.size = g := ⟨_, rfl⟩
  have hG : Blk w0 g [.int .i64 6, .int .i64 i, .int .i64 n, .slice A m c, .slice K kn kc, .int .i64 torn, .int .i64 cut] 34 := by rw [← hw0, ← hg]; exact Blk.new w _ _
  have hb0 : Below w.heap.size w w0 := by rw [← hw0]; exact (Below.refl _ _).alloc (Nat.le_refl _) _
  have h0 := h.below hb0
  have hsix : ¬ Six t f lm bm t2 f2 g := fun hx => by
    have := h.new g (by omega)
    rcases hx with hx | hx
    · exact this.1 hx
    · exact this.2 hx
  have g0 := hG.cell (j := 0) rfl
  have g1 := hG.cell (j := 1) rfl
  have g3 := hG.cell (j := 3) rfl
  have hbd : Below w0.heap.size w0 w0.drew := (Below.refl _ _).drew
  have hd := h0.below hbd
  have hGd := hG.below hbd
  have HA := hide (bad08_any hd.a i hi1 hi2)
  have H0 := hide hd
  have Hw0 := hide hw0
  have Hg := hide hg
  have HF0 := hide (Fr.of_below (X := Six t f lm bm t2 f2) (hb0.drew))
  have HG := hide hGd
  clear h h0 hd hw0 hg hG hGd hb0 hbd
  go_enter Try.func10, Try.ntmps10
  go_wp2_with fail
  try rw [Hw0.out]
  try rw [Hg.out]
  go_wp2_with fail
  have hS0 : w0.drew.cell? ⟨g, 1, none⟩ = some (.int .i64 i) := HG.out.cell (j := 1) rfl
  refine wp_region_held_drew (S := fun Z => Z.cell? ⟨g, 1, none⟩ = some (.int .i64 i)) (by kernel_rfl) hS0 (fun _ => ?_)
  refine wpAnyH_take (fuel := 9) (i := 0) (v := .pointer (some ⟨t, 0, none⟩)) rfl (by kernel_rfl) (by kernel_rfl) (by kernel_rfl) (fun _ _ _ h => h) (Or.inl ⟨by rfl, fun Z hZ => ?_⟩) hS0 ?_
  · have z1 := hZ
    go_simp
  refine wpAnyH_take (fuel := 8) (i := 1) (v := .pointer (some ⟨g, 1, none⟩)) rfl (by kernel_rfl) (by kernel_rfl) (by kernel_rfl) (fun _ _ _ h => h) (Or.inl ⟨by rfl, fun Z hZ => ?_⟩) hS0 ?_
  · have z1 := hZ
    go_simp
  refine wpAnyH_take (fuel := 7) (i := 2) (v := .int .i64 i) rfl (by kernel_rfl) (by kernel_rfl) (by kernel_rfl) (fun _ _ _ h => h) (Or.inl ⟨by rfl, fun Z hZ => ?_⟩) hS0 ?_
  · have z1 := hZ
    go_simp
  refine wpAnyH_take (fuel := 6) (i := 4) (v := .pointer (some ⟨t2, 0, none⟩)) rfl (by kernel_rfl) (by kernel_rfl) (by kernel_rfl) (fun _ _ _ h => h) (Or.inl ⟨by rfl, fun Z hZ => ?_⟩) hS0 ?_
  · have z1 := hZ
    go_simp
  refine wpAnyH_take (fuel := 5) (i := 5) (v := .pointer (some ⟨g, 1, none⟩)) rfl (by kernel_rfl) (by kernel_rfl) (by kernel_rfl) (fun _ _ _ h => h) (Or.inl ⟨by rfl, fun Z hZ => ?_⟩) hS0 ?_
  · have z1 := hZ
    go_simp
  refine wpAnyH_take (fuel := 4) (i := 6) (v := .int .i64 i) rfl (by kernel_rfl) (by kernel_rfl) (by kernel_rfl) (fun _ _ _ h => h) (Or.inl ⟨by rfl, fun Z hZ => ?_⟩) hS0 ?_
  · have z1 := hZ
    go_simp
  refine all_one (fuel := 3) (i := 3) (by kernel_rfl) rfl rfl (fun Kk hK => ?_)
  go_simp
  go_fit HA.out
  rintro x w1 ⟨rfl, hD1, hF1⟩
  have hG1 := HG.out.fr hF1 (fun hx => hsix (.inl hx))
  have hS1 : w1.cell? ⟨g, 1, none⟩ = some (.int .i64 i) := hG1.cell (j := 1) rfl
  obtain ⟨cs, hc⟩ := H0.out.b
  have HR := hide (rbad08_any (H0.out.left hc hF1) i hi1 hi2)
  have HD := hide (And.intro hD1 hF1)
  clear hc hD1 hF1 HA
  refine hK _ _ ⟨hS1, ?_⟩
  clear hK Kk
  refine all_one (fuel := 2) (i := 7) (by kernel_rfl) rfl rfl (fun Kk hK => ?_)
  go_simp
  go_fit HR.out
  rintro x w2 ⟨rfl, hR2, hF2, _⟩
  have hG2 := hG1.fr hF2 (fun hx => hsix (.inr hx))
  have hS2 : w2.cell? ⟨g, 1, none⟩ = some (.int .i64 i) := hG2.cell (j := 1) rfl
  have HN := hide (H0.out.next HD.out.1 HD.out.2 hR2 hF2)
  clear hR2 hF2 HR hG1 hG2
  refine hK _ _ ⟨hS2, ?_⟩
  clear hK Kk
  refine all_one (fuel := 1) (i := 8) (by kernel_rfl) rfl rfl (fun Kk hK => ?_)
  go_simp
  refine hK _ _ ⟨hS2, ?_⟩
  clear hK Kk
  refine all_one (fuel := 0) (i := 9) (by kernel_rfl) rfl rfl (fun Kk hK => ?_)
  go_simp
  refine hK _ _ ⟨hS2, ?_⟩
  clear hK Kk
  refine wpAnyH_done (by kernel_rfl) ?_ _
  go_wp2
  go_ret
  exact ⟨by simp, HN.out.1, HF0.out.trans HN.out.2⟩
set_option maxHeartbeats 1600000 in
/-- Write of both. -/
theorem step08_2 (h : Both w t f lm bm t2 f2 d) (i n torn cut : Int) (A K : Option Addr) (m c kn kc : Nat) (b : List UInt8) (hi1 : -9223372036854775808 ≤ i) (hi2 : i ≤ 9223372036854775807) (hm : b.length = m) (hmc : m ≤ c) (hc63 : c ≤ 9223372036854775807) (hrb : Rd w A (bys b)) (hA : bys b ≠ [] → ∀ a, A = some a → Free t f lm bm t2 f2 a.block) :
    Calls Try.prog 10 #[.pointer (some ⟨t, 0, none⟩), .pointer (some ⟨t2, 0, none⟩), .agg #[.int .i64 2, .int .i64 i, .int .i64 n, .slice A m c, .slice K kn kc, .int .i64 torn, .int .i64 cut]] w fun e w' => e = .returned (.bool true) ∧ Both w' t f lm bm t2 f2 (d.write i b) ∧ Fr (Six t f lm bm t2 f2) w w' := by
  obtain ⟨w0, hw0⟩ : ∃ y, w.alloc (.cells #[.int .i64 2, .int .i64 i, .int .i64 n, .slice A m c, .slice K kn kc, .int .i64 torn, .int .i64 cut] 34) = y := ⟨_, rfl⟩
  obtain ⟨g, hg⟩ : ∃ g, w.heap.size = g := ⟨_, rfl⟩
  have hG : Blk w0 g [.int .i64 2, .int .i64 i, .int .i64 n, .slice A m c, .slice K kn kc, .int .i64 torn, .int .i64 cut] 34 := by rw [← hw0, ← hg]; exact Blk.new w _ _
  have hb0 : Below w.heap.size w w0 := by rw [← hw0]; exact (Below.refl _ _).alloc (Nat.le_refl _) _
  have h0 := h.below hb0
  have hsix : ¬ Six t f lm bm t2 f2 g := fun hx => by
    have := h.new g (by omega)
    rcases hx with hx | hx
    · exact this.1 hx
    · exact this.2 hx
  have g0 := hG.cell (j := 0) rfl
  have g1 := hG.cell (j := 1) rfl
  have g3 := hG.cell (j := 3) rfl
  have hbd : Below w0.heap.size w0 w0.drew := (Below.refl _ _).drew
  have hd := h0.below hbd
  have hGd := hG.below hbd
  have hrd := (hrb.below hb0).below hbd
  have HQ := hide hd.new
  have HAA := hide hA
  have HA := hide (write08_any hd.a hd.new i A m c b hi1 hi2 hm hmc hc63 hrd (fun hne a ha => (hA hne a ha).1))
  have H0 := hide hd
  have Hw0 := hide hw0
  have Hg := hide hg
  have HF0 := hide (Fr.of_below (X := Six t f lm bm t2 f2) (hb0.drew))
  have HG := hide hGd
  clear h h0 hd hw0 hg hG hGd hb0 hbd
  go_enter Try.func10, Try.ntmps10
  go_wp2_with fail
  try rw [Hw0.out]
  try rw [Hg.out]
  go_wp2_with fail
  have hS0 : w0.drew.cell? ⟨g, 1, none⟩ = some (.int .i64 i) ∧ w0.drew.cell? ⟨g, 3, none⟩ = some (.slice A m c) := ⟨HG.out.cell (j := 1) rfl, HG.out.cell (j := 3) rfl⟩
  refine wp_region_held_drew (S := fun Z => Z.cell? ⟨g, 1, none⟩ = some (.int .i64 i) ∧ Z.cell? ⟨g, 3, none⟩ = some (.slice A m c)) (by kernel_rfl) hS0 (fun _ => ?_)
  refine wpAnyH_take (fuel := 13) (i := 0) (v := .pointer (some ⟨t, 0, none⟩)) rfl (by kernel_rfl) (by kernel_rfl) (by kernel_rfl) (fun _ _ _ h => h) (Or.inl ⟨by rfl, fun Z hZ => ?_⟩) hS0 ?_
  · obtain ⟨z1, z2⟩ := hZ
    go_simp
  refine wpAnyH_take (fuel := 12) (i := 1) (v := .pointer (some ⟨g, 1, none⟩)) rfl (by kernel_rfl) (by kernel_rfl) (by kernel_rfl) (fun _ _ _ h => h) (Or.inl ⟨by rfl, fun Z hZ => ?_⟩) hS0 ?_
  · obtain ⟨z1, z2⟩ := hZ
    go_simp
  refine wpAnyH_take (fuel := 11) (i := 2) (v := .int .i64 i) rfl (by kernel_rfl) (by kernel_rfl) (by kernel_rfl) (fun _ _ _ h => h) (Or.inl ⟨by rfl, fun Z hZ => ?_⟩) hS0 ?_
  · obtain ⟨z1, z2⟩ := hZ
    go_simp
  refine wpAnyH_take (fuel := 10) (i := 3) (v := .pointer (some ⟨g, 3, none⟩)) rfl (by kernel_rfl) (by kernel_rfl) (by kernel_rfl) (fun _ _ _ h => h) (Or.inl ⟨by rfl, fun Z hZ => ?_⟩) hS0 ?_
  · obtain ⟨z1, z2⟩ := hZ
    go_simp
  refine wpAnyH_take (fuel := 9) (i := 4) (v := .slice A m c) rfl (by kernel_rfl) (by kernel_rfl) (by kernel_rfl) (fun _ _ _ h => h) (Or.inl ⟨by rfl, fun Z hZ => ?_⟩) hS0 ?_
  · obtain ⟨z1, z2⟩ := hZ
    go_simp
  refine wpAnyH_take (fuel := 8) (i := 6) (v := .pointer (some ⟨t2, 0, none⟩)) rfl (by kernel_rfl) (by kernel_rfl) (by kernel_rfl) (fun _ _ _ h => h) (Or.inl ⟨by rfl, fun Z hZ => ?_⟩) hS0 ?_
  · obtain ⟨z1, z2⟩ := hZ
    go_simp
  refine wpAnyH_take (fuel := 7) (i := 7) (v := .pointer (some ⟨g, 1, none⟩)) rfl (by kernel_rfl) (by kernel_rfl) (by kernel_rfl) (fun _ _ _ h => h) (Or.inl ⟨by rfl, fun Z hZ => ?_⟩) hS0 ?_
  · obtain ⟨z1, z2⟩ := hZ
    go_simp
  refine wpAnyH_take (fuel := 6) (i := 8) (v := .int .i64 i) rfl (by kernel_rfl) (by kernel_rfl) (by kernel_rfl) (fun _ _ _ h => h) (Or.inl ⟨by rfl, fun Z hZ => ?_⟩) hS0 ?_
  · obtain ⟨z1, z2⟩ := hZ
    go_simp
  refine wpAnyH_take (fuel := 5) (i := 9) (v := .pointer (some ⟨g, 3, none⟩)) rfl (by kernel_rfl) (by kernel_rfl) (by kernel_rfl) (fun _ _ _ h => h) (Or.inl ⟨by rfl, fun Z hZ => ?_⟩) hS0 ?_
  · obtain ⟨z1, z2⟩ := hZ
    go_simp
  refine wpAnyH_take (fuel := 4) (i := 10) (v := .slice A m c) rfl (by kernel_rfl) (by kernel_rfl) (by kernel_rfl) (fun _ _ _ h => h) (Or.inl ⟨by rfl, fun Z hZ => ?_⟩) hS0 ?_
  · obtain ⟨z1, z2⟩ := hZ
    go_simp
  refine all_one (fuel := 3) (i := 5) (by kernel_rfl) rfl rfl (fun Kk hK => ?_)
  go_simp
  go_fit HA.out
  rintro x w1 ⟨rfl, hD1, hF1⟩
  have hG1 := HG.out.fr hF1 (fun hx => hsix (.inl hx))
  have hS1 : w1.cell? ⟨g, 1, none⟩ = some (.int .i64 i) ∧ w1.cell? ⟨g, 3, none⟩ = some (.slice A m c) := ⟨hG1.cell (j := 1) rfl, hG1.cell (j := 3) rfl⟩
  obtain ⟨cs, hc⟩ := H0.out.b
  have HR := hide (rwrite08_any (H0.out.left hc hF1) (fun b hb => HQ.out b (by have := hF1.size; omega)) i A m c b hi1 hi2 hm hmc hc63 (hrd.fr hF1 (fun hne a ha => (HAA.out hne a ha).1)) (fun hne a ha => (HAA.out hne a ha).2))
  have HD := hide (And.intro hD1 hF1)
  clear hc hD1 hF1 HA
  refine hK _ _ ⟨hS1, ?_⟩
  clear hK Kk
  refine all_one (fuel := 2) (i := 11) (by kernel_rfl) rfl rfl (fun Kk hK => ?_)
  go_simp
  go_fit HR.out
  rintro x w2 ⟨rfl, hR2, hF2⟩
  have hG2 := hG1.fr hF2 (fun hx => hsix (.inr hx))
  have hS2 : w2.cell? ⟨g, 1, none⟩ = some (.int .i64 i) ∧ w2.cell? ⟨g, 3, none⟩ = some (.slice A m c) := ⟨hG2.cell (j := 1) rfl, hG2.cell (j := 3) rfl⟩
  have HN := hide (H0.out.next HD.out.1 HD.out.2 hR2 hF2)
  clear hR2 hF2 HR hG1 hG2
  refine hK _ _ ⟨hS2, ?_⟩
  clear hK Kk
  refine all_one (fuel := 1) (i := 12) (by kernel_rfl) rfl rfl (fun Kk hK => ?_)
  go_simp
  refine hK _ _ ⟨hS2, ?_⟩
  clear hK Kk
  refine all_one (fuel := 0) (i := 13) (by kernel_rfl) rfl rfl (fun Kk hK => ?_)
  go_simp
  refine hK _ _ ⟨hS2, ?_⟩
  clear hK Kk
  refine wpAnyH_done (by kernel_rfl) ?_ _
  go_wp2
  go_ret
  exact ⟨by simp, HN.out.1, HF0.out.trans HN.out.2⟩
set_option maxHeartbeats 1600000 in
/-- Spoil of both. -/
theorem step08_5 (h : Both w t f lm bm t2 f2 d) (i n torn cut : Int) (A K : Option Addr) (m c kn kc : Nat) (b : List UInt8) (hi1 : -9223372036854775808 ≤ i) (hi2 : i ≤ 9223372036854775807) (hm : b.length = m) (hmc : m ≤ c) (hc63 : c ≤ 9223372036854775807) (hrb : Rd w A (bys b)) (hA : bys b ≠ [] → ∀ a, A = some a → Free t f lm bm t2 f2 a.block) :
    Calls Try.prog 10 #[.pointer (some ⟨t, 0, none⟩), .pointer (some ⟨t2, 0, none⟩), .agg #[.int .i64 5, .int .i64 i, .int .i64 n, .slice A m c, .slice K kn kc, .int .i64 torn, .int .i64 cut]] w fun e w' => e = .returned (.bool true) ∧ Both w' t f lm bm t2 f2 (d.spoil i b) ∧ Fr (Six t f lm bm t2 f2) w w' := by
  obtain ⟨w0, hw0⟩ : ∃ y, w.alloc (.cells #[.int .i64 5, .int .i64 i, .int .i64 n, .slice A m c, .slice K kn kc, .int .i64 torn, .int .i64 cut] 34) = y := ⟨_, rfl⟩
  obtain ⟨g, hg⟩ : ∃ g, w.heap.size = g := ⟨_, rfl⟩
  have hG : Blk w0 g [.int .i64 5, .int .i64 i, .int .i64 n, .slice A m c, .slice K kn kc, .int .i64 torn, .int .i64 cut] 34 := by rw [← hw0, ← hg]; exact Blk.new w _ _
  have hb0 : Below w.heap.size w w0 := by rw [← hw0]; exact (Below.refl _ _).alloc (Nat.le_refl _) _
  have h0 := h.below hb0
  have hsix : ¬ Six t f lm bm t2 f2 g := fun hx => by
    have := h.new g (by omega)
    rcases hx with hx | hx
    · exact this.1 hx
    · exact this.2 hx
  have g0 := hG.cell (j := 0) rfl
  have g1 := hG.cell (j := 1) rfl
  have g3 := hG.cell (j := 3) rfl
  have hbd : Below w0.heap.size w0 w0.drew := (Below.refl _ _).drew
  have hd := h0.below hbd
  have hGd := hG.below hbd
  have hrd := (hrb.below hb0).below hbd
  have HQ := hide hd.new
  have HAA := hide hA
  have HA := hide (spoil08_any hd.a hd.new i A m c b hi1 hi2 hm hmc hc63 hrd)
  have H0 := hide hd
  have Hw0 := hide hw0
  have Hg := hide hg
  have HF0 := hide (Fr.of_below (X := Six t f lm bm t2 f2) (hb0.drew))
  have HG := hide hGd
  clear h h0 hd hw0 hg hG hGd hb0 hbd
  go_enter Try.func10, Try.ntmps10
  go_wp2_with fail
  try rw [Hw0.out]
  try rw [Hg.out]
  go_wp2_with fail
  have hS0 : w0.drew.cell? ⟨g, 1, none⟩ = some (.int .i64 i) ∧ w0.drew.cell? ⟨g, 3, none⟩ = some (.slice A m c) := ⟨HG.out.cell (j := 1) rfl, HG.out.cell (j := 3) rfl⟩
  refine wp_region_held_drew (S := fun Z => Z.cell? ⟨g, 1, none⟩ = some (.int .i64 i) ∧ Z.cell? ⟨g, 3, none⟩ = some (.slice A m c)) (by kernel_rfl) hS0 (fun _ => ?_)
  refine wpAnyH_take (fuel := 13) (i := 0) (v := .pointer (some ⟨t, 0, none⟩)) rfl (by kernel_rfl) (by kernel_rfl) (by kernel_rfl) (fun _ _ _ h => h) (Or.inl ⟨by rfl, fun Z hZ => ?_⟩) hS0 ?_
  · obtain ⟨z1, z2⟩ := hZ
    go_simp
  refine wpAnyH_take (fuel := 12) (i := 1) (v := .pointer (some ⟨g, 1, none⟩)) rfl (by kernel_rfl) (by kernel_rfl) (by kernel_rfl) (fun _ _ _ h => h) (Or.inl ⟨by rfl, fun Z hZ => ?_⟩) hS0 ?_
  · obtain ⟨z1, z2⟩ := hZ
    go_simp
  refine wpAnyH_take (fuel := 11) (i := 2) (v := .int .i64 i) rfl (by kernel_rfl) (by kernel_rfl) (by kernel_rfl) (fun _ _ _ h => h) (Or.inl ⟨by rfl, fun Z hZ => ?_⟩) hS0 ?_
  · obtain ⟨z1, z2⟩ := hZ
    go_simp
  refine wpAnyH_take (fuel := 10) (i := 3) (v := .pointer (some ⟨g, 3, none⟩)) rfl (by kernel_rfl) (by kernel_rfl) (by kernel_rfl) (fun _ _ _ h => h) (Or.inl ⟨by rfl, fun Z hZ => ?_⟩) hS0 ?_
  · obtain ⟨z1, z2⟩ := hZ
    go_simp
  refine wpAnyH_take (fuel := 9) (i := 4) (v := .slice A m c) rfl (by kernel_rfl) (by kernel_rfl) (by kernel_rfl) (fun _ _ _ h => h) (Or.inl ⟨by rfl, fun Z hZ => ?_⟩) hS0 ?_
  · obtain ⟨z1, z2⟩ := hZ
    go_simp
  refine wpAnyH_take (fuel := 8) (i := 6) (v := .pointer (some ⟨t2, 0, none⟩)) rfl (by kernel_rfl) (by kernel_rfl) (by kernel_rfl) (fun _ _ _ h => h) (Or.inl ⟨by rfl, fun Z hZ => ?_⟩) hS0 ?_
  · obtain ⟨z1, z2⟩ := hZ
    go_simp
  refine wpAnyH_take (fuel := 7) (i := 7) (v := .pointer (some ⟨g, 1, none⟩)) rfl (by kernel_rfl) (by kernel_rfl) (by kernel_rfl) (fun _ _ _ h => h) (Or.inl ⟨by rfl, fun Z hZ => ?_⟩) hS0 ?_
  · obtain ⟨z1, z2⟩ := hZ
    go_simp
  refine wpAnyH_take (fuel := 6) (i := 8) (v := .int .i64 i) rfl (by kernel_rfl) (by kernel_rfl) (by kernel_rfl) (fun _ _ _ h => h) (Or.inl ⟨by rfl, fun Z hZ => ?_⟩) hS0 ?_
  · obtain ⟨z1, z2⟩ := hZ
    go_simp
  refine wpAnyH_take (fuel := 5) (i := 9) (v := .pointer (some ⟨g, 3, none⟩)) rfl (by kernel_rfl) (by kernel_rfl) (by kernel_rfl) (fun _ _ _ h => h) (Or.inl ⟨by rfl, fun Z hZ => ?_⟩) hS0 ?_
  · obtain ⟨z1, z2⟩ := hZ
    go_simp
  refine wpAnyH_take (fuel := 4) (i := 10) (v := .slice A m c) rfl (by kernel_rfl) (by kernel_rfl) (by kernel_rfl) (fun _ _ _ h => h) (Or.inl ⟨by rfl, fun Z hZ => ?_⟩) hS0 ?_
  · obtain ⟨z1, z2⟩ := hZ
    go_simp
  refine all_one (fuel := 3) (i := 5) (by kernel_rfl) rfl rfl (fun Kk hK => ?_)
  go_simp
  go_fit HA.out
  rintro x w1 ⟨rfl, hD1, hF1⟩
  have hG1 := HG.out.fr hF1 (fun hx => hsix (.inl hx))
  have hS1 : w1.cell? ⟨g, 1, none⟩ = some (.int .i64 i) ∧ w1.cell? ⟨g, 3, none⟩ = some (.slice A m c) := ⟨hG1.cell (j := 1) rfl, hG1.cell (j := 3) rfl⟩
  obtain ⟨cs, hc⟩ := H0.out.b
  have HR := hide (rspoil08_any (H0.out.left hc hF1) (fun b hb => HQ.out b (by have := hF1.size; omega)) i A m c b hi1 hi2 hm hmc hc63 (hrd.fr hF1 (fun hne a ha => (HAA.out hne a ha).1)))
  have HD := hide (And.intro hD1 hF1)
  clear hc hD1 hF1 HA
  refine hK _ _ ⟨hS1, ?_⟩
  clear hK Kk
  refine all_one (fuel := 2) (i := 11) (by kernel_rfl) rfl rfl (fun Kk hK => ?_)
  go_simp
  go_fit HR.out
  rintro x w2 ⟨rfl, hR2, hF2⟩
  have hG2 := hG1.fr hF2 (fun hx => hsix (.inr hx))
  have hS2 : w2.cell? ⟨g, 1, none⟩ = some (.int .i64 i) ∧ w2.cell? ⟨g, 3, none⟩ = some (.slice A m c) := ⟨hG2.cell (j := 1) rfl, hG2.cell (j := 3) rfl⟩
  have HN := hide (H0.out.next HD.out.1 HD.out.2 hR2 hF2)
  clear hR2 hF2 HR hG1 hG2
  refine hK _ _ ⟨hS2, ?_⟩
  clear hK Kk
  refine all_one (fuel := 1) (i := 12) (by kernel_rfl) rfl rfl (fun Kk hK => ?_)
  go_simp
  refine hK _ _ ⟨hS2, ?_⟩
  clear hK Kk
  refine all_one (fuel := 0) (i := 13) (by kernel_rfl) rfl rfl (fun Kk hK => ?_)
  go_simp
  refine hK _ _ ⟨hS2, ?_⟩
  clear hK Kk
  refine wpAnyH_done (by kernel_rfl) ?_ _
  go_wp2
  go_ret
  exact ⟨by simp, HN.out.1, HF0.out.trans HN.out.2⟩
end
end Go.Proofs.Ytdianokikhggnaa
