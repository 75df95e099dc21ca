/- volume.Load, plinthref05.Load, begin: of any pages (written by gen_g5f.py). -/
import Derived.Test.YtjilkaciopiabaaDoorG05e
import Derived.Test.YtjilkaciopiabaaDoorG05a
import Derived.Test.YtjilkaciopiabaaDoorF05j
namespace Go.Proofs.YtjilkaciopiabaaDoor
open Go.RowKit Go.Px
set_option linter.unusedVariables false
theorem lay_none (v : Nat) (A : Option Addr) (c : Nat) (w : World) : Calls Tryd.prog 33 #[.pointer (some ⟨v, 0, none⟩), .slice A 0 c] w fun e w' => e = .returned (.tuple #[]) ∧ w = w' := by
  go_enter Tryd.func33, Tryd.ntmps33
  go_wp2
  refine wp_loop_rounds 1 ?_
  rw [rounds_succ]
  go_wp2
  go_end0
  exact ⟨rfl, rfl⟩
theorem lay_any2 (w : World) (v r s b z N : Nat) (bs : List UInt8) (vs : List Int) (last : Int) (A : Option Addr) (n c : Nat) (cs : List Value) (ps : List (Int × Int × List UInt8)) (h : VolIs w v r s b z N bs vs last) (hn : ps.length = n) (hnc : n ≤ c) (hc : c ≤ 9223372036854775807)
    (hr : Rd w A cs) (hA : ps ≠ [] → ∀ a, A = some a → a.block ≠ v ∧ a.block ≠ r ∧ a.block ≠ s) (hP : PgRows w (fun B => B ≠ v ∧ B ≠ r ∧ B ≠ s) cs ps) (hg : Good b z ps) :
    Calls Tryd.prog 33 #[.pointer (some ⟨v, 0, none⟩), .slice A n c] w fun e w' => e = .returned (.tuple #[]) ∧ VolIs w' v r s b z N (layB z bs ps) (layV vs ps) (layL last ps) ∧ Upd v r s w w' := by
  by_cases hp : ps = []
  · subst hp
    obtain rfl : n = 0 := by simpa using hn.symm
    refine (lay_none v A c w).mono ?_
    rintro x w' ⟨rfl, rfl⟩
    exact ⟨rfl, h, Upd.of_below (Below.refl _ _)⟩
  · exact lay_any w v r s b z N bs vs last A n c cs ps h hn hnc hc hr (hA hp) hP hg
set_option maxHeartbeats 1600000 in
theorem load_badE (b z : Int) (w : World) (A : Option Addr) (n c : Nat) (hE : shE b z ≠ 0) : Calls Tryd.prog 19 #[shp b z, .slice A n c] w fun e w' => e = .returned (.tuple #[.pointer none, .int .i64 (shE b z)]) ∧ Below w.heap.size w w' := by
  obtain ⟨w0, hw0⟩ : ∃ w0, w.alloc (.cells #[.int .i64 b, .int .i64 z] 23) = w0 := ⟨_, rfl⟩
  obtain ⟨g, hg⟩ : ∃ g, w.heap.size = g := ⟨_, rfl⟩
  have hS : Blk w0 g [.int .i64 b, .int .i64 z] 23 := by rw [← hw0, ← hg]; exact Blk.new w [.int .i64 b, .int .i64 z] _
  have hb0 : Below w.heap.size w w0 := by rw [← hw0]; exact (Below.refl _ _).alloc (Nat.le_refl _) _
  have x0 := hS.cell (j := 0) rfl
  have x1 := hS.cell (j := 1) rfl
  obtain ⟨E, hEE⟩ : ∃ E, shE b z = E := ⟨_, rfl⟩
  rw [hEE] at hE
  have HE := hide hEE
  have q1 : (E != 0) = true := by simpa using hE
  clear hEE hE
  go_enter Tryd.func19, Tryd.ntmps19
  go_wp2_with fail
  go_fit (shape_any b z w0)
  rw [HE.out]
  rintro x w1 ⟨rfl, hb1⟩
  go_wp2
  go_ret2
  exact ⟨by rw [HE.out]; rfl, hb0.trans (hb1.mono hb0.size)⟩
set_option maxHeartbeats 1600000 in
theorem rload_badE (b z : Int) (w : World) (A : Option Addr) (n c : Nat) (hE : shE b z ≠ 0) : Calls Tryd.prog 20 #[shp b z, .slice A n c] w fun e w' => e = .returned (.tuple #[.pointer none, .int .i64 (shE b z)]) ∧ Below w.heap.size w w' := by
  obtain ⟨w0, hw0⟩ : ∃ w0, w.alloc (.cells #[.int .i64 b, .int .i64 z] 23) = w0 := ⟨_, rfl⟩
  obtain ⟨g, hg⟩ : ∃ g, w.heap.size = g := ⟨_, rfl⟩
  have hS : Blk w0 g [.int .i64 b, .int .i64 z] 23 := by rw [← hw0, ← hg]; exact Blk.new w [.int .i64 b, .int .i64 z] _
  have hb0 : Below w.heap.size w w0 := by rw [← hw0]; exact (Below.refl _ _).alloc (Nat.le_refl _) _
  have x0 := hS.cell (j := 0) rfl
  have x1 := hS.cell (j := 1) rfl
  have HN := hide (rnew_bad b z w0 hE)
  obtain ⟨E, hEE⟩ : ∃ E, shE b z = E := ⟨_, rfl⟩
  rw [hEE] at hE
  have HE := hide hEE
  have q1 : (E != 0) = true := by simpa using hE
  clear hEE hE
  go_enter Tryd.func20, Tryd.ntmps20
  go_wp2_with fail
  go_fit HN.out
  rw [HE.out]
  rintro x w1 ⟨rfl, hb1⟩
  go_wp2
  go_ret2
  exact ⟨by rw [HE.out]; rfl, hb0.trans (hb1.mono hb0.size)⟩
set_option maxHeartbeats 1600000 in
theorem load_badP (b z : Nat) (w : World) (hE : shE b z = 0) (A : Option Addr) (n c : Nat) (cs : List Value) (ps : List (Int × Int × List UInt8)) (hn : ps.length = n) (hnc : n ≤ c) (hc : c ≤ 9223372036854775807) (hr : Rd w A cs) (hP : PgRows w (fun _ => True) cs ps) (hm : mpA b z (-1) ps = false) : Calls Tryd.prog 19 #[shp b z, .slice A n c] w fun e w' => e = .returned (.tuple #[.pointer none, .int .i64 50]) ∧ Below w.heap.size w w' := by
  obtain ⟨w0, hw0⟩ : ∃ w0, w.alloc (.cells #[.int .i64 b, .int .i64 z] 23) = w0 := ⟨_, rfl⟩
  obtain ⟨g, hg⟩ : ∃ g, w.heap.size = g := ⟨_, rfl⟩
  have hS : Blk w0 g [.int .i64 b, .int .i64 z] 23 := by rw [← hw0, ← hg]; exact Blk.new w [.int .i64 b, .int .i64 z] _
  have hb0 : Below w.heap.size w w0 := by rw [← hw0]; exact (Below.refl _ _).alloc (Nat.le_refl _) _
  have x0 := hS.cell (j := 0) rfl
  have x1 := hS.cell (j := 1) rfl
  have HE := hide hE
  have Hm := hide hm
  clear hE hm
  go_enter Tryd.func19, Tryd.ntmps19
  go_wp2_with fail
  go_fit (shape_any b z w0)
  rw [HE.out]
  rintro x w1 ⟨rfl, hb1⟩
  have hb01 := hb0.trans (hb1.mono hb0.size)
  have hS1 := hS.below hb1
  clear x0 x1
  have x0 := hS1.cell (j := 0) rfl
  have x1 := hS1.cell (j := 1) rfl
  go_wp2_with fail
  go_fit (mayPages_any b z A n c cs ps _ w1 hn hnc hc (hr.below hb01) (hP.below hb01))
  rw [Hm.out]
  rintro x w2 ⟨rfl, hb2⟩
  go_wp2
  go_ret2
  exact ⟨rfl, hb01.trans (hb2.mono hb01.size)⟩
set_option maxHeartbeats 3200000 in
theorem load_okP (b z N : Nat) (w : World) (hb : 1 ≤ b ∧ b ≤ 4096) (hz : 1 ≤ z ∧ z ≤ 4096) (hN : b * z = N) (A : Option Addr) (n c : Nat) (cs : List Value) (ps : List (Int × Int × List UInt8)) (hn : ps.length = n) (hnc : n ≤ c) (hc : c ≤ 9223372036854775807) (hr : Rd w A cs) (hP : PgRows w (fun _ => True) cs ps) (hm : mpA b z (-1) ps = true) : Calls Tryd.prog 19 #[shp b z, .slice A n c] w fun e w' =>
    ∃ v r s, e = .returned (.tuple #[.pointer (some ⟨v, 0, none⟩), .int .i64 0]) ∧ VolIs w' v r s b z N (layB z (List.replicate N 0) ps) (layV (List.replicate b 0) ps) (layL 0 ps) ∧ Below w.heap.size w w' ∧ w.heap.size ≤ v ∧ w.heap.size ≤ r ∧ w.heap.size ≤ s ∧ v < w'.heap.size ∧ r < w'.heap.size ∧ s < w'.heap.size := by
  have hgd := good_of_mpA (by omega) hm
  have hPg := hP.goodlt hgd hz.1
  have hAl := fun hne => rd_cells_lt hr hP.1 hne
  have Hm := hide hm
  clear hm
  obtain ⟨hb1', hb2'⟩ := hb
  obtain ⟨hz1', hz2'⟩ := hz
  have hNb : N ≤ 16777216 := by rw [← hN]; exact Nat.mul_le_mul hb2' hz2'
  have hNI : (b : Int) * (z : Int) = (N : Int) := by rw [← hN]; simp
  obtain ⟨w0, hw0⟩ : ∃ w0, w.alloc (.cells #[.int .i64 b, .int .i64 z] 23) = w0 := ⟨_, rfl⟩
  obtain ⟨g, hg⟩ : ∃ g, w.heap.size = g := ⟨_, rfl⟩
  have hS : Blk w0 g [.int .i64 b, .int .i64 z] 23 := by rw [← hw0, ← hg]; exact Blk.new w [.int .i64 b, .int .i64 z] _
  have hb0 : Below w.heap.size w w0 := by rw [← hw0]; exact (Below.refl _ _).alloc (Nat.le_refl _) _
  have x0 := hS.cell (j := 0) rfl
  have x1 := hS.cell (j := 1) rfl
  have hwN : IntKind.i64.wrap (N : Int) = (N : Int) := IntWalk.i64_in _ (by omega)
  have hm1 := fun W => run_mkB (P := Tryd.prog) (t := 36) (e := 5) (z := .int .u8 0) (bytes := 1) Tryd.underlying36 (by kernel_rfl) rfl (N := N) (by omega) (by omega) W
  have hm2 := fun W => run_mkB (P := Tryd.prog) (t := 43) (e := 3) (z := .int .i64 0) (bytes := 8) Tryd.underlying43 (by kernel_rfl) rfl (N := b) (by omega) (by omega) W
  have HN := hide hN
  have HE := hide (show shE b z = 0 by unfold shE; rw [if_pos ⟨⟨by omega, by omega⟩, by omega, by omega⟩])
  clear hN
  go_enter Tryd.func19, Tryd.ntmps19
  go_wp2_with fail
  go_fit (shape_any b z w0)
  rw [HE.out]
  rintro x w1 ⟨rfl, hb1⟩
  have hb01 := hb0.trans (hb1.mono hb0.size)
  have hS1 := hS.below hb1
  clear x0 x1
  have x0 := hS1.cell (j := 0) rfl
  have x1 := hS1.cell (j := 1) rfl
  go_wp2_with fail
  go_fit (mayPages_any b z A n c cs ps _ w1 hn hnc hc (hr.below hb01) (hP.below hb01))
  rw [Hm.out]
  rintro x w2 ⟨rfl, hb2⟩
  have hb02 := hb01.trans (hb2.mono hb01.size)
  have hS2 := hS1.below hb2
  clear x0 x1
  have x0 := hS2.cell (j := 0) rfl
  have x1 := hS2.cell (j := 1) rfl
  have xa0 := fun o => (hS2.alloc o).cell (j := 0) rfl
  have xa1 := fun o => (hS2.alloc o).cell (j := 1) rfl
  have xb0 := fun o o' => ((hS2.alloc o).alloc o').cell (j := 0) rfl
  have xb1 := fun o o' => ((hS2.alloc o).alloc o').cell (j := 1) rfl
  go_wp2
  have xc0 := fun o o' o'' => (((hS2.alloc o).alloc o').alloc o'').cell (j := 0) rfl
  have xc1 := fun o o' o'' => (((hS2.alloc o).alloc o').alloc o'').cell (j := 1) rfl
  have S0 : w2.drew.cell? ⟨g, 0, none⟩ = some (.int .i64 b) ∧ w2.drew.cell? ⟨g, 1, none⟩ = some (.int .i64 z) := ⟨x0, x1⟩
  go_region_held_law (fun W => W.cell? ⟨g, 0, none⟩ = some (.int .i64 b) ∧ W.cell? ⟨g, 1, none⟩ = some (.int .i64 z)) (first | assumption | exact ⟨xa0 _, xa1 _⟩ | exact ⟨xb0 _ _, xb1 _ _⟩ | exact ⟨xc0 _ _ _, xc1 _ _ _⟩) (fail)
  all_goals
    clear hm1 hm2 xa0 xa1 xb0 xb1 xc0 xc1 hwN
    go_wp2_with fail
  · have hR := ((Blk.new w2 (List.replicate N (.int .u8 0)) 5).alloc (.cells (List.replicate b (.int .i64 0)).toArray 3)).alloc (.cells #[.int .i64 b, .int .i64 z, .slice (some ⟨w2.heap.size, 0, none⟩) N N, .slice (some ⟨w2.heap.size + 1, 0, none⟩) b b, .int .i64 0] 45)
    have hS' := (Blk.new (w2.alloc (.cells (List.replicate N (.int .u8 0)).toArray 5)) (List.replicate b (.int .i64 0)) 3).alloc (.cells #[.int .i64 b, .int .i64 z, .slice (some ⟨w2.heap.size, 0, none⟩) N N, .slice (some ⟨w2.heap.size + 1, 0, none⟩) b b, .int .i64 0] 45)
    have hV := Blk.new ((w2.alloc (.cells (List.replicate N (.int .u8 0)).toArray 5)).alloc (.cells (List.replicate b (.int .i64 0)).toArray 3)) [.int .i64 b, .int .i64 z, .slice (some ⟨w2.heap.size, 0, none⟩) N N, .slice (some ⟨w2.heap.size + 1, 0, none⟩) b b, .int .i64 0] 45
    rw [World.size_alloc] at hS'
    rw [World.size_alloc, World.size_alloc] at hV
    have hsz := hb02.size
    have hbX : Below w2.heap.size w2 ((((w2.alloc (.cells (List.replicate N (.int .u8 0)).toArray 5)).alloc (.cells (List.replicate b (.int .i64 0)).toArray 3)).alloc (.cells #[.int .i64 b, .int .i64 z, .slice (some ⟨w2.heap.size, 0, none⟩) N N, .slice (some ⟨w2.heap.size + 1, 0, none⟩) b b, .int .i64 0] 45)).drew) := ((((Below.refl _ _).alloc (Nat.le_refl _) _).alloc (by simp) _).alloc (by simp; omega) _).drew
    have hVol : VolIs ((((w2.alloc (.cells (List.replicate N (.int .u8 0)).toArray 5)).alloc (.cells (List.replicate b (.int .i64 0)).toArray 3)).alloc (.cells #[.int .i64 b, .int .i64 z, .slice (some ⟨w2.heap.size, 0, none⟩) N N, .slice (some ⟨w2.heap.size + 1, 0, none⟩) b b, .int .i64 0] 45)).drew) (w2.heap.size + 1 + 1) (w2.heap.size) (w2.heap.size + 1) b z N (List.replicate N 0) (List.replicate b 0) 0 := ⟨hV, by rw [bys_zeros]; exact hR, by rw [ints_zeros]; exact hS', by simp, by simp, HN.out, by omega, by omega, by omega, ⟨hb1', hb2'⟩, ⟨hz1', hz2'⟩⟩
    have hbX0 := hb02.trans (hbX.mono hb02.size)
    refine (lay_any2 _ (w2.heap.size + 1 + 1) (w2.heap.size) (w2.heap.size + 1) b z N (List.replicate N 0) (List.replicate b 0) 0 A n c cs ps hVol hn hnc hc (hr.below hbX0) (fun hne a ha => by have := hAl hne a ha; omega) ((hPg.below hbX0).keep (fun A xs hr _ => hr) (fun q hq => ⟨by omega, by omega, by omega⟩)) hgd).mono ?_
    rintro x w5 ⟨rfl, hV5, hU5⟩
    go_wp2
    go_ret2
    have h1 := hV5.blk.lt
    have h2 := hV5.row.lt
    have h3 := hV5.ver.lt
    exact ⟨w2.heap.size + 1 + 1, (w2.heap.size), (w2.heap.size + 1), rfl, hV5, hU5.below hbX0 hbX0.size (by omega) (by omega) (by omega), by omega, by omega, by omega, h1, h2, h3⟩
  · have hS' := ((Blk.new w2 (List.replicate b (.int .i64 0)) 3).alloc (.cells (List.replicate N (.int .u8 0)).toArray 5)).alloc (.cells #[.int .i64 b, .int .i64 z, .slice (some ⟨w2.heap.size + 1, 0, none⟩) N N, .slice (some ⟨w2.heap.size, 0, none⟩) b b, .int .i64 0] 45)
    have hR := (Blk.new (w2.alloc (.cells (List.replicate b (.int .i64 0)).toArray 3)) (List.replicate N (.int .u8 0)) 5).alloc (.cells #[.int .i64 b, .int .i64 z, .slice (some ⟨w2.heap.size + 1, 0, none⟩) N N, .slice (some ⟨w2.heap.size, 0, none⟩) b b, .int .i64 0] 45)
    have hV := Blk.new ((w2.alloc (.cells (List.replicate b (.int .i64 0)).toArray 3)).alloc (.cells (List.replicate N (.int .u8 0)).toArray 5)) [.int .i64 b, .int .i64 z, .slice (some ⟨w2.heap.size + 1, 0, none⟩) N N, .slice (some ⟨w2.heap.size, 0, none⟩) b b, .int .i64 0] 45
    rw [World.size_alloc] at hR
    rw [World.size_alloc, World.size_alloc] at hV
    have hsz := hb02.size
    have hbX : Below w2.heap.size w2 ((((w2.alloc (.cells (List.replicate b (.int .i64 0)).toArray 3)).alloc (.cells (List.replicate N (.int .u8 0)).toArray 5)).alloc (.cells #[.int .i64 b, .int .i64 z, .slice (some ⟨w2.heap.size + 1, 0, none⟩) N N, .slice (some ⟨w2.heap.size, 0, none⟩) b b, .int .i64 0] 45)).drew) := ((((Below.refl _ _).alloc (Nat.le_refl _) _).alloc (by simp) _).alloc (by simp; omega) _).drew
    have hVol : VolIs ((((w2.alloc (.cells (List.replicate b (.int .i64 0)).toArray 3)).alloc (.cells (List.replicate N (.int .u8 0)).toArray 5)).alloc (.cells #[.int .i64 b, .int .i64 z, .slice (some ⟨w2.heap.size + 1, 0, none⟩) N N, .slice (some ⟨w2.heap.size, 0, none⟩) b b, .int .i64 0] 45)).drew) (w2.heap.size + 1 + 1) (w2.heap.size + 1) (w2.heap.size) b z N (List.replicate N 0) (List.replicate b 0) 0 := ⟨hV, by rw [bys_zeros]; exact hR, by rw [ints_zeros]; exact hS', by simp, by simp, HN.out, by omega, by omega, by omega, ⟨hb1', hb2'⟩, ⟨hz1', hz2'⟩⟩
    have hbX0 := hb02.trans (hbX.mono hb02.size)
    refine (lay_any2 _ (w2.heap.size + 1 + 1) (w2.heap.size + 1) (w2.heap.size) b z N (List.replicate N 0) (List.replicate b 0) 0 A n c cs ps hVol hn hnc hc (hr.below hbX0) (fun hne a ha => by have := hAl hne a ha; omega) ((hPg.below hbX0).keep (fun A xs hr _ => hr) (fun q hq => ⟨by omega, by omega, by omega⟩)) hgd).mono ?_
    rintro x w5 ⟨rfl, hV5, hU5⟩
    go_wp2
    go_ret2
    have h1 := hV5.blk.lt
    have h2 := hV5.row.lt
    have h3 := hV5.ver.lt
    exact ⟨w2.heap.size + 1 + 1, (w2.heap.size + 1), (w2.heap.size), rfl, hV5, hU5.below hbX0 hbX0.size (by omega) (by omega) (by omega), by omega, by omega, by omega, h1, h2, h3⟩
set_option maxHeartbeats 1600000 in
theorem rload_badP (b z N : Nat) (w : World) (hb : 1 ≤ b ∧ b ≤ 4096) (hz : 1 ≤ z ∧ z ≤ 4096) (hN : b * z = N) (A : Option Addr) (n c : Nat) (cs : List Value) (ps : List (Int × Int × List UInt8)) (hn : ps.length = n) (hnc : n ≤ c) (hc : c ≤ 9223372036854775807) (hr : Rd w A cs) (hP : PgRows w (fun _ => True) cs ps) (hm : mpA b z (-1) ps = false) : Calls Tryd.prog 20 #[shp b z, .slice A n c] w fun e w' => e = .returned (.tuple #[.pointer none, .int .i64 50]) ∧ Below w.heap.size w w' := by
  obtain ⟨w0, hw0⟩ : ∃ w0, w.alloc (.cells #[.int .i64 b, .int .i64 z] 23) = w0 := ⟨_, rfl⟩
  obtain ⟨g, hg⟩ : ∃ g, w.heap.size = g := ⟨_, rfl⟩
  have hS : Blk w0 g [.int .i64 b, .int .i64 z] 23 := by rw [← hw0, ← hg]; exact Blk.new w [.int .i64 b, .int .i64 z] _
  have hb0 : Below w.heap.size w w0 := by rw [← hw0]; exact (Below.refl _ _).alloc (Nat.le_refl _) _
  have x0 := hS.cell (j := 0) rfl
  have x1 := hS.cell (j := 1) rfl
  have HR := hide (rnew_full b z N w0 hb hz hN)
  have Hm := hide hm
  clear hb hz hN hm
  go_enter Tryd.func20, Tryd.ntmps20
  go_wp2_with fail
  go_fit HR.out
  rintro x w1 ⟨rv, gb, gv, cb, cv, rows, sv, rfl, hV1, hb1⟩
  have hb01 := hb0.trans (hb1.mono hb0.size)
  go_wp2_with fail
  go_fit (rpatch_bad w1 _ rv gb gv cb cv b z N rows sv _ _ 0 A n c cs ps _ hV1 hn hnc hc (hr.below hb01) (hP.below hb01) Hm.out)
  rintro x w2 ⟨rfl, hb2⟩
  go_wp2
  go_ret2
  exact ⟨rfl, hb01.trans (hb2.mono hb01.size)⟩
theorem RVolIs.lower {w : World} {lo lo' rv gb gv cb cv b z N : Nat} {rows sv : List Value} {bs : List UInt8} {vs : List Int} {last : Int} (h : RVolIs w lo rv gb gv cb cv b z N rows sv bs vs last) (hl : lo' ≤ lo) : RVolIs w lo' rv gb gv cb cv b z N rows sv bs vs last := by
  obtain ⟨l1, l2, l3⟩ := h.hlo
  exact { h with
    hlo := ⟨by omega, by omega, by omega⟩
    cells := fun i hi => by
      obtain ⟨A, c, k1, k2, k3, k4, k5⟩ := h.cells i hi
      exact ⟨A, c, k1, k2, k3, k4, fun a ha => by have := k5 a ha; exact ⟨by omega, this.2⟩⟩ }
set_option maxHeartbeats 1600000 in
theorem rload_okP (b z N : Nat) (w : World) (hb : 1 ≤ b ∧ b ≤ 4096) (hz : 1 ≤ z ∧ z ≤ 4096) (hN : b * z = N) (A : Option Addr) (n c : Nat) (cs : List Value) (ps : List (Int × Int × List UInt8)) (hn : ps.length = n) (hnc : n ≤ c) (hc : c ≤ 9223372036854775807) (hr : Rd w A cs) (hP : PgRows w (fun _ => True) cs ps) (hAl : ps ≠ [] → ∀ a, A = some a → a.block < w.heap.size) (hPg : PgRows w (fun q => q < w.heap.size) cs ps) (hm : mpA b z (-1) ps = true) : Calls Tryd.prog 20 #[shp b z, .slice A n c] w fun e w' =>
    ∃ rv gb gv cb cv rows sv, e = .returned (.tuple #[.pointer (some ⟨rv, 0, none⟩), .int .i64 0]) ∧ RVolIs w' w.heap.size rv gb gv cb cv b z N rows sv (layB z (List.replicate N 0) ps) (layV (List.replicate b 0) ps) (layL 0 ps) ∧ Below w.heap.size w w' := by
  obtain ⟨w0, hw0⟩ : ∃ w0, w.alloc (.cells #[.int .i64 b, .int .i64 z] 23) = w0 := ⟨_, rfl⟩
  obtain ⟨g, hg⟩ : ∃ g, w.heap.size = g := ⟨_, rfl⟩
  have hS : Blk w0 g [.int .i64 b, .int .i64 z] 23 := by rw [← hw0, ← hg]; exact Blk.new w [.int .i64 b, .int .i64 z] _
  have hb0 : Below w.heap.size w w0 := by rw [← hw0]; exact (Below.refl _ _).alloc (Nat.le_refl _) _
  have x0 := hS.cell (j := 0) rfl
  have x1 := hS.cell (j := 1) rfl
  have HR := hide (rnew_full b z N w0 hb hz hN)
  have hsz0 := hb0.size
  have Hm := hide hm
  clear hb hz hN hm
  go_enter Tryd.func20, Tryd.ntmps20
  go_wp2_with fail
  go_fit HR.out
  rintro x w1 ⟨rv, gb, gv, cb, cv, rows, sv, rfl, hV1, hb1⟩
  have hb01 := hb0.trans (hb1.mono hb0.size)
  have hlo := hV1.hlo
  have hV1' : RVolIs w1 w.heap.size rv gb gv cb cv b z N rows sv (List.replicate N 0) (List.replicate b 0) 0 := hV1.lower (by omega)
  go_wp2_with fail
  go_fit (rpatch_ok w1 _ rv gb gv cb cv b z N rows sv _ _ 0 A n c cs ps hV1' hn hnc hc (hr.below hb01) (fun hne a ha => by have := hAl hne a ha; omega) ((hPg.below hb01).keep (fun A xs hr _ => hr) (fun q hq => ⟨by omega, by omega, by omega⟩)) Hm.out)
  rintro x w2 ⟨rfl, ⟨rows2, hV2⟩, hU2⟩
  go_wp2
  go_ret2
  exact ⟨rv, gb, gv, cb, cv, rows2, sv, rfl, hV2, hU2.below hb01 hb01.size (by omega) (by omega) (by omega)⟩
set_option maxHeartbeats 1600000 in
theorem begin_badE (b z : Int) (w : World) (A : Option Addr) (n c : Nat) (hE : shE b z ≠ 0) : Calls Tryd.prog 8 #[shp b z, .slice A n c] w fun e w' => e = .returned (.tuple #[.pointer none, .pointer none, .bool true]) ∧ Below w.heap.size w w' := by
  obtain ⟨w0, hw0⟩ : ∃ w0, w.alloc (.cells #[.int .i64 b, .int .i64 z] 23) = w0 := ⟨_, rfl⟩
  obtain ⟨g, hg⟩ : ∃ g, w.heap.size = g := ⟨_, rfl⟩
  have hS : Blk w0 g [.int .i64 b, .int .i64 z] 23 := by rw [← hw0, ← hg]; exact Blk.new w [.int .i64 b, .int .i64 z] _
  have hb0 : Below w.heap.size w w0 := by rw [← hw0]; exact (Below.refl _ _).alloc (Nat.le_refl _) _
  have x0 := hS.cell (j := 0) rfl
  have x1 := hS.cell (j := 1) rfl
  have HE := hide hE
  clear hE
  go_enter Tryd.func8, Tryd.ntmps8
  go_wp2_with fail
  go_fit (load_badE b z w0 A n c HE.out)
  rintro x w1 ⟨rfl, hb1⟩
  have hb01 := hb0.trans (hb1.mono hb0.size)
  have hS1 := hS.below hb1
  clear x0 x1
  have x0 := hS1.cell (j := 0) rfl
  have x1 := hS1.cell (j := 1) rfl
  go_wp2_with fail
  go_fit (rload_badE b z w1 A n c HE.out)
  rintro x w2 ⟨rfl, hb2⟩
  go_wp2
  go_ret3
  exact ⟨by simp, hb01.trans (hb2.mono hb01.size)⟩
set_option maxHeartbeats 1600000 in
theorem begin_badP (b z N : Nat) (w : World) (hb : 1 ≤ b ∧ b ≤ 4096) (hz : 1 ≤ z ∧ z ≤ 4096) (hN : b * z = N) (hE : shE b z = 0) (A : Option Addr) (n c : Nat) (cs : List Value) (ps : List (Int × Int × List UInt8)) (hn : ps.length = n) (hnc : n ≤ c) (hc : c ≤ 9223372036854775807) (hr : Rd w A cs) (hP : PgRows w (fun _ => True) cs ps) (hm : mpA b z (-1) ps = false) : Calls Tryd.prog 8 #[shp b z, .slice A n c] w fun e w' => e = .returned (.tuple #[.pointer none, .pointer none, .bool true]) ∧ Below w.heap.size w w' := by
  obtain ⟨w0, hw0⟩ : ∃ w0, w.alloc (.cells #[.int .i64 b, .int .i64 z] 23) = w0 := ⟨_, rfl⟩
  obtain ⟨g, hg⟩ : ∃ g, w.heap.size = g := ⟨_, rfl⟩
  have hS : Blk w0 g [.int .i64 b, .int .i64 z] 23 := by rw [← hw0, ← hg]; exact Blk.new w [.int .i64 b, .int .i64 z] _
  have hb0 : Below w.heap.size w w0 := by rw [← hw0]; exact (Below.refl _ _).alloc (Nat.le_refl _) _
  have x0 := hS.cell (j := 0) rfl
  have x1 := hS.cell (j := 1) rfl
  have HV := hide (fun W (hr : Rd W A cs) (hP : PgRows W (fun _ => True) cs ps) => load_badP b z W hE A n c cs ps hn hnc hc hr hP hm)
  have HR := hide (fun W (hr : Rd W A cs) (hP : PgRows W (fun _ => True) cs ps) => rload_badP b z N W hb hz hN A n c cs ps hn hnc hc hr hP hm)
  clear hE hm hb hz hN
  go_enter Tryd.func8, Tryd.ntmps8
  go_wp2_with fail
  go_fit (HV.out w0 (hr.below hb0) (hP.below hb0))
  rintro x w1 ⟨rfl, hb1⟩
  have hb01 := hb0.trans (hb1.mono hb0.size)
  have hS1 := hS.below hb1
  clear x0 x1
  have x0 := hS1.cell (j := 0) rfl
  have x1 := hS1.cell (j := 1) rfl
  go_wp2_with fail
  go_fit (HR.out w1 (hr.below hb01) (hP.below hb01))
  rintro x w2 ⟨rfl, hb2⟩
  go_wp2
  go_ret3
  exact ⟨by simp, hb01.trans (hb2.mono hb01.size)⟩
set_option maxHeartbeats 1600000 in
theorem begin_okP (b z N : Nat) (w : World) (hb : 1 ≤ b ∧ b ≤ 4096) (hz : 1 ≤ z ∧ z ≤ 4096) (hN : b * z = N) (A : Option Addr) (n c : Nat) (cs : List Value) (ps : List (Int × Int × List UInt8)) (hn : ps.length = n) (hnc : n ≤ c) (hc : c ≤ 9223372036854775807) (hr : Rd w A cs) (hP : PgRows w (fun _ => True) cs ps) (hm : mpA b z (-1) ps = true) : Calls Tryd.prog 8 #[shp b z, .slice A n c] w fun e w' =>
    ∃ v r s rv gb gv cb cv lo sv, e = .returned (.tuple #[.pointer (some ⟨v, 0, none⟩), .pointer (some ⟨rv, 0, none⟩), .bool true]) ∧ Both w' w.heap.size lo v r s rv gb gv cb cv b z N sv ∧ BothAt w.heap.size lo v r s rv gb gv ∧ Below w.heap.size w w' := by
  obtain ⟨w0, hw0⟩ : ∃ w0, w.alloc (.cells #[.int .i64 b, .int .i64 z] 23) = w0 := ⟨_, rfl⟩
  obtain ⟨g, hg⟩ : ∃ g, w.heap.size = g := ⟨_, rfl⟩
  have hS : Blk w0 g [.int .i64 b, .int .i64 z] 23 := by rw [← hw0, ← hg]; exact Blk.new w [.int .i64 b, .int .i64 z] _
  have hb0 : Below w.heap.size w w0 := by rw [← hw0]; exact (Below.refl _ _).alloc (Nat.le_refl _) _
  have x0 := hS.cell (j := 0) rfl
  have x1 := hS.cell (j := 1) rfl
  have hsz0 := hb0.size
  have hPg := hP.goodlt (good_of_mpA (by omega) hm) hz.1
  have hAl := fun hne => rd_cells_lt hr hP.1 hne
  have HV := hide (fun W (hr : Rd W A cs) (hP : PgRows W (fun _ => True) cs ps) => load_okP b z N W hb hz hN A n c cs ps hn hnc hc hr hP hm)
  have HR := hide (fun W (hr : Rd W A cs) (hP : PgRows W (fun _ => True) cs ps) h1 h2 => rload_okP b z N W hb hz hN A n c cs ps hn hnc hc hr hP h1 h2 hm)
  clear hm hb hz hN
  go_enter Tryd.func8, Tryd.ntmps8
  go_wp2_with fail
  go_fit (HV.out w0 (hr.below hb0) (hP.below hb0))
  rintro x w1 ⟨v, r, s, rfl, hV1, hb1, l1, l2, l3, m1, m2, m3⟩
  have hb01 := hb0.trans (hb1.mono hb0.size)
  have hS1 := hS.below hb1
  have sz1 := hb1.size
  clear x0 x1
  have x0 := hS1.cell (j := 0) rfl
  have x1 := hS1.cell (j := 1) rfl
  go_wp2_with fail
  go_fit (HR.out w1 (hr.below hb01) (hP.below hb01) (fun hne a ha => by have := hAl hne a ha; omega) ((hPg.below hb01).keep (fun A xs hr _ => hr) (fun q hq => by omega)))
  rintro x w2 ⟨rv, gb, gv, cb, cv, rows, sv, rfl, hR2, hb2⟩
  have hlo := hR2.hlo
  go_wp2
  go_ret3
  exact ⟨v, r, s, rv, gb, gv, cb, cv, w1.heap.size, sv, by simp, ⟨rows, _, _, _, hV1.below hb2, hR2⟩, ⟨⟨by omega, by omega, by omega⟩, ⟨m1, m2, m3⟩, hlo, by omega⟩, hb01.trans (hb2.mono hb01.size)⟩
end Go.Proofs.YtjilkaciopiabaaDoor
