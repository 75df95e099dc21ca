/- Laws 8: awake. -/
import Derived.Test.YtdianokikhggnaaF08m
namespace Go.Proofs.Ytdianokikhggnaa
set_option maxRecDepth 20000
open Go.RowKit Go.Px Go.Maps
set_option linter.unusedVariables false
section
variable {w : World} {Q : Nat → Prop} {t f lm bm : Nat} {d : Dk}
/-- Write, whatever it is told. -/
theorem write08_any (h : DIs w Q t f lm bm d) (hQ : ∀ b, w.heap.size ≤ b → Q b) (i : Int) (A : Option Addr) (m c : Nat) (b : List UInt8) (hi1 : -9223372036854775808 ≤ i) (hi2 : i ≤ 9223372036854775807) (hm : b.length = m) (hmc : m ≤ c) (hc : c ≤ 9223372036854775807) (hrb : Rd w A (bys b)) (hA : bys b ≠ [] → ∀ a, A = some a → ¬ OwnB t f lm bm a.block) :
    Calls Try.prog 15 #[.pointer (some ⟨t, 0, none⟩), .int .i64 i, .slice A m c] w fun e w' => e = .returned (.int .i64 (d.writeE i b)) ∧ DIs w' Q t f lm bm (d.write i b) ∧ Fr (OwnB t f lm bm) w w' := by
  by_cases he : d.writeE i b = 0
  · rw [he]; exact write08_ok h hQ i A m c b hm hmc hc hrb hA he
  · have hw : d.write i b = d := if_neg he
    rw [hw]
    refine (write08_bad h i A m c b hi1 hi2 hm hmc hc he).mono ?_
    rintro e w' ⟨h1, h2, h3⟩
    exact ⟨h1, h2, fr_own h3 (.inl rfl)⟩
def NotOwn (t f lm bm : Nat) (b : Nat) : Prop := ¬ OwnB t f lm bm b
theorem DIs.notOwn (h : DIs w Q t f lm bm d) : DIs w (NotOwn t f lm bm) t f lm bm d :=
  h.mono (fun b hb hx => by have := h.out b hb; rcases hx with h | h | h | h <;> simp_all) (fun b hb => ⟨fun e => hb (.inl e), fun e => hb (.inr (.inl e)), fun e => hb (.inr (.inr (.inl e))), fun e => hb (.inr (.inr (.inr e)))⟩)
theorem DIs.notOwn_new (h : DIs w Q t f lm bm d) : ∀ b, w.heap.size ≤ b → NotOwn t f lm bm b := fun b hb hx => by
  have := h.lts
  rcases hx with h | h | h | h <;> omega
set_option maxHeartbeats 1600000 in
theorem awake08_any (w : World) : Calls Try.prog 8 #[] w fun e w' => e = .returned (.bool true) ∧ Below w.heap.size w w' := by
  have HN := hide (new08_ok w 3 2 (by omega) (by omega) (by omega) (by omega))
  go_enter Try.func8, Try.ntmps8
  go_wp2_with fail
  go_fit HN.out
  rintro x w1 ⟨rfl, hD1', hz1, hb1⟩
  have hD1 := hD1'.notOwn
  obtain ⟨t, ht⟩ : ∃ t, w.heap.size + 3 = t := ⟨_, rfl⟩
  obtain ⟨f, hf⟩ : ∃ f, w.heap.size = f := ⟨_, rfl⟩
  obtain ⟨lm, hlm⟩ : ∃ lm, w.heap.size + 1 = lm := ⟨_, rfl⟩
  obtain ⟨bm, hbm⟩ : ∃ bm, w.heap.size + 2 = bm := ⟨_, rfl⟩
  have hown : ∀ x, OwnB t f lm bm x → w.heap.size ≤ x := fun x hx => by rcases hx with h | h | h | h <;> omega
  have hD1n : DIs w1 (NotOwn t f lm bm) t f lm bm (Dk.new 3 2) := by rw [← ht, ← hlm, ← hbm, ← hf]; exact hD1
  rw [ht]
  have Hown := hide hown
  have Hz1 := hide (show w1.heap.size = t + 1 by omega)
  clear hD1 hD1' ht hf hlm hbm hown hz1 HN
  have hb1s := hb1.size
  -- the first write
  obtain ⟨w2, hw2⟩ : ∃ y, w1.alloc (.cells #[.int .u8 97, .int .u8 98] 5 (2, 3)) = y := ⟨_, rfl⟩
  obtain ⟨g2, hg2⟩ : ∃ y, w1.heap.size = y := ⟨_, rfl⟩
  have hb12 : Below w1.heap.size w1 w2 := by rw [← hw2]; exact (Below.refl _ _).alloc (Nat.le_refl _) _
  have hr2 : Rd w2 (some ⟨g2, 0, none⟩) (bys [97, 98]) := by rw [← hw2, ← hg2]; exact Rd.newN w1 (bys [97, 98]) _ (2, 3)
  have hz2 : w2.heap.size = g2 + 1 := by rw [← hw2, ← hg2]; simp
  have hD2 := hD1n.below hb12
  have hno2 := hD1n.notOwn_new
  have HW1 := write08_any hD2 hD2.notOwn_new 0 (some ⟨g2, 0, none⟩) 2 2 [97, 98] (by omega) (by omega) rfl (by omega) (by omega) hr2 (fun _ a ha => by injection ha with ha; rw [← ha]; exact hno2 g2 (by omega))
  rw [show (Dk.new 3 2).writeE 0 [97, 98] = 0 by decide +kernel] at HW1
  obtain ⟨d1, hd1⟩ : ∃ d1, (Dk.new 3 2).write 0 [97, 98] = d1 := ⟨_, rfl⟩
  rw [hd1] at HW1
  have HW1' := hide HW1
  have hb02 := hb1.trans (hb12.mono hb1s)
  have Hw2 := hide hw2
  have Hd1 := hide hd1
  have Hg2 := hide hg2
  clear HW1 hd1 hw2 hD2 hD1n hr2 hno2 hg2
  go_wp2_with fail
  rw [Hw2.out, Hg2.out]
  go_fit HW1'.out
  rintro x w3 ⟨rfl, hD3, hF3⟩
  have hb03 := hF3.below hb02 hb02.size Hown.out
  have hz3 := hF3.size
  clear HW1' hF3
  -- the second
  obtain ⟨w4, hw4⟩ : ∃ y, w3.alloc (.cells #[.int .u8 99, .int .u8 100] 5 (2, 3)) = y := ⟨_, rfl⟩
  obtain ⟨g4, hg4⟩ : ∃ y, w3.heap.size = y := ⟨_, rfl⟩
  have hb34 : Below w3.heap.size w3 w4 := by rw [← hw4]; exact (Below.refl _ _).alloc (Nat.le_refl _) _
  have hr4 : Rd w4 (some ⟨g4, 0, none⟩) (bys [99, 100]) := by rw [← hw4, ← hg4]; exact Rd.newN w3 (bys [99, 100]) _ (2, 3)
  have hz4 : w4.heap.size = g4 + 1 := by rw [← hw4, ← hg4]; simp
  have hD4 := hD3.below hb34
  have hno4 := hD3.notOwn_new
  have HW2 := write08_any hD4 hD4.notOwn_new 2 (some ⟨g4, 0, none⟩) 2 2 [99, 100] (by omega) (by omega) rfl (by omega) (by omega) hr4 (fun _ a ha => by injection ha with ha; rw [← ha]; exact hno4 g4 (by omega))
  rw [show d1.writeE 2 [99, 100] = 0 by rw [← Hd1.out]; decide +kernel] at HW2
  obtain ⟨d2, hd2⟩ : ∃ d2, d1.write 2 [99, 100] = d2 := ⟨_, rfl⟩
  rw [hd2] at HW2
  have HW2' := hide HW2
  have hb04 := hb03.trans (hb34.mono hb03.size)
  have Hw4 := hide hw4
  have Hd2 := hide hd2
  have Hg4 := hide hg4
  clear HW2 hd2 hw4 hD4 hD3 hr4 hno4 hg4
  go_wp2_with fail
  rw [Hw4.out, Hg4.out]
  go_fit HW2'.out
  rintro x w5 ⟨rfl, hD5, hF5⟩
  have hb05 := hF5.below hb04 hb04.size Hown.out
  have hz5 := hF5.size
  clear HW2' hF5
  -- the crash
  obtain ⟨w6, hw6⟩ : ∃ y, w5.alloc (.cells #[.bool false, .bool true] 4) = y := ⟨_, rfl⟩
  obtain ⟨g6, hg6⟩ : ∃ y, w5.heap.size = y := ⟨_, rfl⟩
  have hb56 : Below w5.heap.size w5 w6 := by rw [← hw6]; exact (Below.refl _ _).alloc (Nat.le_refl _) _
  have hr6 : Rd w6 (some ⟨g6, 0, none⟩) (bls [false, true]) := by rw [← hw6, ← hg6]; exact Rd.newN w5 (bls [false, true]) _ (0, 0)
  have hz6 : w6.heap.size = g6 + 1 := by rw [← hw6, ← hg6]; simp
  have hD6 := hD5.below hb56
  have hno6 := hD5.notOwn_new
  have HC := crash08_any hD6 hD6.notOwn_new (some ⟨g6, 0, none⟩) 2 2 [false, true] (-1) 0 (by omega) (by omega) rfl (by omega) hr6 (fun _ a ha => by injection ha with ha; rw [← ha]; exact hno6 g6 (by omega))
  obtain ⟨d3, hd3⟩ : ∃ d3, d2.crash [false, true] (-1) 0 = d3 := ⟨_, rfl⟩
  rw [hd3] at HC
  have HC' := hide HC
  have hb06 := hb05.trans (hb56.mono hb05.size)
  have Hw6 := hide hw6
  have Hd3 := hide hd3
  have Hg6 := hide hg6
  clear HC hd3 hw6 hD6 hD5 hr6 hno6 hg6
  go_wp2_with fail
  rw [Hw6.out, Hg6.out]
  go_fit HC'.out
  rintro x w7 ⟨rfl, hD7, hF7⟩
  have hb07 := hF7.below hb06 hb06.size Hown.out
  have HR := read08_any hD7 0 3 (by omega) (by omega) (by omega) (by omega)
  have hdd : d3 = (((Dk.new 3 2).write 0 [97, 98]).write 2 [99, 100]).crash [false, true] (-1) 0 := by rw [← Hd3.out, ← Hd2.out, ← Hd1.out]
  rw [show d3.readB 0 3 = [0, 0, 0, 0, 99, 100] by rw [hdd]; decide +kernel, show d3.readE 0 3 = 0 by rw [hdd]; decide +kernel] at HR
  have HR' := hide HR
  clear HR hdd hD7 hF7 HC'
  go_wp2_with fail
  go_fit HR'.out
  rintro x w8 ⟨A, c, rfl, _, _, hr8, _, hb8⟩
  have cv := convB (bs := [0, 0, 0, 0, 99, 100]) (n := 6) c rfl hr8
  have hb08 := hb07.trans (hb8.mono hb07.size)
  clear HR'
  go_wp2
  go_ret
  exact ⟨by first | rfl | (simp; done) | decide +kernel, hb08⟩
end
end Go.Proofs.Ytdianokikhggnaa
