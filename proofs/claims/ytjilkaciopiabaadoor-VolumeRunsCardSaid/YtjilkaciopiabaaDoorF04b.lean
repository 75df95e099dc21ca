/- Fit twice. -/
import Derived.Test.YtjilkaciopiabaaDoorF04a
namespace Go.Proofs.YtjilkaciopiabaaDoor
open Go.RowKit Go.Px
set_option linter.unusedVariables false
set_option linter.unusedSimpArgs false

theorem shE_two (b z : Int) : ((1 ≤ b ∧ b ≤ 4096) ∧ 1 ≤ z ∧ z ≤ 4096) ∧ shE b z = 0 ∨ shE b z = 40 := by
  unfold shE; split
  · exact .inl ⟨‹_›, rfl⟩
  · exact .inr rfl
theorem fmE_two (k : Nat) (p n : Int) (d o : Nat) : fmP k p n d o ∧ fmE k p n d o = 0 ∨ fmE k p n d o = 41 := by
  unfold fmE; split
  · exact .inl ⟨‹_›, rfl⟩
  · exact .inr rfl
def ftE (b z : Int) (k : Nat) (p n : Int) (d o : Nat) : Int := if shE b z ≠ 0 then shE b z else fmE k p n d o
def ftC (b z : Int) (k : Nat) (p n : Int) (d o : Nat) : Int :=
  if ftE b z k p n d o ≠ 0 then 0 else if k = 4 then 1 else if k = 5 then (if b ≤ p then 2 else if (d : Int) ≠ z ∨ (o : Int) ≠ z then 3 else 1)
  else if n < 1 ∨ 64 < n ∨ b < p + n then 2 else if k = 2 ∧ (d : Int) ≠ n * z then 3 else 1
def FitIs (b z : Int) (k : Nat) (p n : Int) (d o : Nat) (w : World) (e : Ending) (w' : World) : Prop := e = .returned (.tuple #[.int .u8 (ftC b z k p n d o), .int .i64 (ftE b z k p n d o)]) ∧ Below w.heap.size w w'
theorem ft_bad {b z : Int} {k : Nat} {p n : Int} {d o : Nat} {x : Int} (h : ftE b z k p n d o = x) (hx : x ≠ 0) : ftC b z k p n d o = 0 := by
  unfold ftC; rw [if_pos (by rw [h]; exact hx)]
theorem mul_bd {n z : Int} (h1 : 0 ≤ n) (h2 : n ≤ 2147483647) (h3 : 1 ≤ z) (h4 : z ≤ 4096) : 0 ≤ n * z ∧ n * z ≤ 8796093018112 := by
  constructor
  · exact Int.mul_nonneg h1 (by omega)
  · have a := Int.mul_le_mul_of_nonneg_right h2 (show 0 ≤ z by omega)
    have b := Int.mul_le_mul_of_nonneg_left h4 (show (0 : Int) ≤ 2147483647 by omega)
    omega

set_option maxHeartbeats 3200000 in
theorem fit_any (b z : Int) (k : Nat) (p n : Int) (D : Option Addr) (d dc : Nat) (O : Option Addr) (o oc : Nat) (w : World) (hk : k < 256) :
    Calls Tryd.prog 28 #[shp b z, opv k p n D d dc O o oc] w (FitIs b z k p n d o w) := by
  obtain ⟨g, hg⟩ : ∃ g, w.heap.size = g := ⟨_, rfl⟩
  obtain ⟨w0, hw0⟩ : ∃ w0, (w.alloc (.cells #[.int .i64 b, .int .i64 z] 23)).alloc (.cells #[.int .u8 k, .int .i64 p, .int .i64 n, .slice D d dc, .slice O o oc] 38) = w0 := ⟨_, rfl⟩
  have hS : Blk w0 g [.int .i64 b, .int .i64 z] 23 := by rw [← hw0, ← hg]; exact (Blk.new w [.int .i64 b, .int .i64 z] _).alloc _
  have hO : Blk w0 (g + 1) [.int .u8 k, .int .i64 p, .int .i64 n, .slice D d dc, .slice O o oc] 38 := by
    rw [← hw0, ← hg]
    have := Blk.new (w.alloc (.cells #[.int .i64 b, .int .i64 z] 23)) [.int .u8 k, .int .i64 p, .int .i64 n, .slice D d dc, .slice O o oc] 38
    rwa [World.size_alloc] at this
  have hb0 : Below w.heap.size w w0 := by rw [← hw0]; exact ((Below.refl _ _).alloc (Nat.le_refl _) _).alloc (by simp) _
  have x0 := hS.cell (j := 0) rfl
  have x1 := hS.cell (j := 1) rfl
  have y0 := hO.cell (j := 0) rfl
  have y1 := hO.cell (j := 1) rfl
  have y2 := hO.cell (j := 2) rfl
  have y3 := hO.cell (j := 3) rfl
  have y4 := hO.cell (j := 4) rfl
  go_enter Tryd.func28, Tryd.ntmps28
  go_wp2_with fail
  go_fit (shape_any b z w0)
  rcases shE_two b z with ⟨hsp, hse⟩ | hse
  · rw [hse]
    rintro x w1 ⟨rfl, hb1⟩
    have hO1 := hO.below hb1
    have u0 := hO1.cell (j := 0) rfl
    have u1 := hO1.cell (j := 1) rfl
    have u2 := hO1.cell (j := 2) rfl
    have u3 := hO1.cell (j := 3) rfl
    have u4 := hO1.cell (j := 4) rfl
    have hb01 := hb0.trans (hb1.mono hb0.size)
    have Hse := hide hse
    have Hsp := hide hsp
    clear hse hsp x0 x1 y0 y1 y2 y3 y4
    go_wp2_with fail
    go_fit (form_any k p n D d dc O o oc w1 hk)
    rcases fmE_two k p n d o with ⟨hfp, hfe⟩ | hfe
    · have hE : ftE b z k p n d o = 0 := by unfold ftE; rw [if_neg (by rw [Hse.out]; simp), hfe]
      rw [hfe]
      rintro x w2 ⟨rfl, hb2⟩
      have hO2 := hO1.below hb2
      have hS2 := (hS.below hb1).below hb2
      have hb02 := hb01.trans (hb2.mono hb01.size)
      have HE := hide hE
      clear hE hfe u0 u1 u2 u3 u4
      have v0 := hO2.cell (j := 0) rfl
      have v1 := hO2.cell (j := 1) rfl
      have v2 := hO2.cell (j := 2) rfl
      have v3 := hO2.cell (j := 3) rfl
      have v4 := hO2.cell (j := 4) rfl
      have s0 := hS2.cell (j := 0) rfl
      have s1 := hS2.cell (j := 1) rfl
      have hC : ∀ c, (if k = 4 then 1 else if k = 5 then (if b ≤ p then 2 else if (d : Int) ≠ z ∨ (o : Int) ≠ z then 3 else 1)
        else if n < 1 ∨ 64 < n ∨ b < p + n then 2 else if k = 2 ∧ (d : Int) ≠ n * z then 3 else 1) = c → (Ending.returned (.tuple #[.int .u8 c, .int .i64 0]) : Ending) = .returned (.tuple #[.int .u8 (ftC b z k p n d o), .int .i64 (ftE b z k p n d o)]) := fun c h => by
        unfold ftC; rw [HE.out, if_neg (by simp), h]
      have HC := hide hC
      clear hC
      obtain ⟨⟨⟨p1, p2⟩, ⟨n1, n2⟩, d1, o1⟩, hkk⟩ := hfp
      obtain ⟨⟨b1, b2⟩, z1, z2⟩ := Hsp.out
      have hm := mul_bd n1 n2 z1 z2
      obtain ⟨m1, m2⟩ := hm
      obtain rfl | rfl | rfl | rfl | rfl : k = 4 ∨ k = 1 ∨ k = 3 ∨ k = 2 ∨ k = 5 := by omega
      all_goals
        clear hkk
        go_wp2
        all_goals
          go_ret2
          refine ⟨HC.out _ ?_, hb02⟩
          (try simp only [Bool.not_eq_true', Bool.not_eq_false', beq_iff_eq, beq_eq_false_iff_ne, ne_eq, bne_iff_ne, bne_eq_false_iff_eq] at *)
          (try simp only [true_and, if_true])
          repeat (first | rw [if_pos (by omega)] | rw [if_neg (by omega)])
    · have hE : ftE b z k p n d o = 41 := by unfold ftE; rw [if_neg (by rw [Hse.out]; simp), hfe]
      have HC := hide (ft_bad hE (by decide))
      have HE := hide hE
      rw [hfe]
      rintro x w2 ⟨rfl, hb2⟩
      clear hE hfe
      go_wp2
      go_ret2
      exact ⟨by rw [HC.out, HE.out]; rfl, hb01.trans (hb2.mono hb01.size)⟩
  · have hE : ftE b z k p n d o = 40 := by unfold ftE; rw [if_pos (by rw [hse]; decide), hse]
    have HC := hide (ft_bad hE (by decide))
    have HE := hide hE
    rw [hse]
    clear hE hse
    rintro x w1 ⟨rfl, hb1⟩
    go_wp2
    go_ret2
    exact ⟨by rw [HC.out, HE.out]; rfl, hb0.trans (hb1.mono hb0.size)⟩
set_option maxHeartbeats 3200000 in
theorem rfit_any (b z : Int) (k : Nat) (p n : Int) (D : Option Addr) (d dc : Nat) (O : Option Addr) (o oc : Nat) (w : World) (hk : k < 256) :
    Calls Tryd.prog 39 #[shp b z, opv k p n D d dc O o oc] w (FitIs b z k p n d o w) := by
  obtain ⟨g, hg⟩ : ∃ g, w.heap.size = g := ⟨_, rfl⟩
  obtain ⟨w0, hw0⟩ : ∃ w0, (w.alloc (.cells #[.int .i64 b, .int .i64 z] 23)).alloc (.cells #[.int .u8 k, .int .i64 p, .int .i64 n, .slice D d dc, .slice O o oc] 38) = w0 := ⟨_, rfl⟩
  have hS : Blk w0 g [.int .i64 b, .int .i64 z] 23 := by rw [← hw0, ← hg]; exact (Blk.new w [.int .i64 b, .int .i64 z] _).alloc _
  have hO : Blk w0 (g + 1) [.int .u8 k, .int .i64 p, .int .i64 n, .slice D d dc, .slice O o oc] 38 := by
    rw [← hw0, ← hg]
    have := Blk.new (w.alloc (.cells #[.int .i64 b, .int .i64 z] 23)) [.int .u8 k, .int .i64 p, .int .i64 n, .slice D d dc, .slice O o oc] 38
    rwa [World.size_alloc] at this
  have hb0 : Below w.heap.size w w0 := by rw [← hw0]; exact ((Below.refl _ _).alloc (Nat.le_refl _) _).alloc (by simp) _
  have x0 := hS.cell (j := 0) rfl
  have x1 := hS.cell (j := 1) rfl
  have y0 := hO.cell (j := 0) rfl
  have y1 := hO.cell (j := 1) rfl
  have y2 := hO.cell (j := 2) rfl
  have y3 := hO.cell (j := 3) rfl
  have y4 := hO.cell (j := 4) rfl
  go_enter Tryd.func39, Tryd.ntmps39
  go_wp2_with fail
  go_fit (rshape_any b z w0)
  rcases shE_two b z with ⟨hsp, hse⟩ | hse
  · rw [hse]
    rintro x w1 ⟨rfl, hb1⟩
    have hO1 := hO.below hb1
    have u0 := hO1.cell (j := 0) rfl
    have u1 := hO1.cell (j := 1) rfl
    have u2 := hO1.cell (j := 2) rfl
    have u3 := hO1.cell (j := 3) rfl
    have u4 := hO1.cell (j := 4) rfl
    have hb01 := hb0.trans (hb1.mono hb0.size)
    have Hse := hide hse
    have Hsp := hide hsp
    clear hse hsp x0 x1 y0 y1 y2 y3 y4
    go_wp2_with fail
    go_fit (rform_any k p n D d dc O o oc w1 hk)
    rcases fmE_two k p n d o with ⟨hfp, hfe⟩ | hfe
    · have hE : ftE b z k p n d o = 0 := by unfold ftE; rw [if_neg (by rw [Hse.out]; simp), hfe]
      rw [hfe]
      rintro x w2 ⟨rfl, hb2⟩
      have hO2 := hO1.below hb2
      have hS2 := (hS.below hb1).below hb2
      have hb02 := hb01.trans (hb2.mono hb01.size)
      have HE := hide hE
      clear hE hfe u0 u1 u2 u3 u4
      have v0 := hO2.cell (j := 0) rfl
      have v1 := hO2.cell (j := 1) rfl
      have v2 := hO2.cell (j := 2) rfl
      have v3 := hO2.cell (j := 3) rfl
      have v4 := hO2.cell (j := 4) rfl
      have s0 := hS2.cell (j := 0) rfl
      have s1 := hS2.cell (j := 1) rfl
      have hC : ∀ c, (if k = 4 then 1 else if k = 5 then (if b ≤ p then 2 else if (d : Int) ≠ z ∨ (o : Int) ≠ z then 3 else 1)
        else if n < 1 ∨ 64 < n ∨ b < p + n then 2 else if k = 2 ∧ (d : Int) ≠ n * z then 3 else 1) = c → (Ending.returned (.tuple #[.int .u8 c, .int .i64 0]) : Ending) = .returned (.tuple #[.int .u8 (ftC b z k p n d o), .int .i64 (ftE b z k p n d o)]) := fun c h => by
        unfold ftC; rw [HE.out, if_neg (by simp), h]
      have HC := hide hC
      clear hC
      obtain ⟨⟨⟨p1, p2⟩, ⟨n1, n2⟩, d1, o1⟩, hkk⟩ := hfp
      obtain ⟨⟨b1, b2⟩, z1, z2⟩ := Hsp.out
      have hm := mul_bd n1 n2 z1 z2
      obtain ⟨m1, m2⟩ := hm
      obtain rfl | rfl | rfl | rfl | rfl : k = 4 ∨ k = 1 ∨ k = 3 ∨ k = 2 ∨ k = 5 := by omega
      all_goals
        clear hkk
        go_wp2
        all_goals
          go_ret2
          refine ⟨HC.out _ ?_, hb02⟩
          (try simp only [Bool.not_eq_true', Bool.not_eq_false', beq_iff_eq, beq_eq_false_iff_ne, ne_eq, bne_iff_ne, bne_eq_false_iff_eq] at *)
          (try simp only [true_and, if_true])
          repeat (first | rw [if_pos (by omega)] | rw [if_neg (by omega)])
    · have hE : ftE b z k p n d o = 41 := by unfold ftE; rw [if_neg (by rw [Hse.out]; simp), hfe]
      have HC := hide (ft_bad hE (by decide))
      have HE := hide hE
      rw [hfe]
      rintro x w2 ⟨rfl, hb2⟩
      clear hE hfe
      go_wp2
      go_ret2
      exact ⟨by rw [HC.out, HE.out]; rfl, hb01.trans (hb2.mono hb01.size)⟩
  · have hE : ftE b z k p n d o = 40 := by unfold ftE; rw [if_pos (by rw [hse]; decide), hse]
    have HC := hide (ft_bad hE (by decide))
    have HE := hide hE
    rw [hse]
    clear hE hse
    rintro x w1 ⟨rfl, hb1⟩
    go_wp2
    go_ret2
    exact ⟨by rw [HC.out, HE.out]; rfl, hb0.trans (hb1.mono hb0.size)⟩
end Go.Proofs.YtjilkaciopiabaaDoor
