/- The laws of crc, walked. -/
import Derived.Test.YtejgjkcelmjflaaDoorF02b
namespace Go.Proofs.YtejgjkcelmjflaaDoor
open Go.RowKit Go.Px
set_option linter.unusedVariables false

def lcut (n : Nat) : Nat := if n ≤ 16384 then n else 16384
theorem lcut_le (n : Nat) : lcut n ≤ n ∧ lcut n ≤ 16384 := by unfold lcut; split <;> omega
theorem lcut_len (bs : List UInt8) : (bs.take 16384).length = lcut bs.length := by unfold lcut; rw [List.length_take]; split <;> omega
theorem lcut_rd {w : World} {A : Option Addr} {bs : List UInt8} (h : Rd w A (bys bs)) : Rd w A (bys (bs.take 16384)) := by rw [bys_take]; exact h.take _
theorem cut_any (A : Option Addr) (n c : Nat) (w : World) (hnc : n ≤ c) (hc : c ≤ 9223372036854775807) : Calls Tryd.prog 8 #[.slice A n c] w fun e w' => e = .returned (.slice A (lcut n) c) ∧ w = w' := by
  by_cases h : n ≤ 16384
  · have HL := hide (show lcut n = n by unfold lcut; rw [if_pos h])
    go_enter Tryd.func8, Tryd.ntmps8
    go_wp2
    go_ret
    exact ⟨by rw [HL.out]; rfl, rfl⟩
  · have HL := hide (show lcut n = 16384 by unfold lcut; rw [if_neg h])
    go_enter Tryd.func8, Tryd.ntmps8
    go_wp2
    go_ret
    exact ⟨by rw [HL.out]; rfl, rfl⟩

set_option maxHeartbeats 800000 in
theorem awake02_any (w : World) (ht : Tab w) : Calls Tryd.prog 13 #[] w fun e w' => e = .returned (.bool true) ∧ Below w.heap.size w w' := by
  go_enter Tryd.func13, Tryd.ntmps13
  go_wp2_with fail
  have hr1 : Rd (w.alloc (.cells (bys [49, 50, 51, 52]).toArray 5 (4, 5))) (some ⟨w.heap.size, 0, none⟩) (bys [49, 50, 51, 52]) := Rd.newN _ _ _ _
  have hr2 : Rd ((w.alloc (.cells (bys [49, 50, 51, 52]).toArray 5 (4, 5))).alloc (.cells (bys [53, 54, 55, 56, 57]).toArray 5 (5, 6))) (some ⟨w.heap.size + 1, 0, none⟩) (bys [53, 54, 55, 56, 57]) := Rd.newG (by simp)
  refine (sum_any _ 2 2 [.slice (some ⟨w.heap.size, 0, none⟩) 4 4, .slice (some ⟨w.heap.size + 1, 0, none⟩) 5 5] [[49, 50, 51, 52], [53, 54, 55, 56, 57]] _ rfl (by decide) (Rd.newG (by simp))
    ((BRows.nil.snoc (c := 4) rfl (by decide) (by decide) (by decide) ((hr1.alloc _).alloc _)).snoc (c := 5) rfl (by decide) (by decide) (by decide) (hr2.alloc _)) (((ht.alloc _).alloc _).alloc _)).mono ?_
  rw [show sumN [[49, 50, 51, 52], [53, 54, 55, 56, 57]] = 3808858755 from by decide +kernel]
  rintro e w' ⟨rfl, rfl⟩
  go_wp2
  go_ret
  exact ⟨rfl, (((Below.refl _ _).alloc (Nat.le_refl _) _).alloc (by simp) _).alloc (by simp; omega) _⟩

set_option maxHeartbeats 800000 in
theorem crcSums_walk (A : Option Addr) (m c : Nat) (bs : List UInt8) (B : Option Addr) (k d : Nat) (s : List UInt8) (x : Nat) (w : World) (hm : bs.length = m) (hmc : m ≤ c) (hc : c ≤ 9223372036854775807) (hr : Rd w A (bys bs))
    (hk : s.length = k) (hkd : k ≤ d) (hd : d ≤ 9223372036854775807) (hs : Rd w B (bys s)) (hx : x < 4294967296) (ht : Tab w) :
    Calls Tryd.prog 3 #[.slice A m c, .slice B k d, .int .u32 x] w fun e w' => e = .returned (.bool true) ∧ Below w.heap.size w w' := by
  obtain ⟨hl1, hl2⟩ := lcut_le m
  have Hl := hide (show (bs.take 16384).length = lcut m by rw [lcut_len, hm])
  have hr' := lcut_rd hr
  obtain ⟨q, hq⟩ : ∃ q, lcut m = q := ⟨_, rfl⟩
  rw [hq] at hl1 hl2 Hl
  have Hq := hide hq
  clear hq hm hr
  obtain ⟨hj1, hj2⟩ := lcut_le k
  have Hj := hide (show (s.take 16384).length = lcut k by rw [lcut_len, hk])
  have hs' := lcut_rd hs
  obtain ⟨p, hp⟩ : ∃ p, lcut k = p := ⟨_, rfl⟩
  rw [hp] at hj1 hj2 Hj
  have Hp := hide hp
  clear hp hk hs
  generalize bs.take 16384 = bs' at *
  generalize s.take 16384 = s' at *
  go_enter Tryd.func3, Tryd.ntmps3
  go_wp2_with fail
  refine (cut_any _ _ _ _ hmc hc).mono ?_
  rw [Hq.out]
  rintro e w0 ⟨rfl, rfl⟩
  go_wp2_with fail
  refine (cut_any _ _ _ _ hkd hd).mono ?_
  rw [Hp.out]
  rintro e w0 ⟨rfl, rfl⟩
  go_wp2_with fail
  refine (sum_any _ 2 2 [.slice A q c, .slice B p d] [bs', s'] _ rfl (by decide) (Rd.newG rfl)
    ((BRows.nil.snoc (c := c) Hl.out (by omega) (by omega) hc (hr'.alloc _)).snoc (c := d) Hj.out (by omega) (by omega) hd (hs'.alloc _)) (ht.alloc _)).mono ?_
  rintro e w1 ⟨rfl, rfl⟩
  go_wp2_with fail
  refine (rsum_any _ 2 2 [.slice A q c, .slice B p d] [bs', s'] _ rfl (by decide) (Rd.newG (by simp))
    ((BRows.nil.snoc (c := c) Hl.out (by omega) (by omega) hc ((hr'.alloc _).alloc _)).snoc (c := d) Hj.out (by omega) (by omega) hd ((hs'.alloc _).alloc _))).mono ?_
  rintro e w1 ⟨rfl, rfl⟩
  go_wp2_with fail
  refine (more_any x _ _ _ s' _ hx Hj.out (by omega) ((hs'.alloc _).alloc _) ((ht.alloc _).alloc _)).mono ?_
  rintro e w1 ⟨rfl, rfl⟩
  go_wp2_with fail
  refine (rmore_any x _ _ _ s' _ hx Hj.out (by omega) ((hs'.alloc _).alloc _)).mono ?_
  rintro e w1 ⟨rfl, rfl⟩
  go_wp2_with fail
  refine (sum_any none 0 0 [] [] _ rfl (by decide) Rd.nil BRows.nil ((ht.alloc _).alloc _)).mono ?_
  rw [show sumN [] = 0 from rfl]
  rintro e w1 ⟨rfl, rfl⟩
  go_wp2_with fail
  refine (awake02_any _ ((ht.alloc _).alloc _)).mono ?_
  rintro e w2 ⟨rfl, hb2⟩
  go_wp2
  go_ret
  exact ⟨rfl, (((Below.refl _ _).alloc (Nat.le_refl _) _).alloc (by simp) _).trans (hb2.mono (by simp; omega))⟩
end Go.Proofs.YtejgjkcelmjflaaDoor
