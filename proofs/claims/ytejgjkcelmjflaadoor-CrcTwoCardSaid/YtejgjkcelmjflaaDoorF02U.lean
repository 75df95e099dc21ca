/- The law CrcTwo, walked. -/
import Derived.Test.YtejgjkcelmjflaaDoorF02T
namespace Go.Proofs.YtejgjkcelmjflaaDoor
open Go.RowKit Go.Px
set_option linter.unusedVariables false

set_option maxHeartbeats 1600000 in
theorem crcTwo_walk (A : Option Addr) (m c : Nat) (bs : List UInt8) (B : Option Addr) (k d : Nat) (s : List UInt8) (w : World) (hm : bs.length = m) (hmc : m ≤ c) (hc : c ≤ 9223372036854775807) (hr : Rd w A (bys bs))
    (hk : s.length = k) (hkd : k ≤ d) (hd : d ≤ 9223372036854775807) (hs : Rd w B (bys s)) (ht : Tab w) :
    Calls Tryd.prog 4 #[.slice A m c, .slice B k d] w fun e w' => e = .returned (.bool true) ∧ Below w.heap.size w w' := by
  obtain ⟨hl1, hl2⟩ := lcut_le m
  have Hl := hide (show (bs.take 16384).length = lcut m by rw [lcut_len, hm])
  have hr' := lcut_rd hr
  obtain ⟨q, hq⟩ : ∃ q, lcut m = q := ⟨_, rfl⟩
  rw [hq] at hl1 hl2 Hl
  have Hq := hide hq
  clear hq hm hr
  obtain ⟨hj1, hj2⟩ := lcut_le k
  have Hj := hide (show (s.take 16384).length = lcut k by rw [lcut_len, hk])
  have hs' := lcut_rd hs
  obtain ⟨p, hp⟩ : ∃ p, lcut k = p := ⟨_, rfl⟩
  rw [hp] at hj1 hj2 Hj
  have Hp := hide hp
  clear hp hk hs
  generalize bs.take 16384 = bs' at *
  generalize s.take 16384 = s' at *
  obtain ⟨x, hx⟩ : ∃ x, sumN [bs'] = x := ⟨_, rfl⟩
  obtain ⟨y, hy⟩ : ∃ y, sumN [s'] = y := ⟨_, rfl⟩
  have hxl : x < 4294967296 := by rw [← hx]; exact moreN_lt 0 bs'
  have hyl : y < 4294967296 := by rw [← hy]; exact moreN_lt 0 s'
  obtain ⟨z, hz⟩ : ∃ z, sumN [bs', s'] = z := ⟨_, rfl⟩
  have Hxy := hide (show it8 p x ^^^ y = z by
    rw [← hz, ← Hj.out, ← hy]
    show it8 s'.length x ^^^ moreN 0 s' = moreN (moreN 0 bs') s'
    rw [show moreN 0 bs' = x from hx]
    exact (moreN_join x s' hxl).symm)
  have Hx := hide hx
  have Hy := hide hy
  have Hz := hide hz
  clear hx hy hz
  go_enter Tryd.func4, Tryd.ntmps4
  go_wp2_with fail
  refine (cut_any _ _ _ _ hmc hc).mono ?_
  rw [Hq.out]
  rintro e w0 ⟨rfl, rfl⟩
  go_wp2_with fail
  refine (cut_any _ _ _ _ hkd hd).mono ?_
  rw [Hp.out]
  rintro e w0 ⟨rfl, rfl⟩
  go_wp2_with fail
  refine (sum_any _ 1 1 [.slice A q c] [bs'] _ rfl (by decide) (Rd.newG rfl)
    (BRows.nil.snoc (c := c) Hl.out (by omega) (by omega) hc (hr'.alloc _)) (ht.alloc _)).mono ?_
  rw [Hx.out]
  rintro e w1 ⟨rfl, rfl⟩
  go_wp2_with fail
  refine (sum_any _ 1 1 [.slice B p d] [s'] _ rfl (by decide) (Rd.newG (by simp))
    (BRows.nil.snoc (c := d) Hj.out (by omega) (by omega) hd ((hs'.alloc _).alloc _)) ((ht.alloc _).alloc _)).mono ?_
  rw [Hy.out]
  rintro e w1 ⟨rfl, rfl⟩
  go_wp2_with fail
  refine (join_any x y p _ hxl hyl hj2).mono ?_
  rw [Hxy.out]
  rintro e w2 ⟨rfl, hb2⟩
  have hb0 : Below w.heap.size w w2 := (((Below.refl _ _).alloc (Nat.le_refl _) _).alloc (by simp) _).trans (hb2.mono (by simp; omega))
  go_wp2_with fail
  refine (rsum_any _ 2 2 [.slice A q c, .slice B p d] [bs', s'] _ rfl (by decide) (Rd.newG (by simp))
    ((BRows.nil.snoc (c := c) Hl.out (by omega) (by omega) hc ((hr'.below hb0).alloc _)).snoc (c := d) Hj.out (by omega) (by omega) hd ((hs'.below hb0).alloc _))).mono ?_
  rw [Hz.out]
  rintro e w1 ⟨rfl, rfl⟩
  go_wp2_with fail
  refine (awake02_any _ (Rd.alloc (Rd.below ht hb0) _)).mono ?_
  rintro e w3 ⟨rfl, hb3⟩
  go_wp2
  go_ret
  exact ⟨rfl, (hb0.alloc hb0.size _).trans (hb3.mono (by have := hb0.size; simp; omega))⟩
end Go.Proofs.YtejgjkcelmjflaaDoor
