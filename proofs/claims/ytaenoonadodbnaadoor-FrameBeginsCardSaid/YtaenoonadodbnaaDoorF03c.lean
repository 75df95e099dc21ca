/- Laws 3: awake; cut. -/
import Derived.Test.YtaenoonadodbnaaDoorF03b
namespace Go.Proofs.YtaenoonadodbnaaDoor
open Go.RowKit Go.Px
set_option linter.unusedVariables false

def lcut (n : Nat) : Nat := if n ≤ 16384 then n else 16384
theorem lcut_le (n : Nat) : lcut n ≤ n ∧ lcut n ≤ 16384 := by unfold lcut; split <;> omega
theorem lcut_len (bs : List UInt8) : (bs.take 16384).length = lcut bs.length := by unfold lcut; rw [List.length_take]; split <;> omega
theorem lcut_rd {w : World} {A : Option Addr} {bs : List UInt8} (h : Rd w A (bys bs)) : Rd w A (bys (bs.take 16384)) := by rw [bys_take]; exact h.take _
theorem cut_any (A : Option Addr) (n c : Nat) (w : World) (hnc : n ≤ c) (hc : c ≤ 9223372036854775807) : Calls Tryd.prog 10 #[.slice A n c] w fun e w' => e = .returned (.slice A (lcut n) c) ∧ w = w' := by
  by_cases h : n ≤ 16384
  · have HL := hide (show lcut n = n by unfold lcut; rw [if_pos h])
    go_enter Tryd.func10, Tryd.ntmps10
    go_wp2
    go_ret
    exact ⟨by rw [HL.out]; rfl, rfl⟩
  · have HL := hide (show lcut n = 16384 by unfold lcut; rw [if_neg h])
    go_enter Tryd.func10, Tryd.ntmps10
    go_wp2
    go_ret
    exact ⟨by rw [HL.out]; rfl, rfl⟩

set_option maxHeartbeats 1600000 in
theorem awake03_any (w : World) (ht : Tab w) : Calls Tryd.prog 15 #[] w fun e w' => e = .returned (.bool true) ∧ Below w.heap.size w w' := by
  have hfl : (frmB 7 1 [97, 98]).length = 22 := by rw [frmB_length]; rfl
  have hE : rdE (frmB 7 1 [97, 98]) 0 = 0 := by decide +kernel
  have hK : rdK (frmB 7 1 [97, 98]) 0 = 7 := by decide +kernel
  have hN : rdN (frmB 7 1 [97, 98]) 0 = 22 := by decide +kernel
  have hB : rdB (frmB 7 1 [97, 98]) 0 = [97, 98] := by decide +kernel
  obtain ⟨s, hS⟩ : ∃ s, rdS (frmB 7 1 [97, 98]) 0 = s := ⟨_, rfl⟩
  obtain ⟨f, hf⟩ : ∃ f, frmB 7 1 [97, 98] = f := ⟨_, rfl⟩
  rw [hf] at hfl hE hK hN hB hS
  have Hf := hide hf
  have Hfl := hide hfl
  have HE := hide hE
  have HK := hide hK
  have HN := hide hN
  have HB := hide hB
  have HS := hide hS
  clear hf hfl hE hK hN hB hS
  go_enter Tryd.func15, Tryd.ntmps15
  go_wp2_with fail
  refine (fwrite_any 7 1 _ 2 _ [97, 98] _ rfl (by omega) (by omega) (by omega) (Rd.newG rfl) (by omega) (by omega) (ht.alloc _)).mono ?_
  rw [Hf.out]
  rintro e w1 ⟨v1, rfl, ho1, hb1⟩
  obtain ⟨A1, c1, rfl, hl1, hc1, hcm1, hr1, ha1⟩ := own_out ho1
  have hb01 : Below w.heap.size w w1 := ((Below.refl _ _).alloc (Nat.le_refl _) _).trans (hb1.mono (by simp))
  go_wp2_with fail
  refine (fread_any A1 22 c1 f 0 _ Hfl.out (by omega) (by omega) (by unfold maxLen at hcm1; omega) hr1 (by omega) (by omega) (Rd.below ht hb01)).mono ?_
  rw [HK.out, HS.out, HN.out, HE.out, HB.out]
  rintro e w2 ⟨v2, rfl, ho2, hb2⟩
  obtain ⟨A2, c2, rfl, hl2, hc2, hcm2, hr2, ha2⟩ := own_out ho2
  have hb02 : Below w.heap.size w w2 := hb01.trans (hb2.mono hb01.size)
  have e1 : ∀ o, (convert 23 9 (.slice A2 2 c2)).run Tryd.prog (w2.alloc o) = .ok (.string (strOf [97, 98])) (w2.alloc o) := fun o => convB c2 rfl (hr2.alloc o)
  have hst : strOf [97, 98] = ⟨#[97, 98]⟩ := rfl
  go_wp2
  go_ret
  exact ⟨rfl, hb02.alloc hb02.size _⟩
end Go.Proofs.YtaenoonadodbnaaDoor
