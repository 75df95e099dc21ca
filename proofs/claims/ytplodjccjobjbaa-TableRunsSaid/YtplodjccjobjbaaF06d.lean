/- The laws' awake. -/
import Derived.Test.YtplodjccjobjbaaF06c
namespace Go.Proofs.Ytplodjccjobjbaa
open Go.RowKit Go.Px Go.Maps
set_option linter.unusedVariables false
theorem tmPut_same (m : TM) (c s : Int) (k : Nat) (bs : List UInt8) : tmPut m c s k bs c = some (s, k, bs) := by unfold tmPut; rw [if_pos rfl]
theorem tmPut_other (m : TM) {c x : Int} (s : Int) (k : Nat) (bs : List UInt8) (h : x ≠ c) : tmPut m c s k bs x = m x := by unfold tmPut; rw [if_neg h]
theorem szNew_none {m : TM} {c : Int} {S : Nat} (h : m c = none) : szNew m c S = S + 1 := by unfold szNew; rw [h]; rfl
theorem szNew_some {m : TM} {c : Int} {S : Nat} {x : Int × Nat × List UInt8} (h : m c = some x) : szNew m c S = S := by unfold szNew; rw [h]; rfl
set_option maxHeartbeats 3200000 in
theorem awake06_any (w : World) : Calls Try.prog 8 #[] w fun e w' => e = .returned (.bool true) ∧ Below w.heap.size w w' := by
  obtain ⟨B, hB⟩ : ∃ x, w.heap.size = x := ⟨_, rfl⟩
  have hBle : B ≤ w.heap.size := by omega
  have HB := hide hB
  clear hB
  go_enter Try.func8, Try.ntmps8
  go_wp2_with fail
  go_fit (new06_any w)
  rw [HB.out]
  rintro x w1 ⟨t, bm, rfl, hT1, hb1⟩
  obtain ⟨w2, hw2⟩ : ∃ x, w1.alloc (.cells #[.int .u8 120] 5 (1, 2)) = x := ⟨_, rfl⟩
  obtain ⟨g2, hg2⟩ : ∃ x, w1.heap.size = x := ⟨_, rfl⟩
  have hb12 : Below w1.heap.size w1 w2 := by rw [← hw2]; exact (Below.refl _ _).alloc (Nat.le_refl _) _
  have hr2 : Rd w2 (some ⟨g2, 0, none⟩) (bys [120]) := by rw [← hw2, ← hg2]; exact Rd.newN w1 [.int .u8 120] _ (1, 2)
  have hT2 := hT1.below hb12
  have hbB := hb1.size
  have hb02 := hb1.trans (hb12.mono (by omega))
  have sz2 := hb12.size
  have Hw2 := hide hw2
  clear hw2
  have C2 := hide (put_ok hT2 5 1 0 [] (fun W hW => ask_new0 hW 5 1 rfl rfl rfl (by show (0 : Nat) < 64; decide)) 1 (some ⟨g2, 0, none⟩) 1 1 [120] (by decide) rfl (Nat.le_refl _) (by decide) hr2 rfl (by decide) (by decide) (by decide) (by decide))
  go_wp2_with fail
  rw [Hw2.out]
  go_fit C2.out
  rintro x w3 ⟨rfl, ⟨D3, hT3, hsz3⟩, sz3, hbb3⟩
  have hb03 := hbb3 w hb02 (by omega)
  rw [szNew_none rfl] at hsz3
  have hsz3' : Maps.size D3 = 1 := hsz3
  have C3 := hide (ask_again hT3 5 1 1 [120] rfl rfl (tmPut_same _ _ _ _ _))
  clear hsz3 hbb3
  go_wp2_with fail
  go_fit C3.out
  rintro x w4 ⟨A4, c4, rfl, hl4, hm4, hd4, hr4, ha4, hT4, hb4⟩
  have hb04 := hb03.trans (hb4.mono (by omega))
  obtain ⟨w5, hw5⟩ : ∃ x, w4.alloc (.cells #[.int .u8 1, .slice A4 1 c4] 33) = x := ⟨_, rfl⟩
  obtain ⟨g5, hg5⟩ : ∃ x, w4.heap.size = x := ⟨_, rfl⟩
  have hR5 : Blk w5 g5 [.int .u8 1, .slice A4 1 c4] 33 := by rw [← hw5, ← hg5]; exact Blk.new w4 [.int .u8 1, .slice A4 1 c4] _
  have hb45 : Below w4.heap.size w4 w5 := by rw [← hw5]; exact (Below.refl _ _).alloc (Nat.le_refl _) _
  have sz4 := hb4.size
  have sz5 := hb45.size
  have hb05 := hb04.trans (hb45.mono (by omega))
  have hT5 := hT4.below hb45
  have Hw5 := hide hw5
  clear hw5
  have C5 := hide (ask_new1 hT5 5 2 1 1 [120] rfl rfl (tmPut_same _ _ _ _ _) (by decide))
  go_wp2_with fail
  rw [Hw5.out]
  go_fit C5.out
  rintro x w6 ⟨A6, c6, rfl, hl6, hm6, hd6, hr6, ha6, hT6, hb6⟩
  have hb06 := hb05.trans (hb6.mono (by omega))
  have sz6 := hb6.size
  have hR6 := hR5.below hb6
  have hr46 := (hr4.below hb45).below hb6
  obtain ⟨g7, hg7⟩ : ∃ x, w6.heap.size = x := ⟨_, rfl⟩
  have hbA : Below w6.heap.size w6 (w6.alloc (.cells #[.int .u8 0, .slice A6 0 c6] 33)) := (Below.refl _ _).alloc (Nat.le_refl _) _
  have hb07 := hb06.trans (hbA.mono (by omega))
  have q0 := (hR6.alloc (.cells #[.int .u8 0, .slice A6 0 c6] 33)).cell (j := 0) rfl
  have q1 := (hR6.alloc (.cells #[.int .u8 0, .slice A6 0 c6] 33)).cell (j := 1) rfl
  have cv := convB (bs := [120]) (n := 1) c4 rfl (hr46.below hbA)
  have hT7 := hT6.below hbA
  have C7 := hide (len06_any hT7)
  rw [hsz3'] at C7
  go_wp2_with fail
  go_fit C7.out
  rintro x w8 ⟨rfl, rfl⟩
  go_wp2
  go_ret
  exact ⟨by first | rfl | (simp; done), by rw [HB.out]; exact hb07⟩
end Go.Proofs.Ytplodjccjobjbaa
