/- awake of the laws of layer 5. -/
import Derived.Test.YtjilkaciopiabaaDoorF05h
namespace Go.Proofs.YtjilkaciopiabaaDoor
open Go.RowKit Go.Px
set_option linter.unusedVariables false
theorem aw1 : doE 4 2 0 2 1 2 4 0 1 = 0 ∧ doKE 4 2 (List.replicate 8 0) 0 2 1 2 [97, 98, 99, 100] [] 1 = 1 ∧ doDE 4 2 (List.replicate 8 0) 0 2 1 2 [97, 98, 99, 100] [] 1 = [] ∧ doBE 4 2 (List.replicate 8 0) 0 2 1 2 [97, 98, 99, 100] [] 1 = [0, 0, 97, 98, 99, 100, 0, 0] ∧ doVE 4 2 (List.replicate 8 0) (List.replicate 4 0) 0 2 1 2 [97, 98, 99, 100] [] 1 = [0, 1, 1, 0] ∧ doLE 4 2 0 2 1 2 [97, 98, 99, 100] [] 1 = 1 := by decide
theorem aw2 : doE 4 2 1 5 2 0 2 2 2 = 0 ∧ doKE 4 2 [0, 0, 97, 98, 99, 100, 0, 0] 1 5 2 0 [120, 121] [99, 100] 2 = 1 ∧ doDE 4 2 [0, 0, 97, 98, 99, 100, 0, 0] 1 5 2 0 [120, 121] [99, 100] 2 = [] ∧ doBE 4 2 [0, 0, 97, 98, 99, 100, 0, 0] 1 5 2 0 [120, 121] [99, 100] 2 = [0, 0, 97, 98, 120, 121, 0, 0] ∧ doVE 4 2 [0, 0, 97, 98, 99, 100, 0, 0] [0, 1, 1, 0] 1 5 2 0 [120, 121] [99, 100] 2 = [0, 1, 2, 0] ∧ doLE 4 2 1 5 2 0 [120, 121] [99, 100] 2 = 2 := by decide
theorem aw3 : doE 4 2 2 1 1 3 0 0 3 = 0 ∧ doKE 4 2 [0, 0, 97, 98, 120, 121, 0, 0] 2 1 1 3 [] [] 3 = 1 ∧ doDE 4 2 [0, 0, 97, 98, 120, 121, 0, 0] 2 1 1 3 [] [] 3 = [97, 98, 120, 121, 0, 0] ∧ doBE 4 2 [0, 0, 97, 98, 120, 121, 0, 0] 2 1 1 3 [] [] 3 = [0, 0, 97, 98, 120, 121, 0, 0] ∧ doVE 4 2 [0, 0, 97, 98, 120, 121, 0, 0] [0, 1, 2, 0] 2 1 1 3 [] [] 3 = [0, 1, 2, 0] ∧ doLE 4 2 2 1 1 3 [] [] 3 = 3 := by decide
theorem aw4 : pgC [0, 1, 2, 0] 1 4 = 1 := by decide
set_option maxHeartbeats 3200000 in
theorem awake05_any (w : World) : Calls Tryd.prog 5 #[] w fun e w' => e = .returned (.bool true) ∧ Below w.heap.size w w' := by
  go_enter Tryd.func5, Tryd.ntmps5
  go_wp2_with fail
  go_fit (new_ok 4 2 8 w (by decide) (by decide) rfl)
  rintro x w1 ⟨v, r, s, rfl, hV1, hb1, l1, l2, l3⟩
  have vlt := hV1.blk.lt
  have rlt := hV1.row.lt
  have slt := hV1.ver.lt
  obtain ⟨g, hg⟩ : ∃ g, w1.heap.size = g := ⟨_, rfl⟩
  rw [hg] at vlt rlt slt
  obtain ⟨w2, hw2⟩ : ∃ w2, w1.alloc (.cells #[.int .u8 97, .int .u8 98, .int .u8 99, .int .u8 100] 5 (4, 5)) = w2 := ⟨_, rfl⟩
  have hr2 : Rd w2 (some ⟨g, 0, none⟩) (bys [97, 98, 99, 100]) := by rw [← hw2, ← hg]; exact Rd.newN w1 (bys [97, 98, 99, 100]) _ (4, 5)
  have hb12 : Below w1.heap.size w1 w2 := by rw [← hw2]; exact (Below.refl _ _).alloc (Nat.le_refl _) _
  have hV2 := hV1.below hb12
  have hb02 := hb1.trans (hb12.mono hb1.size)
  have Hw2 := hide hw2
  clear hw2
  go_wp2_with fail
  rw [Hw2.out]
  go_fit (do_any w2 v r s 4 2 8 _ _ 0 2 1 2 (some ⟨g, 0, none⟩) 4 4 [97, 98, 99, 100] none 0 0 [] 1 (by decide) hV2 rfl rfl hr2 Rd.nil (fun _ a ha => by injection ha with ha; subst ha; exact ⟨by show g ≠ v; omega, by show g ≠ r; omega, by show g ≠ s; omega⟩) (fun _ a ha => by cases ha))
  rintro x w3 ⟨A3, c3, hx, rA3, uA3, hV3, hU3⟩
  rw [aw1.2.1, aw1.2.2.1, show doE (4 : Nat) (2 : Nat) 0 2 1 2 ([97, 98, 99, 100] : List UInt8).length ([] : List UInt8).length 1 = 0 from aw1.1] at hx
  rw [aw1.2.2.2.1, aw1.2.2.2.2.1, show doLE (4 : Nat) (2 : Nat) 0 2 1 2 [97, 98, 99, 100] [] 1 = 1 from aw1.2.2.2.2.2] at hV3
  subst hx
  have hb03 := hU3.below hb02 hb02.size l1 l2 l3
  obtain ⟨g3, hg3⟩ : ∃ g, w3.heap.size = g := ⟨_, rfl⟩
  have sz3 : g < g3 := by
    have h1 := hU3.size
    have h2 := hr2 0 _ rfl
    obtain ⟨a, ha, hc⟩ := h2
    injection ha with ha
    subst ha
    have := World.block_lt_of_cell? w2 _ hc
    simp only [add_block] at this
    omega
  obtain ⟨w4, hw4⟩ : ∃ w4, ((w3.alloc (.cells #[.int .u8 1, .slice A3 0 c3] 49)).alloc (.cells #[.int .u8 99, .int .u8 100] 5 (2, 3))).alloc (.cells #[.int .u8 120, .int .u8 121] 5 (2, 3)) = w4 := ⟨_, rfl⟩
  have hA4 : Blk w4 g3 [.int .u8 1, .slice A3 0 c3] 49 := by rw [← hw4, ← hg3]; exact ((Blk.new w3 [.int .u8 1, .slice A3 0 c3] _).alloc _).alloc _
  have hQ4 : Rd w4 (some ⟨g3 + 1, 0, none⟩) (bys [99, 100]) := by
    rw [← hw4, ← hg3]
    have := (Rd.newN (w3.alloc (.cells #[.int .u8 1, .slice A3 0 c3] 49)) (bys [99, 100]) 5 (2, 3)).alloc (.cells #[.int .u8 120, .int .u8 121] 5 (2, 3))
    rwa [World.size_alloc] at this
  have hD4 : Rd w4 (some ⟨g3 + 1 + 1, 0, none⟩) (bys [120, 121]) := by
    rw [← hw4, ← hg3]
    have := Rd.newN ((w3.alloc (.cells #[.int .u8 1, .slice A3 0 c3] 49)).alloc (.cells #[.int .u8 99, .int .u8 100] 5 (2, 3))) (bys [120, 121]) 5 (2, 3)
    rwa [World.size_alloc, World.size_alloc] at this
  have hb34 : Below w3.heap.size w3 w4 := by rw [← hw4]; exact (((Below.refl _ _).alloc (Nat.le_refl _) _).alloc (by simp) _).alloc (by simp; omega) _
  have hV4 := hV3.below hb34
  have hb04 := hb03.trans (hb34.mono hb03.size)
  have Hw4 := hide hw4
  clear hw4 hr2
  go_wp2_with fail
  rw [Hw4.out]
  go_fit (do_any w4 v r s 4 2 8 _ _ 1 5 2 0 (some ⟨g3 + 1 + 1, 0, none⟩) 2 2 [120, 121] (some ⟨g3 + 1, 0, none⟩) 2 2 [99, 100] 2 (by decide) hV4 rfl rfl hD4 hQ4 (fun _ a ha => by injection ha with ha; subst ha; exact ⟨by show g3 + 1 + 1 ≠ v; omega, by show g3 + 1 + 1 ≠ r; omega, by show g3 + 1 + 1 ≠ s; omega⟩) (fun _ a ha => by injection ha with ha; subst ha; exact ⟨by show g3 + 1 ≠ v; omega, by show g3 + 1 ≠ r; omega, by show g3 + 1 ≠ s; omega⟩))
  rintro x w5 ⟨A5, c5, hx, rA5, uA5, hV5, hU5⟩
  rw [aw2.2.1, aw2.2.2.1, show doE (4 : Nat) (2 : Nat) 1 5 2 0 ([120, 121] : List UInt8).length ([99, 100] : List UInt8).length 2 = 0 from aw2.1] at hx
  rw [aw2.2.2.2.1, aw2.2.2.2.2.1, show doLE (4 : Nat) (2 : Nat) 1 5 2 0 [120, 121] [99, 100] 2 = 2 from aw2.2.2.2.2.2] at hV5
  subst hx
  have hb05 := hU5.below hb04 hb04.size l1 l2 l3
  have hA5 : Blk w5 g3 [.int .u8 1, .slice A3 0 c3] 49 := (hU5.blk g3 hA4.lt (by omega) (by omega) (by omega)).trans hA4
  obtain ⟨g5, hg5⟩ : ∃ g, w5.heap.size = g := ⟨_, rfl⟩
  have sz5 : g3 < g5 := by have := hA5.lt; omega
  obtain ⟨w6, hw6⟩ : ∃ w6, w5.alloc (.cells #[.int .u8 1, .slice A5 0 c5] 49) = w6 := ⟨_, rfl⟩
  have hB6 : Blk w6 g5 [.int .u8 1, .slice A5 0 c5] 49 := by rw [← hw6, ← hg5]; exact Blk.new w5 [.int .u8 1, .slice A5 0 c5] _
  have hb56 : Below w5.heap.size w5 w6 := by rw [← hw6]; exact (Below.refl _ _).alloc (Nat.le_refl _) _
  have hV6 := hV5.below hb56
  have hA6 := hA5.below hb56
  have hb06 := hb05.trans (hb56.mono hb05.size)
  have Hw6 := hide hw6
  clear hw6
  go_wp2_with fail
  rw [Hw6.out]
  go_fit (do_any w6 v r s 4 2 8 _ _ 2 1 1 3 none 0 0 [] none 0 0 [] 3 (by decide) hV6 rfl rfl Rd.nil Rd.nil (fun _ a ha => by cases ha) (fun _ a ha => by cases ha))
  rintro x w7 ⟨A7, c7, hx, rA7, uA7, hV7, hU7⟩
  rw [aw3.2.1, aw3.2.2.1, show doE (4 : Nat) (2 : Nat) 2 1 1 3 ([] : List UInt8).length ([] : List UInt8).length 3 = 0 from aw3.1] at hx
  rw [aw3.2.2.2.1, aw3.2.2.2.2.1, show doLE (4 : Nat) (2 : Nat) 2 1 1 3 [] [] 3 = 3 from aw3.2.2.2.2.2] at hV7
  rw [aw3.2.2.1] at rA7
  subst hx
  have hb07 := hU7.below hb06 hb06.size l1 l2 l3
  have hA7 : Blk w7 g3 [.int .u8 1, .slice A3 0 c3] 49 := (hU7.blk g3 hA6.lt (by omega) (by omega) (by omega)).trans hA6
  have hB7 : Blk w7 g5 [.int .u8 1, .slice A5 0 c5] 49 := (hU7.blk g5 hB6.lt (by omega) (by omega) (by omega)).trans hB6
  have hb78 : Below w7.heap.size w7 (w7.alloc (.cells #[.int .u8 1, .slice A7 6 c7] 49)) := (Below.refl _ _).alloc (Nat.le_refl _) _
  have hb08 := hb07.trans (hb78.mono hb07.size)
  have hV8 := hV7.below hb78
  have k0 := (hA7.below hb78).cell (j := 0) rfl
  have k1 := (hB7.below hb78).cell (j := 0) rfl
  have cv := convB (n := 6) c7 rfl (rA7.below hb78)
  go_wp2_with fail
  go_fit (pages_len _ v r s 4 2 8 _ _ 3 1 hV8)
  rw [aw4]
  rintro x w9 ⟨A9, c9, rfl, hb9⟩
  go_wp2
  go_ret
  exact ⟨by rfl, hb08.trans (hb9.mono hb08.size)⟩
end Go.Proofs.YtjilkaciopiabaaDoor
