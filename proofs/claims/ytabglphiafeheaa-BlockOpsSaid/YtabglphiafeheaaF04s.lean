/- plinthref04.EncodeOp. -/
import Derived.Test.YtabglphiafeheaaF04c
namespace Go.Proofs.Ytabglphiafeheaa
open Go.RowKit Go.Px
set_option linter.unusedVariables false
theorem fits4 {v : Nat} (h : v ≤ 4294967295) : fitsE v 4 = 0 := by unfold fitsE; rw [if_pos (by decide), if_pos (by show v < 256 ^ 4; omega)]
set_option maxHeartbeats 3200000 in
theorem renc_any (k : Nat) (p n : Int) (D : Option Addr) (d dc : Nat) (ds : List UInt8) (O : Option Addr) (o oc : Nat) (os : List UInt8) (w : World) (hk : k < 256) (hd : ds.length = d) (ho : os.length = o) (hD : Rd w D (bys ds)) (hO : Rd w O (bys os)) :
    Calls Try.prog 23 #[opv k p n D d dc O o oc] w (EncIs k p n ds os w) := by
  obtain ⟨g, hg⟩ : ∃ g, w.heap.size = g := ⟨_, rfl⟩
  obtain ⟨w0, hw0⟩ : ∃ w0, w.alloc (.cells #[.int .u8 k, .int .i64 p, .int .i64 n, .slice D d dc, .slice O o oc] 27) = w0 := ⟨_, rfl⟩
  have hB : Blk w0 g [.int .u8 k, .int .i64 p, .int .i64 n, .slice D d dc, .slice O o oc] 27 := by rw [← hw0, ← hg]; exact Blk.new _ _ _
  have hb0 : Below w.heap.size w w0 := by rw [← hw0]; exact (Below.refl _ _).alloc (Nat.le_refl _) _
  have y0 := hB.cell (j := 0) rfl
  have y1 := hB.cell (j := 1) rfl
  have y2 := hB.cell (j := 2) rfl
  have y3 := hB.cell (j := 3) rfl
  have y4 := hB.cell (j := 4) rfl
  have Hd := hide hd
  have Ho := hide ho
  clear hd ho
  go_enter Try.func23, Try.ntmps23
  go_wp2_with fail
  go_fit (rform_any k p n D d dc O o oc w0 hk)
  rcases fmE_two k p n d o with ⟨hf, hfe⟩ | hfe
  · have hf' := hf
    obtain ⟨⟨⟨p1, p2⟩, ⟨n1, n2⟩, d1, o1⟩, hkk⟩ := hf'
    obtain ⟨P, rfl⟩ := Int.eq_ofNat_of_zero_le p1
    obtain ⟨N, rfl⟩ := Int.eq_ofNat_of_zero_le n1
    have HL := hide (show encL k (P : Int) (N : Int) ds os = encB k P N ds os by
      unfold encL; rw [Hd.out, Ho.out, if_pos hf]; rfl)
    have HE := hide (show fmE k (P : Int) (N : Int) ds.length os.length = 0 by rw [Hd.out, Ho.out]; exact hfe)
    rw [hfe]
    clear hf hfe hkk
    rintro x w1 ⟨rfl, hb1⟩
    have hB1 := hB.below hb1
    have hb01 := hb0.trans (hb1.mono hb0.size)
    clear y0 y1 y2 y3 y4
    have u0 := hB1.cell (j := 0) rfl
    have hBa := hB1.alloc (.cells #[.int .u8 k] 5)
    have u1 := hB1.cell (j := 1) rfl
    have v1 := hBa.cell (j := 1) rfl
    have hk1 := hide (show bys [UInt8.ofNat k] = [.int .u8 (k : Int)] by simp [bys, Nat.mod_eq_of_lt hk])
    have hA1 : Rd (w1.alloc (.cells #[.int .u8 k] 5)) (some ⟨w1.heap.size, 0, none⟩) (bys [UInt8.ofNat k]) := by
      rw [hk1.out]; exact Rd.new1 w1 _ _
    have hb02 : Below w.heap.size w (w1.alloc (.cells #[.int .u8 k] 5)) := hb01.alloc hb01.size _
    go_wp2_with fail
    go_fit (rput_any (some ⟨w1.heap.size, 0, none⟩) 1 1 [UInt8.ofNat k] P 4 _ rfl (by omega) hA1 (by omega))
    rw [fits4 (by omega), show putB [UInt8.ofNat k] P 4 = [UInt8.ofNat k] ++ leB 4 P from by unfold putB; rw [if_pos (fits4 (by omega))]; rfl]
    rintro x w3 ⟨v3, rfl, ho3, hb3⟩
    have hB3 := hBa.below hb3
    have hb03 := hb02.trans (hb3.mono hb02.size)
    have hl3 : ([UInt8.ofNat k] ++ leB 4 P).length = 5 := by simp [leB_length]
    obtain ⟨L3, hL3⟩ : ∃ L, [UInt8.ofNat k] ++ leB 4 P = L := ⟨_, rfl⟩
    rw [hL3] at ho3 hl3
    rw [hl3] at ho3
    obtain ⟨A3, c3, rfl, _, hc3, hcm3, hr3, _⟩ := own_out ho3
    have HL3 := hide hL3
    have HLl3 := hide hl3
    clear hL3 hl3 u0 u1 v1
    have s2 := hB3.cell (j := 2) rfl
    go_wp2_with fail
    go_fit (rput_any A3 5 c3 L3 N 4 _ HLl3.out (by omega) hr3 (by omega))
    rw [fits4 (by omega), show putB L3 N 4 = L3 ++ leB 4 N from by unfold putB; rw [if_pos (fits4 (by omega))]; rfl]
    rintro x w4 ⟨v4, rfl, ho4, hb4⟩
    have hB4 := hB3.below hb4
    have hb04 := hb03.trans (hb4.mono hb03.size)
    have hl4 : (L3 ++ leB 4 N).length = 9 := by rw [List.length_append, HLl3.out, leB_length]
    obtain ⟨L4, hL4⟩ : ∃ L, L3 ++ leB 4 N = L := ⟨_, rfl⟩
    rw [hL4] at ho4 hl4
    rw [hl4] at ho4
    obtain ⟨A4, c4, rfl, _, hc4, hcm4, hr4, _⟩ := own_out ho4
    have HL4 := hide hL4
    have HLl4 := hide hl4
    clear hL4 hl4 s2
    have s3 := hB4.cell (j := 3) rfl
    have hpt : putTextE ds = 0 ∧ putTextB L4 ds = L4 ++ textB ds := by
      unfold putTextE putTextB; rw [if_pos (by rw [Hd.out]; omega), if_pos (by rw [Hd.out]; omega)]; exact ⟨rfl, rfl⟩
    have Hpt := hide hpt
    clear hpt
    go_wp2_with fail
    go_fit (rputText_any A4 9 c4 L4 D d dc ds w4 HLl4.out (by omega) hr4 Hd.out (hD.below hb04))
    rw [Hpt.out.1, Hpt.out.2]
    rintro x w5 ⟨v5, rfl, ho5, hb5⟩
    have hB5 := hB4.below hb5
    have hb05 := hb04.trans (hb5.mono hb04.size)
    have hl5 : (L4 ++ textB ds).length = 9 + (4 + d) := by unfold textB; rw [List.length_append, List.length_append, HLl4.out, leB_length, Hd.out]
    obtain ⟨L5, hL5⟩ : ∃ L, L4 ++ textB ds = L := ⟨_, rfl⟩
    rw [hL5] at ho5 hl5
    rw [hl5] at ho5
    obtain ⟨A5, c5, rfl, _, hc5, hcm5, hr5, _⟩ := own_out ho5
    have HL5 := hide hL5
    have HLl5 := hide hl5
    clear hL5 hl5 s3
    have s4 := hB5.cell (j := 4) rfl
    have hpt4 : putTextE os = 0 ∧ putTextB L5 os = L5 ++ textB os := by
      unfold putTextE putTextB; rw [if_pos (by rw [Ho.out]; omega), if_pos (by rw [Ho.out]; omega)]; exact ⟨rfl, rfl⟩
    have Hpt4 := hide hpt4
    clear hpt4
    go_wp2_with fail
    go_fit (rputText_any A5 (9 + (4 + d)) c5 L5 O o oc os w5 HLl5.out (by omega) hr5 Ho.out (hO.below hb05))
    rw [Hpt4.out.1, Hpt4.out.2]
    rintro x w6 ⟨v6, rfl, ho6, hb6⟩
    have hLL : L5 ++ textB os = encB k P N ds os := by rw [← HL5.out, ← HL4.out, ← HL3.out]; unfold encB; simp only [List.append_assoc]
    rw [hLL] at ho6
    clear hLL
    go_wp2
    go_ret2
    rw [EncIs, HE.out, HL.out]
    exact ⟨_, rfl, own_weak ho6 hb05.size, hb05.trans (hb6.mono hb05.size)⟩
  · have HL := hide (show encL k p n ds os = [] by
      unfold encL fmE at *; rw [Hd.out, Ho.out]; split at hfe
      · cases hfe
      · rename_i h; rw [if_neg h])
    have HE := hide (show fmE k p n ds.length os.length = 41 by rw [Hd.out, Ho.out]; exact hfe)
    rw [hfe]
    clear hfe
    rintro x w1 ⟨rfl, hb1⟩
    go_wp2
    go_ret2
    rw [EncIs, HE.out, HL.out]
    exact ⟨_, rfl, World.ownsRow_nil _ _ _ _, hb0.trans (hb1.mono hb0.size)⟩
end Go.Proofs.Ytabglphiafeheaa
