/- block.EncodeOp. -/
import Derived.Test.YtabglphiafeheaaF04b
import Derived.Test.YtabglphiafeheaaF01r
namespace Go.Proofs.Ytabglphiafeheaa
open Go.RowKit Go.Px
set_option linter.unusedVariables false

def encB (k p n : Nat) (ds os : List UInt8) : List UInt8 := [UInt8.ofNat k] ++ (leB 4 p ++ leB 4 n) ++ textB ds ++ textB os
def encL (k : Nat) (p n : Int) (ds os : List UInt8) : List UInt8 := if fmP k p n ds.length os.length then encB k p.toNat n.toNat ds os else []
def EncIs (k : Nat) (p n : Int) (ds os : List UInt8) (w : World) (e : Ending) (w' : World) : Prop :=
  ∃ v, e = .returned (.tuple #[v, .int .i64 (fmE k p n ds.length os.length)]) ∧ w'.ownsRow w.heap.size 5 1 v (encL k p n ds os).length (bys (encL k p n ds os)) ∧ Below w.heap.size w w'

set_option maxHeartbeats 1600000 in
theorem enc_any (k : Nat) (p n : Int) (D : Option Addr) (d dc : Nat) (ds : List UInt8) (O : Option Addr) (o oc : Nat) (os : List UInt8) (w : World) (hk : k < 256) (hd : ds.length = d) (ho : os.length = o) (hD : Rd w D (bys ds)) (hO : Rd w O (bys os)) :
    Calls Try.prog 22 #[opv k p n D d dc O o oc] w (EncIs k p n ds os w) := by
  obtain ⟨g, hg⟩ : ∃ g, w.heap.size = g := ⟨_, rfl⟩
  obtain ⟨w0, hw0⟩ : ∃ w0, w.alloc (.cells #[.int .u8 k, .int .i64 p, .int .i64 n, .slice D d dc, .slice O o oc] 27) = w0 := ⟨_, rfl⟩
  have hB : Blk w0 g [.int .u8 k, .int .i64 p, .int .i64 n, .slice D d dc, .slice O o oc] 27 := by rw [← hw0, ← hg]; exact Blk.new _ _ _
  have hb0 : Below w.heap.size w w0 := by rw [← hw0]; exact (Below.refl _ _).alloc (Nat.le_refl _) _
  have y0 := hB.cell (j := 0) rfl
  have y1 := hB.cell (j := 1) rfl
  have y2 := hB.cell (j := 2) rfl
  have y3 := hB.cell (j := 3) rfl
  have y4 := hB.cell (j := 4) rfl
  have Hd := hide hd
  have Ho := hide ho
  clear hd ho
  go_enter Try.func22, Try.ntmps22
  go_wp2_with fail
  go_fit (form_any k p n D d dc O o oc w0 hk)
  rcases fmE_two k p n d o with ⟨hf, hfe⟩ | hfe
  · have hf' := hf
    obtain ⟨⟨⟨p1, p2⟩, ⟨n1, n2⟩, d1, o1⟩, hkk⟩ := hf'
    obtain ⟨P, rfl⟩ := Int.eq_ofNat_of_zero_le p1
    obtain ⟨N, rfl⟩ := Int.eq_ofNat_of_zero_le n1
    have HL := hide (show encL k (P : Int) (N : Int) ds os = encB k P N ds os by
      unfold encL; rw [Hd.out, Ho.out, if_pos hf]; rfl)
    have HE := hide (show fmE k (P : Int) (N : Int) ds.length os.length = 0 by rw [Hd.out, Ho.out]; exact hfe)
    rw [hfe]
    clear hf hfe hkk
    rintro x w1 ⟨rfl, hb1⟩
    have hB1 := hB.below hb1
    have hb01 := hb0.trans (hb1.mono hb0.size)
    have u0 := hB1.cell (j := 0) rfl
    have u1 := hB1.cell (j := 1) rfl
    have u2 := hB1.cell (j := 2) rfl
    have u3 := hB1.cell (j := 3) rfl
    have u4 := hB1.cell (j := 4) rfl
    have hk1 := hide (show bys [UInt8.ofNat k] = [.int .u8 (k : Int)] by simp [bys, Nat.mod_eq_of_lt hk])
    have hA1 : Rd ((w1.alloc (.cells #[.int .u8 k] 5)).alloc (.cells #[.int .u64 P, .int .u64 N] 57)) (some ⟨w1.heap.size, 0, none⟩) (bys [UInt8.ofNat k]) := by
      rw [hk1.out]; exact (Rd.new1 w1 _ _).alloc _
    have hA2 : Rd ((w1.alloc (.cells #[.int .u8 k] 5)).alloc (.cells #[.int .u64 P, .int .u64 N] 57)) (some ⟨w1.heap.size + 1, 0, none⟩) (u64s [P, N]) := by
      have := Rd.newN (w1.alloc (.cells #[.int .u8 k] 5)) (u64s [P, N]) 57 (0, 0)
      rwa [World.size_alloc] at this
    have hb2 : Below w.heap.size w ((w1.alloc (.cells #[.int .u8 k] 5)).alloc (.cells #[.int .u64 P, .int .u64 N] 57)) := (hb01.alloc hb01.size _).alloc (by have := hb01.size; simp; omega) _
    have hB2 := (hB1.alloc (.cells #[.int .u8 k] 5)).alloc (.cells #[.int .u64 P, .int .u64 N] 57)
    have hall : allE 4 [P, N] = 0 := by
      have e1 : fitsE P 4 = 0 := by unfold fitsE; rw [if_pos (by decide), if_pos (by show P < 256 ^ 4; omega)]
      have e2 : fitsE N 4 = 0 := by unfold fitsE; rw [if_pos (by decide), if_pos (by show N < 256 ^ 4; omega)]
      show (if fitsE P 4 = 0 then (if fitsE N 4 = 0 then 0 else fitsE N 4) else fitsE P 4) = 0
      rw [if_pos e1, if_pos e2]
    have hab : putAllB [UInt8.ofNat k] [P, N] 4 = [UInt8.ofNat k] ++ (leB 4 P ++ leB 4 N) := by
      unfold putAllB; rw [if_pos hall]; simp [flatB]
    have Hall := hide hall
    have Hab := hide hab
    clear hall hab y0 y1 y2 y3 y4
    have hBa := hB1.alloc (.cells #[.int .u8 k] 5)
    have t1 := hBa.cell (j := 1) rfl
    have t2 := hBa.cell (j := 2) rfl
    go_wp2_with fail
    go_fit (putAll_any (some ⟨w1.heap.size, 0, none⟩) 1 1 [UInt8.ofNat k] 4 (some ⟨w1.heap.size + 1, 0, none⟩) 2 2 [P, N] _ rfl (by omega) hA1 rfl (by omega) hA2 (fun v hv => by simp at hv; omega))
    rw [Hall.out, Hab.out]
    rintro x w3 ⟨v3, rfl, ho3, hb3⟩
    have hB3 := hB2.below hb3
    have hb03 := hb2.trans (hb3.mono hb2.size)
    have hl3 : ([UInt8.ofNat k] ++ (leB 4 P ++ leB 4 N)).length = 9 := by simp [leB_length]
    obtain ⟨L3, hL3⟩ : ∃ L, [UInt8.ofNat k] ++ (leB 4 P ++ leB 4 N) = L := ⟨_, rfl⟩
    rw [hL3] at ho3 hl3
    rw [hl3] at ho3
    obtain ⟨A3, c3, rfl, _, hc3, hcm3, hr3, _⟩ := own_out ho3
    have s3 := hB3.cell (j := 3) rfl
    have s4 := hB3.cell (j := 4) rfl
    have hpt : putTextE ds = 0 ∧ putTextB L3 ds = L3 ++ textB ds := by
      unfold putTextE putTextB; rw [if_pos (by rw [Hd.out]; omega), if_pos (by rw [Hd.out]; omega)]; exact ⟨rfl, rfl⟩
    have Hpt := hide hpt
    clear hpt t1 t2
    go_wp2_with fail
    go_fit (putText_any A3 9 c3 L3 D d dc ds w3 hl3 (by omega) hr3 Hd.out (hD.below hb03))
    rw [Hpt.out.1, Hpt.out.2]
    rintro x w4 ⟨v4, rfl, ho4, hb4⟩
    have hB4 := hB3.below hb4
    have hb04 := hb03.trans (hb4.mono hb03.size)
    have hl4 : (L3 ++ textB ds).length = 9 + (4 + d) := by unfold textB; rw [List.length_append, List.length_append, hl3, leB_length, Hd.out]
    obtain ⟨L4, hL4⟩ : ∃ L, L3 ++ textB ds = L := ⟨_, rfl⟩
    rw [hL4] at ho4 hl4
    rw [hl4] at ho4
    obtain ⟨A4, c4, rfl, _, hc4, hcm4, hr4, _⟩ := own_out ho4
    have r4 := hB4.cell (j := 4) rfl
    have hpt4 : putTextE os = 0 ∧ putTextB L4 os = L4 ++ textB os := by
      unfold putTextE putTextB; rw [if_pos (by rw [Ho.out]; omega), if_pos (by rw [Ho.out]; omega)]; exact ⟨rfl, rfl⟩
    have Hpt4 := hide hpt4
    clear hpt4
    go_wp2_with fail
    go_fit (putText_any A4 (9 + (4 + d)) c4 L4 O o oc os w4 hl4 (by omega) hr4 Ho.out (hO.below hb04))
    rw [Hpt4.out.1, Hpt4.out.2]
    rintro x w5 ⟨v5, rfl, ho5, hb5⟩
    have hLL : L4 ++ textB os = encB k P N ds os := by rw [← hL4, ← hL3]; rfl
    rw [hLL] at ho5
    clear hL3 hL4
    go_wp2
    go_ret2
    rw [EncIs, HE.out, HL.out]
    exact ⟨_, rfl, own_weak ho5 hb04.size, hb04.trans (hb5.mono hb04.size)⟩
  · have HL := hide (show encL k p n ds os = [] by
      unfold encL fmE at *; rw [Hd.out, Ho.out]; split at hfe
      · cases hfe
      · rename_i h; rw [if_neg h])
    have HE := hide (show fmE k p n ds.length os.length = 41 by rw [Hd.out, Ho.out]; exact hfe)
    rw [hfe]
    clear hfe
    rintro x w1 ⟨rfl, hb1⟩
    go_wp2
    go_ret2
    rw [EncIs, HE.out, HL.out]
    exact ⟨_, rfl, World.ownsRow_nil _ _ _ _, hb0.trans (hb1.mono hb0.size)⟩
end Go.Proofs.Ytabglphiafeheaa
