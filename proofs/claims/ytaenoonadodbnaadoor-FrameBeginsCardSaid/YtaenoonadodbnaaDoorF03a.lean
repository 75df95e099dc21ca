/- frame.appendNumber, frame.Write, plinthref03.Write. -/
import Derived.Test.YtaenoonadodbnaaDoorF01r
import Derived.Test.YtaenoonadodbnaaDoorF02d
import Derived.Test.YtaenoonadodbnaaDoorMore
namespace Go.Proofs.YtaenoonadodbnaaDoor
open Go.RowKit Go.Px
set_option linter.unusedVariables false

def frmH (k s : Nat) (bd : List UInt8) : List UInt8 := [80, 76, UInt8.ofNat k, 0] ++ leB 8 s ++ leB 4 bd.length ++ bd
def frmB (k s : Nat) (bd : List UInt8) : List UInt8 := frmH k s bd ++ leB 4 (moreN 0 (frmH k s bd))
theorem frmH_length (k s : Nat) (bd : List UInt8) : (frmH k s bd).length = bd.length + 16 := by simp [frmH, leB_length]; omega
theorem frmB_length (k s : Nat) (bd : List UInt8) : (frmB k s bd).length = bd.length + 20 := by rw [frmB, List.length_append, frmH_length, leB_length]
theorem three_cells {w : World} {g : Nat} {x y z : Value} (h : Rd w (some ⟨g, 0, none⟩) [x, y, z]) : w.cell? ⟨g, 0, none⟩ = some x ∧ w.cell? ⟨g, 1, none⟩ = some y ∧ w.cell? ⟨g, 2, none⟩ = some z :=
  ⟨by simpa [Addr.add] using h.at_ (j := 0) rfl, by simpa [Addr.add] using h.at_ (j := 1) rfl, by simpa [Addr.add] using h.at_ (j := 2) rfl⟩
theorem fits_zero {x k : Nat} (h1 : 1 ≤ k) (h8 : k ≤ 8) (h : x < 256 ^ k) : fitsE x (k : Int) = 0 := by
  unfold fitsE
  rw [if_pos (by omega)]
  simp [h]
theorem put_zero {x k : Nat} (h1 : 1 ≤ k) (h8 : k ≤ 8) (h : x < 256 ^ k) (bs : List UInt8) : putB bs x (k : Int) = bs ++ leB k x := by
  unfold putB
  rw [if_pos (fits_zero h1 h8 h)]; rfl

set_option maxHeartbeats 400000 in
theorem fappend_any (base : Nat) (v : Value) (n : Nat) (xs : List Value) (x k : Nat) (w : World) (hown : w.ownsRow base 5 1 v n xs) (hx : x < 18446744073709551616) (hk1 : 1 ≤ k) (hk : k ≤ 8) (hxk : x < 256 ^ k) (hn : n ≤ 1099511627776) (hb : base ≤ w.heap.size) :
    Calls Tryd.prog 24 #[v, .int .u64 x, .int .i64 k] w fun e w' => ∃ v', e = .returned v' ∧ Grow w v base 5 1 w' v' (n + k) (xs ++ bys (leB k x)) := by
  have hP := put_any none 0 0 [] x k w rfl (by omega) Rd.nil hx
  rw [fits_zero hk1 hk hxk, put_zero hk1 hk hxk, List.nil_append] at hP
  have HP := hide hP
  have Hk := hide hk
  have Hlen := hide (leB_length k x)
  clear hP
  go_enter Tryd.func24, Tryd.ntmps24
  go_wp2_with fail
  refine HP.out.mono ?_
  rintro e w1 ⟨u, rfl, ho1, hb1⟩
  obtain ⟨A1, c1, rfl, hl1, hc1, hcm1, hr1, ha1⟩ := own_out ho1
  go_wp2_with (first | (with_reducible refine stop_append rfl ?_) | (with_reducible refine stop_copy rfl ?_) | (with_reducible refine stop_make rfl ?_))
  refine (((Grow.start hown hb).below hb1)).append rfl rfl tBytes rfl rfl (by rw [bys_length]; omega) hr1 (bys_one _) (by have := Hlen.out; omega) (by have := Hlen.out; omega) ?_
  intro v2 w2 hG2 _
  go_wp2
  go_ret
  rw [Hlen.out] at hG2
  exact ⟨_, rfl, hG2⟩

set_option maxHeartbeats 1600000 in
theorem fwrite_any (k s : Nat) (A : Option Addr) (n c : Nat) (bd : List UInt8) (w : World) (hn : bd.length = n) (hn14 : n ≤ 16384) (hnc : n ≤ c) (hc : c ≤ 9223372036854775807) (hr : Rd w A (bys bd)) (hk : k < 256) (hs : s < 18446744073709551616) (ht : Tab w) :
    Calls Tryd.prog 11 #[.agg #[.int .u8 k, .int .u64 s, .slice A n c]] w fun e w' => ∃ v, e = .returned (.tuple #[v, .int .i64 0]) ∧ w'.ownsRow w.heap.size 5 1 v (n + 20) (bys (frmB k s bd)) ∧ Below w.heap.size w w' := by
  have Hn := hide hn
  clear hn
  have hF : Rd (w.alloc (.cells #[.int .u8 k, .int .u64 s, .slice A n c] 25)) (some ⟨w.heap.size, 0, none⟩) [.int .u8 k, .int .u64 s, .slice A n c] := Rd.newN _ _ _ (0, 0)
  have hb0 : Below w.heap.size w (w.alloc (.cells #[.int .u8 k, .int .u64 s, .slice A n c] 25)) := (Below.refl _ _).alloc (Nat.le_refl _) _
  obtain ⟨g, hg⟩ : ∃ g, w.heap.size = g := ⟨_, rfl⟩
  rw [hg] at hF
  have hm1 := moreN_lt 0 (frmH k s bd)
  have Hk4 := hide (show bys [80, 76, UInt8.ofNat k, 0] = [.int .u8 80, .int .u8 76, .int .u8 (k : Int), .int .u8 0] by
    simp [bys, Nat.mod_eq_of_lt hk])
  go_enter Tryd.func11, Tryd.ntmps11
  obtain ⟨w0, hw0⟩ : ∃ w0, w.alloc (.cells #[.int .u8 k, .int .u64 s, .slice A n c] 25) = w0 := ⟨_, rfl⟩
  rw [hw0] at hF hb0
  obtain ⟨hc0, hc1, hc2⟩ := three_cells hF
  have hr0 := hr.below hb0
  have ht0 : Tab w0 := Rd.below ht hb0
  rw [hg] at hb0
  go_wp2_with (first | (with_reducible refine stop_append rfl ?_) | (with_reducible refine stop_copy rfl ?_) | (with_reducible refine stop_make rfl ?_))
  refine go_make rfl rfl tBytes rfl rfl (n := 0) (m := 16 + n + 4) rfl (by omega) (by omega) (by omega) (by omega) (Nat.le_refl _) ?_
  intro z w1 _ _ hw1 ho1 hg1
  clear hw1
  have hb1 : Below w0.heap.size w0 w1 := grown_below (Below.refl _ _) hg1 (Nat.le_refl _) (fun g hg => by cases hg)
  obtain ⟨d0, d1, d2⟩ := three_cells (hF.below hb1)
  rw [Nat.zero_mul, List.take_zero] at ho1
  go_wp2_with (first | (with_reducible refine stop_append rfl ?_) | (with_reducible refine stop_copy rfl ?_) | (with_reducible refine stop_make rfl ?_))
  refine (((Grow.start ho1 hg1.size).alloc _)).append rfl rfl tBytes rfl rfl (m := 4) (news := bys [80, 76, UInt8.ofNat k, 0]) rfl ?_ (bys_one _) (by omega) (by omega) ?_
  · rw [Hk4.out]; exact Rd.newG rfl
  intro v2 w2 hG2 hs2
  have hb2 : Below w0.heap.size w0 w2 := hG2.allOf hb1 hg1.size (fun g' hg' => by simp [Value.ownBlock] at hg'; omega)
  obtain ⟨e0, e1, e2⟩ := three_cells (hF.below hb2)
  go_wp2_with fail
  refine (fappend_any _ _ _ _ s 8 _ hG2.owns hs (by omega) (by omega) (by omega) (by omega) hG2.le).mono ?_
  rintro e w3 ⟨v3, rfl, hG3⟩
  have hG3' := hG2.trans hG3
  have hb3 : Below w0.heap.size w0 w3 := hG3'.allOf hb1 hg1.size (fun g' hg' => by simp [Value.ownBlock] at hg'; omega)
  obtain ⟨f0, f1, f2⟩ := three_cells (hF.below hb3)
  go_wp2_with fail
  refine (fappend_any _ _ _ _ n 4 _ hG3'.owns (by omega) (by omega) (by omega) (by omega) (by omega) hG3'.le).mono ?_
  rintro e w4 ⟨v4, rfl, hG4⟩
  have hG4' := hG3'.trans hG4
  have hb4 : Below w0.heap.size w0 w4 := hG4'.allOf hb1 hg1.size (fun g' hg' => by simp [Value.ownBlock] at hg'; omega)
  obtain ⟨k0, k1, k2⟩ := three_cells (hF.below hb4)
  go_wp2_with (first | (with_reducible refine stop_append rfl ?_) | (with_reducible refine stop_copy rfl ?_) | (with_reducible refine stop_make rfl ?_))
  refine hG4'.append rfl rfl tBytes rfl rfl (by rw [bys_length, Hn.out]; omega) (hr0.below hb4) (bys_one _) (by omega) (by omega) ?_
  intro v5 w5 hG5 hs5
  have hb5 : Below w0.heap.size w0 w5 := hG5.allOf hb1 hg1.size (fun g' hg' => by simp [Value.ownBlock] at hg'; omega)
  have ho5 := hG5.owns
  rw [show ([] : List Value) ++ bys [80, 76, UInt8.ofNat k, 0] ++ bys (leB 8 s) ++ bys (leB 4 n) ++ bys bd = bys (frmH k s bd) by rw [frmH, Hn.out]; simp [bys], show 0 + 4 + 8 + 4 + n = n + 16 by omega] at ho5
  obtain ⟨A5, c5, rfl, hl5, hc5, hcm5, hr5, ha5⟩ := own_out ho5
  go_wp2_with fail
  refine (sum_any _ 1 1 [.slice A5 (n + 16) c5] [frmH k s bd] _ rfl (by decide) (Rd.newG rfl) (BRows.nil.snoc (c := c5) (by rw [frmH_length, Hn.out]) hc5 (by omega) (by unfold maxLen at hcm5; omega) (hr5.alloc _)) ((Rd.below ht0 hb5).alloc _)).mono ?_
  rw [show sumN [frmH k s bd] = moreN 0 (frmH k s bd) from rfl]
  rintro e w6 ⟨rfl, rfl⟩
  have hG6 := hG5.alloc (.cells #[.slice A5 (n + 16) c5] 23)
  have ho6 := own_below ho5 ((Below.refl _ _).alloc (Nat.le_refl _) (.cells #[.slice A5 (n + 16) c5] 23))
  go_wp2_with fail
  refine (fappend_any _ _ _ _ (moreN 0 (frmH k s bd)) 4 _ ho6 (by omega) (by omega) (by omega) hm1 (by omega) hG6.le).mono ?_
  rintro e w7 ⟨v7, rfl, hG7⟩
  go_wp2
  go_ret2
  have hb6 : Below w0.heap.size w0 (w5.alloc (.cells #[.slice A5 (n + 16) c5] 23)) := hb5.alloc hb5.size _
  have hb7 : Below w0.heap.size w0 w7 := hG7.allOf hb6 hb6.size (fun g' hg' => by cases A5 with
    | none => cases hg'
    | some a => injection hg' with hg'; have := (ha5 a rfl).1; omega)
  have ho7 := hG7.owns
  rw [← bys_append, show n + 16 + 4 = n + 20 by omega] at ho7
  refine ⟨_, rfl, own_weak ho7 (by have := hb0.size; omega), ?_⟩
  rw [hg]
  exact hb0.trans (hb7.mono (by have := hb0.size; omega))

set_option maxHeartbeats 1600000 in
theorem rwrite_any (k s : Nat) (A : Option Addr) (n c : Nat) (bd : List UInt8) (w : World) (hn : bd.length = n) (hn14 : n ≤ 16384) (hnc : n ≤ c) (hc : c ≤ 9223372036854775807) (hr : Rd w A (bys bd)) (hk : k < 256) (hs : s < 18446744073709551616) :
    Calls Tryd.prog 12 #[.agg #[.int .u8 k, .int .u64 s, .slice A n c]] w fun e w' => ∃ v, e = .returned (.tuple #[v, .int .i64 0]) ∧ w'.ownsRow w.heap.size 5 1 v (n + 20) (bys (frmB k s bd)) ∧ Below w.heap.size w w' := by
  have Hn := hide hn
  clear hn
  have hF : Rd (w.alloc (.cells #[.int .u8 k, .int .u64 s, .slice A n c] 25)) (some ⟨w.heap.size, 0, none⟩) [.int .u8 k, .int .u64 s, .slice A n c] := Rd.newN _ _ _ (0, 0)
  have hb0 : Below w.heap.size w (w.alloc (.cells #[.int .u8 k, .int .u64 s, .slice A n c] 25)) := (Below.refl _ _).alloc (Nat.le_refl _) _
  obtain ⟨g, hg⟩ : ∃ g, w.heap.size = g := ⟨_, rfl⟩
  rw [hg] at hF
  have Hk4 := hide (show bys [80, 76, UInt8.ofNat k, 0] = [.int .u8 80, .int .u8 76, .int .u8 (k : Int), .int .u8 0] by
    simp [bys, Nat.mod_eq_of_lt hk])
  have hP1 : fitsE s (8 : Nat) = 0 := fits_zero (by omega) (by omega) (by omega)
  have hP2 := put_zero (x := s) (k := 8) (by omega) (by omega) (by omega) [80, 76, UInt8.ofNat k, 0]
  have hP3 : putTextE bd = 0 := by unfold putTextE; rw [if_pos (by rw [Hn.out]; omega)]
  have hP4 : putTextB ([80, 76, UInt8.ofNat k, 0] ++ leB 8 s) bd = frmH k s bd := by
    unfold putTextB frmH; rw [if_pos (by rw [Hn.out]; omega)]; simp [textB]
  have HP1 := hide hP1
  have HP2 := hide hP2
  have HP3 := hide hP3
  have HP4 := hide hP4
  have HL := hide (show ([80, 76, UInt8.ofNat k, 0] ++ leB 8 s).length = 12 by simp [leB_length])
  clear hP1 hP2 hP3 hP4
  go_enter Tryd.func12, Tryd.ntmps12
  obtain ⟨w0, hw0⟩ : ∃ w0, w.alloc (.cells #[.int .u8 k, .int .u64 s, .slice A n c] 25) = w0 := ⟨_, rfl⟩
  rw [hw0] at hF hb0
  obtain ⟨hc0, hc1, hc2⟩ := three_cells hF
  have hr0 := hr.below hb0
  rw [hg] at hb0
  have hb1 : Below w0.heap.size w0 (w0.alloc (.cells #[.int .u8 80, .int .u8 76, .int .u8 (k : Int), .int .u8 0] 5)) := (Below.refl _ _).alloc (Nat.le_refl _) _
  obtain ⟨d0, d1, d2⟩ := three_cells (hF.below hb1)
  go_wp2_with fail
  refine (rput_any _ 4 _ [80, 76, UInt8.ofNat k, 0] s 8 _ rfl (by omega) (by rw [Hk4.out]; exact Rd.newG rfl) hs).mono ?_
  rw [show ((8 : Int)) = ((8 : Nat) : Int) from rfl, HP1.out, HP2.out]
  rintro e w2 ⟨v2, rfl, ho2, hb2⟩
  have hb02 : Below w0.heap.size w0 w2 := hb1.trans (hb2.mono hb1.size)
  obtain ⟨e0, e1, e2⟩ := three_cells (hF.below hb02)
  rw [HL.out] at ho2
  obtain ⟨A2, c2, rfl, hl2, hc2', hcm2, hr2, ha2⟩ := own_out ho2
  go_wp2_with fail
  refine (rputText_any _ 12 _ _ _ _ _ bd _ HL.out (by omega) hr2 Hn.out (hr0.below hb02)).mono ?_
  rw [HP3.out, HP4.out, frmH_length, Hn.out]
  rintro e w3 ⟨v3, rfl, ho3, hb3⟩
  have hb03 : Below w0.heap.size w0 w3 := hb02.trans (hb3.mono hb02.size)
  obtain ⟨A3, c3, rfl, hl3, hc3, hcm3, hr3, ha3⟩ := own_out ho3
  go_wp2_with fail
  refine (rseal_any _ (n + 16) _ (frmH k s bd) _ (by rw [frmH_length, Hn.out]) (by omega) hr3).mono ?_
  rintro e w4 ⟨v4, rfl, ho4, hb4⟩
  go_wp2
  go_ret2
  have h0 := hb0.size
  refine ⟨_, rfl, own_weak ho4 (by have := hb03.size; omega), ?_⟩
  rw [hg]
  exact (hb0.trans (hb03.mono (by omega))).trans (hb4.mono (by have := hb03.size; omega))
end Go.Proofs.YtaenoonadodbnaaDoor
