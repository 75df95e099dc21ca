/- The law CrcSpoilt, walked. -/
import Derived.Test.YtejgjkcelmjflaaDoorM02s
import Derived.Test.YtejgjkcelmjflaaDoorF02d
import Derived.Test.YtejgjkcelmjflaaDoorF02L
namespace Go.Proofs.YtejgjkcelmjflaaDoor
open Go.RowKit Go.Px
set_option linter.unusedVariables false

theorem spoilt_open (b : List UInt8) (k x : Nat) (hx0 : x ≠ 0) (hx : x < 4294967296) (hk : k + 4 ≤ b.length + 4) :
    openE (spoil (b ++ leB 4 (moreN 0 b)) k x 4) = 31 ∧ openB (spoil (b ++ leB 4 (moreN 0 b)) k x 4) = [] := by
  have hl : (spoil (b ++ leB 4 (moreN 0 b)) k x 4).length = b.length + 4 := by rw [spoil_length, List.length_append, leB_length]
  have h := spoilt_sum b k x hx0 hx (by rw [List.length_append, leB_length]; exact hk)
  have hE : openE (spoil (b ++ leB 4 (moreN 0 b)) k x 4) = 31 := by
    unfold openE
    rw [hl, if_neg (by omega), show b.length + 4 - 4 = b.length by omega, if_neg h]
  exact ⟨hE, by unfold openB; rw [hE]; rfl⟩

theorem addr_add0 (g m : Nat) : (⟨g, 0, none⟩ : Addr).add m = ⟨g, m, none⟩ := by
  unfold Addr.add; split <;> simp_all
theorem spoil_next (s : List UInt8) (k x j : Nat) (h : k + j < (spoil s k x j).length) {z : UInt8} {zn : Nat} (hz : (spoil s k x j)[k + j] = z) (hzn : z.toNat = zn) :
    (bys (spoil s k x j)).set (k + j) (.int .u8 (bits .xor .u8 (zn : Int) ((x : Int) / 2 ^ (8 * j) % 256))) = bys (spoil s k x (j + 1)) := by
  have h1 : s.getD (k + j) 0 = z := by
    rw [List.getD_eq_getElem?_getD, ← spoil_at s k x j (k + j) (Nat.le_refl _), List.getElem?_eq_getElem h, hz]; rfl
  have hm : x / 2 ^ (8 * j) % 256 < 256 := Nat.mod_lt _ (by decide)
  have h2 : bits .xor .u8 (zn : Int) ((x : Int) / 2 ^ (8 * j) % 256) = (((z ^^^ xb x j).toNat : Nat) : Int) := by
    rw [show (x : Int) / 2 ^ (8 * j) % 256 = ((x / 2 ^ (8 * j) % 256 : Nat) : Int) by simp, u8_xor_nat _ _ (by rw [← hzn]; exact z.toNat_lt) hm, UInt8.toNat_xor, hzn, xb, UInt8.toNat_ofNat_of_lt' hm]
  rw [h2]
  simp only [spoil, bys, List.map_set, h1]

set_option maxHeartbeats 1600000 in
theorem crcSpoilt_walk (A : Option Addr) (m c : Nat) (bs : List UInt8) (at_ x : Nat) (w : World) (hm : bs.length = m) (hmc : m ≤ c) (hc : c ≤ 9223372036854775807) (hr : Rd w A (bys bs))
    (hat : at_ < 65536) (hx : x < 4294967296) (ht : Tab w) :
    Calls Tryd.prog 7 #[.slice A m c, .int .u16 at_, .int .u32 x] w fun e w' => e = .returned (.bool true) ∧ Below w.heap.size w w' := by
  obtain ⟨hl1, hl2⟩ := lcut_le m
  have Hl := hide (show (bs.take 16384).length = lcut m by rw [lcut_len, hm])
  have hr' := lcut_rd hr
  obtain ⟨q, hq⟩ : ∃ q, lcut m = q := ⟨_, rfl⟩
  rw [hq] at hl1 hl2 Hl
  have Hq := hide hq
  clear hq hm hr
  generalize bs.take 16384 = b at *
  obtain ⟨sl, hsl⟩ : ∃ x, b ++ leB 4 (moreN 0 b) = x := ⟨_, rfl⟩
  obtain ⟨n, hn⟩ : ∃ n, q + 4 = n := ⟨_, rfl⟩
  have Hsll := hide (show sl.length = n by rw [← hsl, List.length_append, leB_length, Hl.out, hn])
  have hn4 : 4 ≤ n := by omega
  have hnm : n ≤ 16388 := by omega
  have Hqn := hide (show q = n - 4 by omega)
  have hos : x ≠ 0 → ∀ k, k + 4 ≤ n → openE (spoil sl k x 4) = 31 ∧ openB (spoil sl k x 4) = [] := fun h0 k hk => by
    rw [← hsl]; exact spoilt_open b k x h0 hx (by rw [Hl.out]; omega)
  have Hos := hide hos
  have Hsl := hide hsl
  have Hn := hide hn
  clear hsl hn hos
  have hx0 : ((x : Int) == 0) = true ∨ ((x : Int) == 0) = false := by cases ((x : Int) == 0) <;> simp
  have hnI : (4 : Int) ≤ n := by omega
  have hnD : decide ((n : Int) < 4) = false := decide_eq_false (by omega)
  obtain ⟨k, hk⟩ : ∃ k : Nat, (at_ : Int) % ((n : Int) - 3) = k := ⟨((at_ : Int) % ((n : Int) - 3)).toNat, (Int.toNat_of_nonneg (Int.emod_nonneg _ (by omega))).symm⟩
  have hkn : k + 4 ≤ n := by
    have := Int.emod_lt_of_pos (at_ : Int) (show (0 : Int) < (n : Int) - 3 by omega)
    omega
  have Hk := hide hk
  clear hk
  go_enter Tryd.func7, Tryd.ntmps7
  go_wp2_with fail
  refine (awake02_any _ ht).mono ?_
  rintro e w1 ⟨rfl, hb1⟩
  go_wp2_with fail
  refine (cut_any _ _ _ _ hmc hc).mono ?_
  rw [Hq.out]
  rintro e w0 ⟨rfl, rfl⟩
  go_wp2_with fail
  refine (seal_any _ _ _ b _ Hl.out (by omega) (by omega) hc (hr'.below hb1) (Rd.below ht hb1)).mono ?_
  rw [Hsl.out, Hn.out]
  rintro e w2 ⟨v2, rfl, ho2, hb2⟩
  obtain ⟨A2, c2, rfl, hx2, hc2, hcm2, hr2, ha2⟩ := own_out ho2
  have hb02 : Below w.heap.size w w2 := hb1.trans (hb2.mono hb1.size)
  have ho2' := own_weak ho2 hb1.size
  obtain ⟨g, rfl, hg1, hg2⟩ := own_form ho2' (by omega)
  rcases hx0 with hx0 | hx0
  · have hx1 : x = 0 := by simpa using hx0
    subst hx1
    go_wp2
    go_ret
    exact ⟨rfl, hb02⟩
  · have hx1 : x ≠ 0 := by simpa using hx0
    have Hx := hide hx0
    go_wp2_with fail
    rw [Hk.out]
    clear hx0
    go_loopw [9] (fun i wr => ∃ j : Nat, j ≤ 4 ∧ i = .int .i64 j ∧ wr.ownsRow w.heap.size 5 1 (.slice (some ⟨g, 0, none⟩) n c2) n (bys (spoil sl k x j)) ∧ Below w.heap.size w wr) (fun i _ => 4 - (intOf i).toNat)
    case atStart => exact ⟨0, by omega, rfl, ho2', hb02⟩
    case round =>
      obtain ⟨j, hj, rfl, hown, hbw⟩ := hrel
      by_cases hlt : j < 4
      · have hkj : k + j < (spoil sl k x j).length := by rw [spoil_length, Hsll.out]; omega
        obtain ⟨z, hz⟩ : ∃ z, (spoil sl k x j)[k + j] = z := ⟨_, rfl⟩
        have hcell : wr.cell? ⟨g, k + j, none⟩ = some (.int .u8 (z.toNat : Int)) := by
          have := hown.cells (g := g) rfl (k + j) _ (bys_get hkj)
          rw [hz] at this
          rw [addr_add0] at this
          exact this
        have hz256 := z.toNat_lt
        obtain ⟨zn, hzn⟩ : ∃ zn, z.toNat = zn := ⟨_, rfl⟩
        rw [hzn] at hcell hz256
        have Hzn := hide hzn
        have Hz := hide hz
        clear hzn hz
        have hfz := hown.frozenAt (k + j)
        have hst := hown.stored (k + j) (.int .u8 (bits .xor .u8 (zn : Int) ((x : Int) / 2 ^ (8 * j) % 256)))
        rw [spoil_next sl k x j hkj Hz.out Hzn.out] at hst
        have Hst := hide hst
        clear hst
        go_wp2
        go_roundw
        case rel => exact ⟨j + 1, by omega, by go_num, Hst.out.1, grown_below hbw Hst.out.2 hbw.size (fun b hb => by injection hb with hb; omega)⟩
        case measure => simp [intOf]; omega
      · obtain rfl : j = 4 := by omega
        obtain ⟨he, hbd⟩ := Hos.out hx1 k hkn
        have Hsp := hide (show (spoil sl k x 4).length = n by rw [spoil_length, Hsll.out])
        generalize spoil sl k x 4 = sp at *
        obtain ⟨A3, c3, e3, _, hc3, hcm3, hr3, ha3⟩ := own_out hown
        injection e3 with e31 e32 e33
        subst e31 e33
        go_wp2_with fail
        refine (open_any _ _ _ sp _ Hsp.out (by omega) hc2 (by unfold maxLen at hcm2; omega) hr3 (Rd.below ht hbw)).mono ?_
        rw [he, hbd]
        rintro e w3 ⟨v3, rfl, ho3, hb3⟩
        obtain ⟨A4, c4, rfl, _, hc4, hcm4, hr4, ha4⟩ := own_out ho3
        go_wp2
        go_ret
        exact ⟨rfl, hbw.trans (hb3.mono hbw.size)⟩
end Go.Proofs.YtejgjkcelmjflaaDoor
