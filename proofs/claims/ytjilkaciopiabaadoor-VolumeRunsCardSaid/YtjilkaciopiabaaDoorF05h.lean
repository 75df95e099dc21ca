/- volume.Pages: how many. -/
import Derived.Test.YtjilkaciopiabaaDoorF05g
namespace Go.Proofs.YtjilkaciopiabaaDoor
open Go.RowKit Go.Px
set_option linter.unusedVariables false
theorem tPages : SlT Tryd.prog 24 80 3 40 := slT_mk Tryd.underlying24 (z := .agg #[.int .i64 0, .int .i64 0, .slice none 0 0]) (by kernel_rfl) rfl (by decide)
def pgB (vs : List Int) (since : Int) (i : Nat) : Bool := decide (since < vs.getD i 0) && decide (0 < vs.getD i 0)
def pgC (vs : List Int) (since : Int) : Nat → Nat
  | 0 => 0
  | k + 1 => pgC vs since k + (if pgB vs since k = true then 1 else 0)
theorem pgC_le (vs : List Int) (since : Int) : ∀ k, pgC vs since k ≤ k
  | 0 => Nat.le_refl _
  | k + 1 => by have := pgC_le vs since k; unfold pgC; split <;> omega
set_option maxHeartbeats 3200000 in
theorem pages_len (w : World) (v r s b z N : Nat) (bs : List UInt8) (vs : List Int) (last : Int) (since : Int) (h : VolIs w v r s b z N bs vs last) :
    Calls Tryd.prog 15 #[.pointer (some ⟨v, 0, none⟩), .int .i64 since] w fun e w' => ∃ A c, e = .returned (.slice A (pgC vs since b) c) ∧ Below w.heap.size w w' := by
  obtain ⟨hb1, hb2⟩ := h.hb
  obtain ⟨hz1, hz2⟩ := h.hz
  have x3 := h.blk.cell (j := 3) rfl
  go_enter Tryd.func15, Tryd.ntmps15
  go_wp2_with fail
  go_fit (made_any w v r s b z N bs vs last h)
  rintro x w1 ⟨rfl, rfl⟩
  go_wp2
  go_loopw [5, 16] (fun o i wr => ∃ (k : Nat) (cs : List Value), k ≤ b ∧ i = .int .i64 k ∧ Grow w (.slice none 0 0) w.heap.size 80 3 wr o (pgC vs since k) cs) (fun _ i _ => b - (intOf i).toNat)
  case atStart => exact ⟨0, [], by omega, rfl, Grow.nil w _ _⟩
  case round =>
    obtain ⟨k, cs, hk, rfl, hG⟩ := hrel
    have hbw := hG.all
    have hV := h.below hbw
    have hx3 := hV.blk.cell (j := 3) rfl
    by_cases hlt : k < b
    · have hl : k < vs.length := by rw [h.lv]; exact hlt
      have y0 := hV.ver.cell (List.getElem?_eq_getElem (by rw [ints_length]; exact hl) : (ints vs)[k]? = _)
      obtain ⟨y, hy⟩ : ∃ y, vs[k] = y := ⟨_, rfl⟩
      have hyk : (ints vs)[k]'(by rw [ints_length]; exact hl) = .int .i64 y := by simp [ints, hy]
      rw [hyk] at y0
      have hgd : vs.getD k 0 = y := by simp [List.getD, List.getElem?_eq_getElem hl, hy]
      have hcl := pgC_le vs since k
      clear hyk hy
      by_cases h1 : since < y
      · by_cases h2 : 0 < y
        · have hc := hide (show pgC vs since (k + 1) = pgC vs since k + 1 by
            rw [pgC, if_pos (by unfold pgB; rw [hgd]; simp [h1, h2])])
          clear hgd
          go_wp2_with fail
          go_fit (blocks_one wr v r s b z N bs vs last k hV hlt)
          rintro x w2 ⟨rfl, q1, rfl⟩
          have hsl := segB_length (bs := bs) (p := k) (n := 1) h.lb h.hN hlt
          rw [Nat.one_mul] at hsl
          go_wp2_with fail
          go_fit (clone_any (some ⟨r, k * z, none⟩) z z (segB bs k 1 z) _ hsl (by omega) ((hV.seg k 1).drewN q1))
          rintro x w3 ⟨u3, rfl, ho3, hb3⟩
          obtain ⟨A3, c3, rfl, _, hc3, hcm3, hr3, ha3⟩ := own_out ho3
          have hG3 := (hG.drewN q1).below hb3
          clear hsl
          go_wp2_with (first | (with_reducible refine stop_append rfl ?_) | (with_reducible refine stop_copy rfl ?_) | (with_reducible refine stop_make rfl ?_))
          refine (hG3.alloc (.cells #[.int .i64 k, .int .i64 y, .slice A3 z c3] 80)).append rfl rfl tPages rfl rfl (m := 1) (news := [.int .i64 k, .int .i64 y, .slice A3 z c3]) rfl (Rd.newN w3 [.int .i64 k, .int .i64 y, .slice A3 z c3] _ (0, 0)) (by intro u hu; simp at hu; rcases hu with rfl | rfl | rfl <;> rfl) (by omega) (by omega) ?_
          intro v4 w4 hG4 hs4
          go_wp2
          go_roundw
          case rel => exact ⟨k + 1, _, by omega, by go_num, by rw [hc.out]; exact hG4⟩
          case measure => simp [intOf]; omega
        · have hc := hide (show pgC vs since (k + 1) = pgC vs since k by
            rw [pgC, if_neg (by unfold pgB; rw [hgd]; simp; omega)]; rfl)
          clear hgd
          go_wp2
          go_roundw
          case rel => exact ⟨k + 1, cs, by omega, by go_num, by rw [hc.out]; exact hG⟩
          case measure => simp [intOf]; omega
      · have hc := hide (show pgC vs since (k + 1) = pgC vs since k by
          rw [pgC, if_neg (by unfold pgB; rw [hgd]; simp; omega)]; rfl)
        clear hgd
        go_wp2
        go_roundw
        case rel => exact ⟨k + 1, cs, by omega, by go_num, by rw [hc.out]; exact hG⟩
        case measure => simp [intOf]; omega
    · obtain rfl : k = b := by omega
      obtain ⟨A, c, rfl, _, _, _, _, _⟩ := own_out hG.owns
      go_wp2
      go_ret
      exact ⟨A, c, rfl, hbw⟩
end Go.Proofs.YtjilkaciopiabaaDoor
