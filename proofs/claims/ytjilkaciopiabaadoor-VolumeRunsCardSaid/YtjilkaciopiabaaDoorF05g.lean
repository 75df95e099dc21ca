/- volume.Bytes, Pages. -/
import Derived.Test.YtjilkaciopiabaaDoorF05f
namespace Go.Proofs.YtjilkaciopiabaaDoor
open Go.RowKit Go.Px
set_option linter.unusedVariables false
set_option maxHeartbeats 800000 in
theorem bytes_any (w : World) (v r s b z N : Nat) (bs : List UInt8) (vs : List Int) (last : Int) (h : VolIs w v r s b z N bs vs last) :
    Calls Tryd.prog 14 #[.pointer (some ⟨v, 0, none⟩)] w fun e w' => ∃ u, e = .returned u ∧ w'.ownsRow w.heap.size 5 1 u N (bys bs) ∧ Below w.heap.size w w' := by
  obtain ⟨hb1, hb2⟩ := h.hb
  obtain ⟨hz1, hz2⟩ := h.hz
  have hNb : N ≤ 16777216 := by rw [← h.hN]; exact Nat.mul_le_mul hb2 hz2
  have x2 := h.blk.cell (j := 2) rfl
  have hrow : Rd w (some ⟨r, 0, none⟩) (bys bs) := by
    have := h.seg 0 b
    rw [Nat.zero_mul] at this
    unfold segB at this
    rwa [Nat.zero_mul, List.drop_zero, h.hN, List.take_of_length_le (by rw [h.lb]; exact Nat.le_refl _)] at this
  have Hl := hide h.lb
  go_enter Tryd.func14, Tryd.ntmps14
  go_wp2_with fail
  go_fit (made_any w v r s b z N bs vs last h)
  rintro x w1 ⟨rfl, rfl⟩
  go_wp2_with fail
  go_fit (clone_any (some ⟨r, 0, none⟩) N N bs w Hl.out (by omega) hrow)
  rintro x w1 ⟨u, rfl, ho, hb⟩
  go_wp2
  go_ret
  exact ⟨u, rfl, ho, hb⟩
/-- Which blocks were changed since a number. -/
def pgs (vs : List Int) (since : Int) : List Nat := (List.range vs.length).filter fun i => decide (since < vs.getD i 0) && decide (0 < vs.getD i 0)
set_option maxHeartbeats 1600000 in
/-- Where nothing was changed since. -/
theorem pages_none (w : World) (v r s b z N : Nat) (bs : List UInt8) (vs : List Int) (last : Int) (since : Int) (h : VolIs w v r s b z N bs vs last) (hno : ∀ i, i < b → ¬ (since < vs.getD i 0 ∧ 0 < vs.getD i 0)) :
    Calls Tryd.prog 15 #[.pointer (some ⟨v, 0, none⟩), .int .i64 since] w fun e w' => e = .returned (.slice none 0 0) ∧ w = w' := by
  obtain ⟨hb1, hb2⟩ := h.hb
  have x3 := h.blk.cell (j := 3) rfl
  have HNo := hide hno
  clear hno
  go_enter Tryd.func15, Tryd.ntmps15
  go_wp2_with fail
  go_fit (made_any w v r s b z N bs vs last h)
  rintro x w1 ⟨rfl, rfl⟩
  go_wp2
  go_loop [5, 16] (fun o i => ∃ (k : Nat), k ≤ b ∧ i = .int .i64 k ∧ o = .slice none 0 0) (fun _ i => b - (intOf i).toNat)
  case atStart => exact ⟨0, by omega, rfl, rfl⟩
  case round =>
    obtain ⟨k, hk, rfl, rfl⟩ := hrel
    by_cases hlt : k < b
    · have hl : k < vs.length := by rw [h.lv]; exact hlt
      have y0 := h.ver.cell (List.getElem?_eq_getElem (by rw [ints_length]; exact hl) : (ints vs)[k]? = _)
      obtain ⟨y, hy⟩ : ∃ y, vs[k] = y := ⟨_, rfl⟩
      have hyk : (ints vs)[k]'(by rw [ints_length]; exact hl) = .int .i64 y := by simp [ints, hy]
      rw [hyk] at y0
      have hn := HNo.out k hlt
      have hgd : vs.getD k 0 = y := by simp [List.getD, List.getElem?_eq_getElem hl, hy]
      rw [hgd] at hn
      clear hyk hy hgd
      by_cases h1 : since < y
      · have h2 : ¬ 0 < y := fun hh => hn ⟨h1, hh⟩
        clear hn
        go_wp2
        go_round
        case rel => exact ⟨k + 1, by omega, by go_num, rfl⟩
        case measure => simp [intOf]; omega
      · clear hn
        go_wp2
        go_round
        case rel => exact ⟨k + 1, by omega, by go_num, rfl⟩
        case measure => simp [intOf]; omega
    · obtain rfl : k = b := by omega
      go_wp2
      go_ret
      exact ⟨rfl, rfl⟩
end Go.Proofs.YtjilkaciopiabaaDoor
