/- The law VolumeReads, walked (written by gen_g5g.py). -/
import Derived.Test.YtjilkaciopiabaaDoorG05f
namespace Go.Proofs.YtjilkaciopiabaaDoor
open Go.RowKit Go.Px
set_option linter.unusedVariables false
theorem Both.below {w w' : World} {B lo v r s rv gb gv cb cv b z N : Nat} {sv : List Value} (h : Both w B lo v r s rv gb gv cb cv b z N sv) (hb : Below w.heap.size w w') : Both w' B lo v r s rv gb gv cb cv b z N sv := by
  obtain ⟨rows, bs, vs, last, h1, h2⟩ := h
  exact ⟨rows, bs, vs, last, h1.below hb, h2.below hb⟩
theorem splB_take {bs xs : List UInt8} {off : Nat} (h : off ≤ bs.length) : (splB bs off xs).take off = bs.take off := by
  unfold splB
  rw [List.append_assoc, List.take_append_of_le_length (by rw [List.length_take]; omega), List.take_of_length_le (by rw [List.length_take]; omega)]
theorem splB_drop {bs xs : List UInt8} {off : Nat} (h : off ≤ bs.length) : (splB bs off xs).drop (off + xs.length) = bs.drop (off + xs.length) := by
  unfold splB
  rw [List.drop_append_of_le_length (by simp only [List.length_append, List.length_take]; omega), List.drop_eq_nil_of_le (by simp only [List.length_append, List.length_take]; omega), List.nil_append]
theorem splB_seg {bs xs : List UInt8} {P M z : Nat} (h : P * z ≤ bs.length) (hx : xs.length = M * z) : segB (splB bs (P * z) xs) P M z = xs := by
  unfold segB splB
  rw [List.append_assoc, List.drop_append_of_le_length (by rw [List.length_take]; omega), List.drop_eq_nil_of_le (by rw [List.length_take]; omega), List.nil_append, List.take_append_of_le_length (by omega), List.take_of_length_le (by omega)]
theorem read_fit {b z : Nat} {P M : Nat} (hb : 1 ≤ b ∧ b ≤ 4096) (hz : 1 ≤ z ∧ z ≤ 4096) (hM : 1 ≤ M ∧ M ≤ 64) (hP : P + M ≤ b) : ftE b z 1 P M 0 0 = 0 ∧ ftC b z 1 P M 0 0 = 1 := by
  have h1 : ftE b z 1 P M 0 0 = 0 := by
    have hs : shE b z = 0 := by unfold shE; rw [if_pos ⟨⟨by omega, by omega⟩, by omega, by omega⟩]
    unfold ftE
    rw [hs, if_neg (by decide)]
    rcases fmE_two 1 P M 0 0 with ⟨_, h⟩ | h
    · exact h
    · exfalso
      unfold fmE at h
      rw [if_pos (by unfold fmP; omega)] at h
      cases h
  refine ⟨h1, ?_⟩
  unfold ftC
  rw [h1, if_neg (by decide), if_neg (by decide), if_neg (by decide), if_neg (by omega), if_neg (by omega)]
theorem do_read (b z : Nat) (bs : List UInt8) (vs : List Int) (P M : Nat) (num : Int) (hb : 1 ≤ b ∧ b ≤ 4096) (hz : 1 ≤ z ∧ z ≤ 4096) (hM : 1 ≤ M ∧ M ≤ 64) (hP : P + M ≤ b) (hn1 : 1 ≤ num) (hn2 : num ≤ 4611686018427387904) :
    doE b z num 1 P M ([] : List UInt8).length ([] : List UInt8).length num = 0 ∧ doKE b z bs num 1 P M [] [] num = 1 ∧ doDE b z bs num 1 P M [] [] num = segB bs P M z ∧ doBE b z bs num 1 P M [] [] num = bs := by
  obtain ⟨h1, h2⟩ := read_fit hb hz hM hP
  have hs : serB num = true := decide_eq_true ⟨hn1, hn2⟩
  have hE : doE b z num 1 P M ([] : List UInt8).length ([] : List UInt8).length num = 0 := by unfold doE; rw [if_pos ⟨hs, by omega⟩]; exact h1
  refine ⟨hE, ?_, ?_, ?_⟩
  · unfold doKE; rw [if_pos hE]; unfold doK; exact (if_pos h2).trans (if_neg (by omega))
  · unfold doDE; rw [if_pos hE]; unfold doD; exact (if_pos h2).trans (if_pos rfl)
  · unfold doBE; rw [if_pos hE]; unfold doB doW; simp
/-- What a request makes: nothing, or just the bytes of its blocks. -/
theorem do_cases (b z N : Nat) (bs : List UInt8) (vs : List Int) (last : Int) (k : Nat) (p n : Int) (ds os : List UInt8) (num : Int) (hb : 1 ≤ b ∧ b ≤ 4096) (hz : 1 ≤ z ∧ z ≤ 4096) :
    (doE b z last k p n ds.length os.length num ≠ 0 ∧ doBE b z bs last k p n ds os num = bs) ∨
    (doE b z last k p n ds.length os.length num = 0 ∧ doKE b z bs last k p n ds os num ≠ 1 ∧ doBE b z bs last k p n ds os num = bs) ∨
    (doE b z last k p n ds.length os.length num = 0 ∧ doKE b z bs last k p n ds os num = 1 ∧ chB k = false ∧ doBE b z bs last k p n ds os num = bs) ∨
    (doE b z last k p n ds.length os.length num = 0 ∧ doKE b z bs last k p n ds os num = 1 ∧ doLE b z last k p n ds os num = num ∧ 1 ≤ num ∧ num ≤ 4611686018427387904 ∧
      ∃ (P M : Nat) (xs : List UInt8), p = P ∧ (1 ≤ M ∧ M ≤ 64) ∧ P + M ≤ b ∧ xs.length = M * z ∧ doBE b z bs last k p n ds os num = splB bs (P * z) xs ∧
        ((k = 2 ∧ n = M ∧ xs = ds) ∨ (k = 3 ∧ n = M ∧ xs = List.replicate (M * z) 0) ∨ (k = 5 ∧ M = 1 ∧ xs = ds))) := by
  by_cases hE : doE b z last k p n ds.length os.length num = 0
  · unfold doKE doBE doLE
    simp only [hE, if_true]
    have hE' := hE
    unfold doE at hE'
    split at hE'
    case isFalse => cases hE'
    rename_i hn
    obtain ⟨n1, n2⟩ := serB_out hn.1
    by_cases hc : ftC b z k p n ds.length os.length = 1
    · obtain ⟨p1, q1, hg⟩ := fit_good hE' hc
      obtain ⟨P, rfl⟩ := Int.eq_ofNat_of_zero_le p1
      obtain ⟨M, rfl⟩ := Int.eq_ofNat_of_zero_le q1
      rcases hg with rfl | ⟨rfl, g1, g2, g3⟩ | ⟨hkk, g1, g2, g3, g4⟩
      · refine .inr (.inr (.inl ⟨trivial, ?_, rfl, ?_⟩))
        · unfold doK; rw [if_pos hc, if_neg (by omega)]
        · unfold doB doW; simp
      · cases hsg : (segB bs P 1 z == os) with
        | false =>
          refine .inr (.inl ⟨trivial, ?_, ?_⟩)
          · unfold doK; rw [if_pos hc, if_pos ⟨rfl, hsg⟩]; decide
          · unfold doB doW; simp [hsg]
        | true =>
          refine .inr (.inr (.inr ⟨trivial, ?_, trivial, n1, n2, P, 1, ds, rfl, ⟨by omega, by omega⟩, by omega, by omega, ?_, .inr (.inr ⟨rfl, rfl, rfl⟩)⟩))
          · unfold doK; rw [if_pos hc, if_neg (by rw [Int.toNat_natCast, hsg]; simp)]
          · unfold doB; rw [if_pos (by unfold doW; simp [hsg, hc])]; rfl
      · have hk1 : doK b z bs k P M ds.length os = 1 := by unfold doK; rw [if_pos hc, if_neg (by omega)]
        rcases hkk with rfl | rfl | rfl
        · exact .inr (.inr (.inl ⟨trivial, hk1, rfl, by unfold doB doW; simp⟩))
        · refine .inr (.inr (.inr ⟨trivial, hk1, trivial, n1, n2, P, M, ds, rfl, ⟨by omega, by omega⟩, by omega, ?_, ?_, .inl ⟨rfl, rfl, rfl⟩⟩))
          · have := g4 rfl; exact Int.ofNat.inj (by simpa using this)
          · unfold doB; rw [if_pos (by unfold doW; simp [hc])]; rfl
        · refine .inr (.inr (.inr ⟨trivial, hk1, trivial, n1, n2, P, M, _, rfl, ⟨by omega, by omega⟩, by omega, by simp, ?_, .inr (.inl ⟨rfl, rfl, rfl⟩)⟩))
          unfold doB; rw [if_pos (by unfold doW; simp [hc])]; rfl
    · refine .inr (.inl ⟨trivial, ?_, ?_⟩)
      · unfold doK; rw [if_neg hc]
        obtain ⟨C, hC⟩ := ftC_nat b z k p n ds.length os.length
        rw [hC]
        intro e
        apply hc
        rw [hC]
        omega
      · unfold doB doW; simp [hc]
  · refine .inl ⟨hE, ?_⟩
    unfold doBE
    rw [if_neg hE]
end Go.Proofs.YtjilkaciopiabaaDoor
