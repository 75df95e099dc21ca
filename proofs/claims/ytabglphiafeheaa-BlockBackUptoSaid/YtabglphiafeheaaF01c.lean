/- Package octets: what its functions answer (one number, texts). -/
import Derived.Test.YtabglphiafeheaaF01b
namespace Go.Proofs.Ytabglphiafeheaa
open Go.RowKit Go.Px
set_option linter.unusedVariables false

set_option maxHeartbeats 400000 in
theorem putText_any (A : Option Addr) (m c : Nat) (bs : List UInt8) (B : Option Addr) (k d : Nat) (s : List UInt8) (w : World)
    (hm : bs.length = m) (hm8 : m ≤ 549755813888) (hA : Rd w A (bys bs)) (hk : s.length = k) (hB : Rd w B (bys s)) :
    Calls Try.prog 34 #[.slice A m c, .slice B k d] w fun e w' => ∃ u, e = .returned (.tuple #[u, .int .i64 (putTextE s)]) ∧ w'.ownsRow w.heap.size 5 1 u (putTextB bs s).length (bys (putTextB bs s)) ∧ Below w.heap.size w w' := by
  have Hm := hide hm
  have Hk := hide hk
  clear hm hk
  by_cases hl : k ≤ 16777216
  · go_enter Try.func34, Try.ntmps34
    go_wp2_with (first | (with_reducible refine stop_append rfl ?_) | (with_reducible refine stop_copy rfl ?_) | (with_reducible refine stop_make rfl ?_))
    refine go_make rfl rfl tBytes rfl rfl (n := m) (m := m + 4 + k) rfl (by omega) (by omega) (by omega) (by omega) (Nat.le_refl _) ?_
    intro z w1 _ _ hw1 ho1 hg1
    have Hw1 := hide hw1
    clear hw1
    have hb1 : Below w.heap.size w w1 := grown_below (Below.refl _ _) hg1 (Nat.le_refl _) (fun g hg => by cases hg)
    go_wp2_with (first | (with_reducible refine stop_append rfl ?_) | (with_reducible refine stop_copy rfl ?_) | (with_reducible refine stop_make rfl ?_))
    refine go_copy rfl rfl tBytes ho1 rfl (off := 0) (by omega) rfl (by rw [bys_length]; exact Hm.out) (hA.below hb1) (bys_one _) ?_
    intro w2 ho2 hg2
    have hb2 : Below w.heap.size w w2 := hb1.grown hg2 hg1.size (fun g hg => by injection hg with hg; omega)
    simp only [List.take_zero, List.nil_append, Nat.min_self, Nat.zero_add] at ho2
    rw [List.take_of_length_le (by rw [bys_length, Hm.out]; exact Nat.le_refl _), List.drop_eq_nil_of_le (by rw [List.length_take]; omega), List.append_nil] at ho2
    go_wp2_with fail
    refine (appendNumber_any w.heap.size _ m _ k 4 _ ho2 (by omega) (by omega) (by omega) (Nat.le_trans hg1.size hg2.size)).mono ?_
    rintro e w3 ⟨v3, rfl, hG3⟩
    have hb3 : Below w.heap.size w w3 := hG3.allOf hb2 (Nat.le_trans hg1.size hg2.size) (fun g hg => by simp [Value.ownBlock] at hg; omega)
    go_wp2_with (first | (with_reducible refine stop_append rfl ?_) | (with_reducible refine stop_copy rfl ?_) | (with_reducible refine stop_make rfl ?_))
    refine hG3.append rfl rfl tBytes rfl rfl (by rw [bys_length, Hk.out]; omega) (hB.below hb3) (bys_one _) (by omega) (by omega) ?_
    intro v4 w4 hG4 _
    have hb4 : Below w.heap.size w w4 := hG4.allOf hb2 (Nat.le_trans hg1.size hg2.size) (fun g hg => by simp [Value.ownBlock] at hg; omega)
    go_wp2
    go_ret2
    rw [show putTextE s = 0 by unfold putTextE; rw [if_pos (by rw [Hk.out]; exact hl)], show putTextB bs s = bs ++ textB s by unfold putTextB; rw [if_pos (by rw [Hk.out]; exact hl)]]
    refine ⟨_, rfl, ?_, hb4⟩
    have ho := hG4.owns
    rw [← bys_append, ← bys_append, List.append_assoc] at ho
    rw [textB, List.length_append, List.length_append, leB_length, Hm.out, Hk.out, ← Nat.add_assoc]
    exact ho
  · go_enter Try.func34, Try.ntmps34
    go_wp2_with (first | (with_reducible refine stop_append rfl ?_) | (with_reducible refine stop_copy rfl ?_) | (with_reducible refine stop_make rfl ?_))
    go_ret2
    rw [show putTextE s = 2 by unfold putTextE; rw [if_neg (by rw [Hk.out]; exact hl)], show putTextB bs s = [] by unfold putTextB; rw [if_neg (by rw [Hk.out]; exact hl)]]
    exact ⟨_, rfl, World.ownsRow_nil _ _ _ _, Below.refl _ _⟩

set_option maxHeartbeats 800000 in
theorem getText_any (A : Option Addr) (m c : Nat) (bs : List UInt8) (i : Int) (w : World) (hm : bs.length = m) (hmc : m ≤ c) (hm8 : m ≤ 140737488355328) (hc63 : c ≤ 9223372036854775807) (hr : Rd w A (bys bs)) (hi : -9223372036854775808 ≤ i) (hi2 : i ≤ 9223372036854775807) :
    Calls Try.prog 57 #[.slice A m c, .int .i64 i] w fun e w' => ∃ u, e = .returned (.tuple #[u, .int .i64 (textI bs i), .int .i64 (textE bs i)]) ∧ w'.ownsRow w.heap.size 5 1 u (textS bs i).length (bys (textS bs i)) ∧ Below w.heap.size w w' := by
  have Hm := hide hm
  clear hm
  by_cases hE : getE bs i 4 = 0
  · obtain ⟨_, _, hi0, hil, hi4⟩ := getE_zero hE
    rw [Hm.out] at hil hi4
    obtain ⟨p, hp⟩ : ∃ p : Nat, i + 4 = p := ⟨(i + 4).toNat, by omega⟩
    have HE := hide hE
    have HI := hide (show getI bs i 4 = (p : Int) by unfold getI; rw [if_pos hE, hp])
    have hV : getV bs i 4 < 4294967296 := Nat.lt_of_lt_of_le (getV_lt bs i 4) (by decide)
    obtain ⟨q, hq⟩ : ∃ q, q = getV bs i 4 := ⟨_, rfl⟩
    have Hq := hide hq
    rw [← hq] at hV
    have hpm : p ≤ m := by omega
    have Hp := hide hp
    have Hit := hide (show i.toNat + 4 = p by omega)
    clear hE hq hp hil hi4
    by_cases h2 : q ≤ 16777216
    · by_cases h3 : p + q ≤ m
      · have HT := hide (show textE bs i = 0 by unfold textE; rw [if_pos HE.out, ← Hq.out, if_pos h2, if_pos (by rw [Hm.out, Hp.out]; omega)])
        have HS := hide (show textS bs i = (bs.drop p).take q by unfold textS; rw [if_pos HT.out, ← Hq.out, Hit.out])
        have HJ := hide (show textI bs i = (p : Int) + q by unfold textI; rw [if_pos HT.out, ← Hq.out, Hp.out])
        have Hl := hide (show ((bs.drop p).take q).length = q by rw [List.length_take, List.length_drop, Hm.out]; omega)
        go_enter Try.func57, Try.ntmps57
        go_wp2_with fail
        refine (get_any _ _ _ bs _ _ _ Hm.out hmc hc63 hr hi hi2).mono ?_
        rintro e w' ⟨rfl, rfl⟩
        rw [HE.out, HI.out, ← Hq.out]
        go_wp2_with fail
        refine (clone_any _ _ _ ((bs.drop p).take q) _ Hl.out (by omega) (by rw [bys_take, bys_drop]; exact (hr.cutA (n := m) (k := p) (by rw [bys_length, Hm.out]; exact Nat.le_refl _) hpm hmc).take _)).mono ?_
        rintro e w' ⟨v, rfl, ho, hb⟩
        go_wp2
        go_ret3
        rw [HT.out, HS.out, HJ.out, Hl.out]
        exact ⟨_, rfl, ho, hb⟩
      · have HT := hide (show textE bs i = 10 by unfold textE; rw [if_pos HE.out, ← Hq.out, if_pos h2, if_neg (by rw [Hm.out, Hp.out]; omega)])
        go_enter Try.func57, Try.ntmps57
        go_wp2_with fail
        refine (get_any _ _ _ bs _ _ _ Hm.out hmc hc63 hr hi hi2).mono ?_
        rintro e w' ⟨rfl, rfl⟩
        rw [HE.out, HI.out, ← Hq.out]
        go_wp2
        go_ret3
        simp only [textS, textI, HT.out]
        exact ⟨_, rfl, World.ownsRow_nil _ _ _ _, Below.refl _ _⟩
    · have HT := hide (show textE bs i = 2 by unfold textE; rw [if_pos HE.out, ← Hq.out, if_neg h2])
      go_enter Try.func57, Try.ntmps57
      go_wp2_with fail
      refine (get_any _ _ _ bs _ _ _ Hm.out hmc hc63 hr hi hi2).mono ?_
      rintro e w' ⟨rfl, rfl⟩
      rw [HE.out, HI.out, ← Hq.out]
      go_wp2
      go_ret3
      simp only [textS, textI, HT.out]
      exact ⟨_, rfl, World.ownsRow_nil _ _ _ _, Below.refl _ _⟩
  · have HT := hide (show textE bs i = getE bs i 4 by unfold textE; rw [if_neg hE])
    have HV := hide (show getV bs i 4 = 0 by unfold getV; rw [if_neg hE])
    have HI := hide (show getI bs i 4 = 0 by unfold getI; rw [if_neg hE])
    have hne : (getE bs i 4 != 0) = true := by simpa using hE
    obtain ⟨z, hz⟩ : ∃ z, z = getE bs i 4 := ⟨_, rfl⟩
    rw [← hz] at hne
    have Hz := hide hz
    clear hz hE
    go_enter Try.func57, Try.ntmps57
    go_wp2_with fail
    refine (get_any _ _ _ bs _ _ _ Hm.out hmc hc63 hr hi hi2).mono ?_
    rintro e w' ⟨rfl, rfl⟩
    rw [HV.out, HI.out, ← Hz.out]
    go_wp2
    go_ret3
    have hne' : textE bs i ≠ 0 := by rw [HT.out, ← Hz.out]; simpa using hne
    rw [show textS bs i = [] by unfold textS; rw [if_neg hne'], show textI bs i = 0 by unfold textI; rw [if_neg hne'], HT.out, ← Hz.out]
    exact ⟨_, rfl, World.ownsRow_nil _ _ _ _, Below.refl _ _⟩
end Go.Proofs.Ytabglphiafeheaa
