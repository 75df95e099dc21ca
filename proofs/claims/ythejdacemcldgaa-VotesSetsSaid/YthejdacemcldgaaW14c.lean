/- Stage 14: laws 14: VotesSets: the walk. -/
import Derived.Test.YthejdacemcldgaaW14a
namespace Go.Proofs.Ythejdacemcldgaa
set_option maxRecDepth 20000
open Go.RowKit Go.Px
set_option linter.unusedVariables false
set_option maxHeartbeats 1600000 in
theorem votesSets_walk (C : Option Addr) (n2 d2 : Nat) (ns0 : List Int) (B : Option Addr) (m d : Nat) (l0 : List (Int × Int)) (v u : Int) (w : World) (hm : l0.length = m) (hmd : m ≤ d) (hd : d ≤ 9223372036854775807) (hs : Rd w B (acs l0)) (hn2 : ns0.length = n2) (hnd : n2 ≤ d2) (hd2 : d2 ≤ 9223372036854775807) (ht : Rd w C (ints ns0)) :
    Calls Try.prog 3 #[.slice C n2 d2, .slice B m d, .int .i64 v, .int .i64 u] w fun x w' => x = .returned (.bool true) ∧ Below w.heap.size w w' := by
  obtain ⟨hj1, hj2⟩ := cut60_le m
  have Hj := hide (show (l0.take 60).length = cut60 m by rw [cut60_len, hm])
  have hs' := acks_cut hs
  obtain ⟨q1, hq1⟩ : ∃ q, cut60 m = q := ⟨_, rfl⟩
  rw [hq1] at hj1 hj2 Hj
  have Hq1 := hide hq1
  clear hq1 hm hs
  generalize l0.take 60 = l at *
  go_enter Try.func3, Try.ntmps3
  rcases (show n2 ≤ 60 ∨ 60 < n2 by omega) with hle | hgt
  case' inl =>
    have q0 : decide ((60 : Int) < (n2 : Int)) = false := decide_eq_false (by omega)
    go_wp2_with fail
    obtain ⟨ns, hns⟩ : ∃ y, ns0 = y := ⟨_, rfl⟩
    have hrn : Rd w C (ints ns) := by rw [← hns]; exact ht
    obtain ⟨p, hp⟩ : ∃ y, n2 = y := ⟨_, rfl⟩
    have HP := hide (show ns.length = p by rw [← hns, ← hp]; exact hn2)
    have hp60 : p ≤ 60 := by omega
    rw [hp]
    clear hp hns q0
  case' inr =>
    have q0 : decide ((60 : Int) < (n2 : Int)) = true := decide_eq_true (by omega)
    go_wp2_with fail
    obtain ⟨ns, hns⟩ : ∃ y, ns0.take 60 = y := ⟨_, rfl⟩
    have hrn : Rd w C (ints ns) := by rw [← hns]; exact nodes_cut ht
    obtain ⟨p, hp⟩ : ∃ y : Nat, (nat_lit 60) = y := ⟨_, rfl⟩
    have HP := hide (show ns.length = p by rw [← hns, ← hp, List.length_take, hn2]; show min 60 n2 = 60; omega)
    have hp60 : p ≤ 60 := by rw [← hp]; exact Nat.le_refl _
    have hp2 : (60 : Nat) = p := hp
    try rw [hp2]
    try rw [hp]
    clear hp hp2 hns q0
  all_goals
    refine (few14_any B m d _ hmd hd).mono ?_
    rw [Hq1.out]
    rintro x wz ⟨rfl, rfl⟩
    have HNU := hide (num_any B q1 d l v w Hj.out (by omega) hs')
    obtain ⟨pr, hpr⟩ : ∃ z, numA l v = z := ⟨_, rfl⟩
    obtain ⟨r1, r2⟩ := pr
    rw [hpr] at HNU
    have Hpr := hide hpr
    clear hpr
    go_wp2_with fail
    refine HNU.out.mono ?_
    rintro x w1 ⟨rfl, hb1⟩
    have hs1 := hs'.below hb1
    have hn1 := hrn.below hb1
    have hrnu := rnum_any B q1 d l v w1 Hj.out (by omega) hs1
    rw [Hpr.out] at hrnu
    have HRN := hide hrnu
    clear hrnu
    go_wp2_with fail
    refine HRN.out.mono ?_
    rintro x wz ⟨rfl, rfl⟩
    have HAD := hide (madd_any C p d2 ns v w1 HP.out (by omega) hn1)
    go_wp2_with fail
    go_fit HAD.out
    rintro x w2 ⟨o, A2, c2, rfl, hro, hao, hol, _, _, hb2⟩
    have hs2 := hs1.below hb2
    have hn2' := hn1.below hb2
    have hb02 := hb1.trans (hb2.mono hb1.size)
    have HRA := hide (radd_any C p d2 ns v w2 HP.out (by omega) hn2')
    clear HAD hb1 hb2
    go_wp2_with fail
    go_fit HRA.out
    rintro x w3 ⟨o', U, rfl, hou, hao', hol', hb3⟩
    have he := hao'.uniq hao
    subst he
    obtain ⟨A3, c3, rfl, _, _, _, hr3, _⟩ := own_out hou
    have hb03 := hb02.trans (hb3.mono hb02.size)
    have hs3 := hs2.below hb3
    have hro3 := hro.below hb3
    have HSN := hide (samenodes_eq A2 o'.length c2 A3 c3 o' w3 rfl (by omega) hro3 hr3)
    clear hou hao hao' hb3 hs2 hro HRA hb02
    go_wp2_with fail
    go_fit HSN.out
    rintro x w4 ⟨rfl, hb4⟩
    have hb04 := hb03.trans (hb4.mono hb03.size)
    have hs4 := hs3.below hb4
    have HAC := hide (mack_any B q1 d l v u w4 Hj.out (by omega) hs4)
    clear HSN hb4 hb03 hs3 hr3 hro3
    go_wp2_with fail
    go_fit HAC.out
    rintro x w5 ⟨oa, A5, c5, rfl, hr5, ha5, hl5, _, _, hb5⟩
    have hb05 := hb04.trans (hb5.mono hb04.size)
    have hs5 := hs4.below hb5
    have HRC := hide (rack_any B q1 d l v u w5 Hj.out (by omega) hs5)
    clear HAC hb5 hb04 hs4
    go_wp2_with fail
    go_fit HRC.out
    rintro x w6 ⟨ob, A6, c6, rfl, hr6, ha6, _, _, _, hb6⟩
    have he2 := ha6.uniq ha5
    subst he2
    have hb06 := hb05.trans (hb6.mono hb05.size)
    have hr56 := hr5.below hb6
    have HSA := hide (sameacks_eq A5 ob.length c5 A6 c6 ob w6 rfl (by omega) hr56 hr6)
    clear HRC hb6 hb05 hs5 hr5 ha5 ha6
    go_wp2_with fail
    go_fit HSA.out
    rintro x w7 ⟨rfl, hb7⟩
    have hb07 := hb06.trans (hb7.mono hb06.size)
    have HAW := hide (awake14_any w7)
    have e1 : (r1 == r1) = true := by simp
    have e2 : (r2 == r2) = true := by simp
    clear HSA hb7 hb06 hr56 hr6
    go_wp2_with fail
    go_fit HAW.out
    rintro x w8 ⟨rfl, hb8⟩
    go_wp2
    go_ret
    exact ⟨by simp, hb07.trans (hb8.mono hb07.size)⟩
end Go.Proofs.Ythejdacemcldgaa
