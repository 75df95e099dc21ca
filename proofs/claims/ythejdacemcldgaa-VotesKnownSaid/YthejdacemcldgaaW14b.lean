/- Stage 14: laws 14: VotesKnown: the walk. -/
import Derived.Test.YthejdacemcldgaaW14a
import Derived.Test.YthejdacemcldgaaQui
import Derived.Deep.QuietTactic
namespace Go.Proofs.Ythejdacemcldgaa
set_option maxRecDepth 20000
open Go.RowKit Go.Px
set_option linter.unusedVariables false
theorem bool_two14 (b : Bool) : b = true ∨ b = false := by cases b <;> simp
set_option maxHeartbeats 1600000 in
theorem votesKnown_walk (e : Int) (A : Option Addr) (n c : Nat) (ms0 : List Int) (B : Option Addr) (m d : Nat) (l0 : List (Int × Int)) (C : Option Addr) (n2 d2 : Nat) (ns0 : List Int) (w : World) (hn : ms0.length = n) (hnc : n ≤ c) (hc : c ≤ 9223372036854775807) (hr : Rd w A (ints ms0)) (hm : l0.length = m) (hmd : m ≤ d) (hd : d ≤ 9223372036854775807) (hs : Rd w B (acs l0)) (hn2 : ns0.length = n2) (hnd : n2 ≤ d2) (hd2 : d2 ≤ 9223372036854775807) (ht : Rd w C (ints ns0)) :
    Calls Try.prog 5 #[grp e A n c, .slice B m d, .slice C n2 d2] w fun x w' => x = .returned (.bool true) ∧ Below w.heap.size w w' := by
  obtain ⟨hk1, hk2⟩ := cut60_le n
  have Hl := hide (show (ms0.take 60).length = cut60 n by rw [cut60_len, hn])
  have hr' := nodes_cut hr
  obtain ⟨q, hq⟩ : ∃ q, cut60 n = q := ⟨_, rfl⟩
  rw [hq] at hk1 hk2 Hl
  obtain ⟨hj1, hj2⟩ := cut60_le m
  have Hj := hide (show (l0.take 60).length = cut60 m by rw [cut60_len, hm])
  have hs' := acks_cut hs
  obtain ⟨q1, hq1⟩ : ∃ q, cut60 m = q := ⟨_, rfl⟩
  rw [hq1] at hj1 hj2 Hj
  have Hq := hide hq
  have Hq1 := hide hq1
  clear hq hq1 hn hm hr hs
  generalize ms0.take 60 = ms at *
  generalize l0.take 60 = l at *
  obtain ⟨g, hg⟩ : ∃ g, w.heap.size = g := ⟨_, rfl⟩
  obtain ⟨w00, hw00⟩ : ∃ w0, w.alloc (.cells #[.int .i64 e, .slice A n c] 34) = w0 := ⟨_, rfl⟩
  have hG00 : Blk w00 g [.int .i64 e, .slice A n c] 34 := by rw [← hw00, ← hg]; exact Blk.new _ _ _
  have hb00 : Below w.heap.size w w00 := by rw [← hw00]; exact (Below.refl _ _).alloc (Nat.le_refl _) _
  have HAW := hide (awake14_any w00)
  go_enter Try.func5, Try.ntmps5
  go_wp2_with fail
  go_fit HAW.out
  rintro x w0 ⟨rfl, hbx⟩
  have hG := hG00.below hbx
  have hb0 := hb00.trans (hbx.mono hb00.size)
  have k0 := hG.cell (j := 0) rfl
  have k1 := hG.cell (j := 1) rfl
  clear HAW
  go_wp2_with fail
  go_fit (cut14_any e A n c w0 hnc hc)
  rw [Hq.out]
  rintro x w1 ⟨rfl, hb1⟩
  have hG1 := hG.below hb1
  have t0 := hG1.frozen 0
  have t1 := hG1.frozen 1
  have u0 := hG1.cell (j := 0) rfl
  have u1 := hG1.cell (j := 1) rfl
  have hG2 := (hG1.set 0 (.int .i64 e)).set 1 (.slice A q c)
  have hb01 : Below w.heap.size w w1 := hb0.trans (hb1.mono hb0.size)
  have hb02 : Below w.heap.size w ((w1.setCell ⟨g, 0, none⟩ (.int .i64 e)).setCell ⟨g, 1, none⟩ (.slice A q c)) := (hb01.setCell (by show w.heap.size ≤ g; omega) _).setCell (by show w.heap.size ≤ g; omega) _
  obtain ⟨w2, hw2⟩ : ∃ w2, (w1.setCell ⟨g, 0, none⟩ (.int .i64 e)).setCell ⟨g, 1, none⟩ (.slice A q c) = w2 := ⟨_, rfl⟩
  rw [hw2] at hG2 hb02
  have v0 := hG2.cell (j := 0) rfl
  have v1 := hG2.cell (j := 1) rfl
  go_wp2_with fail
  go_fit (few14_any B m d _ hmd hd)
  rw [Hq1.out]
  rintro x wz ⟨rfl, rfl⟩
  have hr2 := hr'.below hb02
  have hs2 := hs'.below hb02
  have ht2 := ht.below hb02
  rcases (show n2 ≤ 60 ∨ 60 < n2 by omega) with hle | hgt
  case' inl =>
    have q0 : decide ((60 : Int) < (n2 : Int)) = false := decide_eq_false (by omega)
    go_wp2_with fail
    obtain ⟨ns, hns⟩ : ∃ y, ns0 = y := ⟨_, rfl⟩
    have hrn : Rd w2 C (ints ns) := by rw [← hns]; exact ht2
    obtain ⟨p, hp⟩ : ∃ y, n2 = y := ⟨_, rfl⟩
    have HP := hide (show ns.length = p by rw [← hns, ← hp]; exact hn2)
    have hp60 : p ≤ 60 := by omega
    rw [hp]
    clear hp hns q0
  case' inr =>
    have q0 : decide ((60 : Int) < (n2 : Int)) = true := decide_eq_true (by omega)
    go_wp2_with fail
    obtain ⟨ns, hns⟩ : ∃ y, ns0.take 60 = y := ⟨_, rfl⟩
    have hrn : Rd w2 C (ints ns) := by rw [← hns]; exact nodes_cut ht2
    obtain ⟨p, hp⟩ : ∃ y : Nat, (nat_lit 60) = y := ⟨_, rfl⟩
    have HP := hide (show ns.length = p by rw [← hns, ← hp, List.length_take, hn2]; show min 60 n2 = 60; omega)
    have hp60 : p ≤ 60 := by rw [← hp]; exact Nat.le_refl _
    have hp2 : (60 : Nat) = p := hp
    try rw [hp2]
    try rw [hp]
    clear hp hp2 hns q0
  all_goals
    have HC := hide (commit_any e A q c ms B q1 d l w2 Hl.out (by omega) Hj.out (by omega) hr2 hs2)
    clear k0 k1 u0 u1 t0 t1 v0 v1 hr' hs' ht ht2
    refine HC.out.mono ?_
    rintro x w3 ⟨b, rfl, hcb, hb3⟩
    have hb03 := hb02.trans (hb3.mono hb02.size)
    by_cases hb : b = 0
    · subst hb
      clear hcb HC
      go_wp2
      go_ret
      exact ⟨rfl, hb03⟩
    · have q2 : (b == 0) = false := by simp [hb]
      have hG3 := hG2.below hb3
      have v0 := hG3.cell (j := 0) rfl
      have v1 := hG3.cell (j := 1) rfl
      have hr3 := hr2.below hb3
      have hs3 := hs2.below hb3
      have hn3 := hrn.below hb3
      have HR := hide (rreached_any e A q c ms C p d2 ns w3 Hl.out HP.out (by omega) (by omega) hr3 hn3)
      have HCB := hide hcb
      have Hb := hide hb
      clear hcb HC hb hr2 hs2 hrn hb3 hG2
      go_wp2_with fail
      go_fit HR.out
      cases hrb : reachB ms ns with
      | false =>
        rintro x w4 ⟨rfl, hb4⟩
        go_wp2
        go_ret
        exact ⟨rfl, hb03.trans (hb4.mono hb03.size)⟩
      | true =>
        rintro x w4 ⟨rfl, hb4⟩
        have hG4 := hG3.below hb4
        have x0 := hG4.cell (j := 0) rfl
        have x1 := hG4.cell (j := 1) rfl
        have hb04 := hb03.trans (hb4.mono hb03.size)
        have hr4 := hr3.below hb4
        have hs4 := hs3.below hb4
        have hn4 := hn3.below hb4
        have HK := hide (rcheck_any e A q c ms w4 Hl.out hr4)
        have Hrb := hide hrb
        clear v0 v1 hr3 hs3 hn3 hb4 HR hrb hG3
        go_wp2_with fail
        go_fit HK.out
        rcases bool_two14 (grpOk e ms) with hgq | hgq
        · rw [chk_ok hgq]
          rintro x w5 ⟨rfl, hb5⟩
          have hG5 := hG4.below hb5
          have y1 := hG5.cell (j := 1) rfl
          have hb05 := hb04.trans (hb5.mono hb04.size)
          have hr5 := hr4.below hb5
          have hs5 := hs4.below hb5
          have hn5 := hn4.below hb5
          obtain ⟨kk, hkl, hk1, hk2, hk3⟩ := cm_known hgq HCB.out Hb.out Hrb.out
          have Hkk := hide (show ∃ j, j < p ∧ (numA l (ns.getD j 0)).2 = true ∧ b ≤ (numA l (ns.getD j 0)).1 ∧ inB ms (ns.getD j 0) = true from ⟨kk, by rw [← HP.out]; exact hkl, by rw [intD_at hkl]; exact ⟨hk1, hk2, hk3⟩⟩)
          clear x0 x1 hr4 hs4 hn4 hb5 HK hG4 hk1 hk2 hk3 hkl hgq
          go_wp2_with fail
          go_loopw [8] (fun i wr => ∃ j : Nat, i = .int .i64 (j : Int) ∧ j ≤ p ∧ Below w5.heap.size w5 wr ∧ Hid (∀ i, i < j → ¬ ((numA l (ns.getD i 0)).2 = true ∧ b ≤ (numA l (ns.getD i 0)).1 ∧ inB ms (ns.getD i 0) = true))) (fun i _ => p - (intOf i).toNat)
          case atStart => exact ⟨0, rfl, Nat.zero_le _, Below.refl _ _, hide (fun i hi => by omega)⟩
          case round =>
            obtain ⟨j, rfl, hjp, hbw, HN⟩ := hrel
            by_cases hlt : j < p
            · have hjl : j < ns.length := by rw [HP.out]; exact hlt
              obtain ⟨a, rfl, hcn⟩ := hn5.below hbw j _ (ints_get hjl)
              have hyd := intD_at hjl
              obtain ⟨y, hy⟩ : ∃ y, ns[j] = y := ⟨_, rfl⟩
              rw [hy] at hcn hyd
              have HNU := hide (num_any B q1 d l y wr Hj.out (by omega) (hs5.below hbw))
              have hnext := fun (hno : ¬ ((numA l y).2 = true ∧ b ≤ (numA l y).1 ∧ inB ms y = true)) => (show ∀ i, i < j + 1 → ¬ ((numA l (ns.getD i 0)).2 = true ∧ b ≤ (numA l (ns.getD i 0)).1 ∧ inB ms (ns.getD i 0) = true) from fun i hi => by
                rcases Nat.lt_or_ge i j with h | h
                · exact HN.out i h
                · rw [show i = j by omega, hyd]; exact hno)
              obtain ⟨pr, hpr⟩ : ∃ z, numA l y = z := ⟨_, rfl⟩
              obtain ⟨r1, r2⟩ := pr
              rw [hpr] at HNU hnext
              obtain ⟨ib, hib⟩ : ∃ z, inB ms y = z := ⟨_, rfl⟩
              rw [hib] at hnext
              have Hib := hide hib
              have Hnext := hide hnext
              clear hy hpr hib hnext hyd hjl
              go_wp2_with fail
              refine HNU.out.mono ?_
              rintro x w6 ⟨rfl, hb6⟩
              have hbw6 := hbw.trans (hb6.mono hbw.size)
              have y6 := (hG5.below hbw6).cell (j := 1) rfl
              have hcn6 := below_cell14 hb6 hcn
              have hr6 := hr5.below hbw6
              have hb06 := hb05.trans (hbw6.mono hb05.size)
              have HI := fun (x : InC (fun W => Below w6.heap.size w6 W)) => rin_any A q c ms y x.W Hl.out (by omega) (hr6.below x.h)
              rw [Hib.out] at HI
              have HIn := hide HI
              have z0 : ∀ x : InC (fun W => Below w6.heap.size w6 W), x.W.cell? ⟨g, 1, none⟩ = some (.slice A q c) := fun x => below_cell14 x.h y6
              have z1 : ∀ x : InC (fun W => Below w6.heap.size w6 W), x.W.cell? (a.add j) = some (.int .i64 y) := fun x => below_cell14 x.h hcn6
              clear HI hb6 hcn y1
              have Hb06 := hide hb06
              have Hbw6 := hide hbw6
              have hcl : r2 = false ∨ (r2 = true ∧ r1 < b) ∨ (r2 = true ∧ b ≤ r1 ∧ ib = false) ∨ (r2 = true ∧ b ≤ r1 ∧ ib = true) := by
                cases r2 <;> cases ib <;> simp <;> omega
              clear hb06 hbw6 hbw hr6
              rcases hcl with rfl | ⟨rfl, hlb⟩ | ⟨rfl, hlb, rfl⟩ | ⟨rfl, hlb, rfl⟩
              · go_wp2_with fail
                refine wp_region_in (fun W => Below w6.heap.size w6 W) (Below.refl _ _).drew (by kernel_rfl) (by kernel_rfl) ?_
                repeat (go_big_quiet_step (first
                  | (go_at_call 20; exact Calls.in_same (HIn.out _))))
                refine wpQuiet_nil ?_
                intro _ hw'
                obtain ⟨nq, hw''⟩ := hw'
                subst hw''
                have hbq := nq.h
                have HNX := hide (Hnext.out (fun h => by cases h.1))
                go_wp2
                go_roundw
                case rel => exact ⟨j + 1, by go_num, by omega, Hbw6.out.trans (hbq.mono Hbw6.out.size), HNX⟩
                case measure => simp [intOf]; omega
              · have q3 : decide (r1 ≥ b) = false := decide_eq_false (by omega)
                go_wp2_with fail
                refine wp_region_in (fun W => Below w6.heap.size w6 W) (Below.refl _ _).drew (by kernel_rfl) (by kernel_rfl) ?_
                repeat (go_big_quiet_step (first
                  | (go_at_call 20; exact Calls.in_same (HIn.out _))))
                refine wpQuiet_nil ?_
                intro _ hw'
                obtain ⟨nq, hw''⟩ := hw'
                subst hw''
                have hbq := nq.h
                have HNX := hide (Hnext.out (fun h => by have := h.2.1; omega))
                go_wp2
                go_roundw
                case rel => exact ⟨j + 1, by go_num, by omega, Hbw6.out.trans (hbq.mono Hbw6.out.size), HNX⟩
                case measure => simp [intOf]; omega
              · have q3 : decide (r1 ≥ b) = true := decide_eq_true hlb
                go_wp2_with fail
                refine wp_region_in (fun W => Below w6.heap.size w6 W) (Below.refl _ _).drew (by kernel_rfl) (by kernel_rfl) ?_
                repeat (go_big_quiet_step (first
                  | (go_at_call 20; exact Calls.in_same (HIn.out _))))
                refine wpQuiet_nil ?_
                intro _ hw'
                obtain ⟨nq, hw''⟩ := hw'
                subst hw''
                have hbq := nq.h
                have HNX := hide (Hnext.out (fun h => by cases h.2.2))
                go_wp2
                go_roundw
                case rel => exact ⟨j + 1, by go_num, by omega, Hbw6.out.trans (hbq.mono Hbw6.out.size), HNX⟩
                case measure => simp [intOf]; omega
              · have q3 : decide (r1 ≥ b) = true := decide_eq_true hlb
                go_wp2_with fail
                refine wp_region_in (fun W => Below w6.heap.size w6 W) (Below.refl _ _).drew (by kernel_rfl) (by kernel_rfl) ?_
                repeat (go_big_quiet_step (first
                  | (go_at_call 20; exact Calls.in_same (HIn.out _))))
                refine wpQuiet_nil ?_
                intro _ hw'
                obtain ⟨nq, hw''⟩ := hw'
                subst hw''
                have hbq := nq.h
                go_wp2
                go_ret
                exact ⟨rfl, Hb06.out.trans (hbq.mono Hb06.out.size)⟩
            · obtain ⟨j', hj1, hj2⟩ := Hkk.out
              exact absurd hj2 (HN.out j' (by omega))
        · rw [chk_bad hgq]
          rintro x w5 ⟨rfl, hb5⟩
          go_wp2
          go_ret
          exact ⟨rfl, hb04.trans (hb5.mono hb04.size)⟩
end Go.Proofs.Ythejdacemcldgaa
