/- plinthref05: Laid at any pages. -/
import Derived.Test.YtjilkaciopiabaaDoorF05q
import Derived.Test.YtjilkaciopiabaaDoorStp
namespace Go.Proofs.YtjilkaciopiabaaDoor
open Go.RowKit Go.Px
set_option linter.unusedVariables false
theorem serB_out {num : Int} (h : serB num = true) : 1 ≤ num ∧ num ≤ 4611686018427387904 := of_decide_eq_true h
set_option maxHeartbeats 6400000 in
theorem rlaid_any (b z : Int) (A : Option Addr) (n c : Nat) (cs : List Value) (ps : List (Int × Int × List UInt8)) (Q : Nat → Prop) (w : World) (hn : ps.length = n) (hnc : n ≤ c) (hc : c ≤ 9223372036854775807) (hr : Rd w A cs) (hP : PgRows w Q cs ps) :
    Calls Tryd.prog 37 #[shp b z, .slice A n c] w fun e w' => e = .returned (.bool (mpA b z (-1) ps)) ∧ Below w.heap.size w w' := by
  obtain ⟨w0, hw0⟩ : ∃ w0, w.alloc (.cells #[.int .i64 b, .int .i64 z] 23) = w0 := ⟨_, rfl⟩
  obtain ⟨g, hg⟩ : ∃ g, w.heap.size = g := ⟨_, rfl⟩
  have hS : Blk w0 g [.int .i64 b, .int .i64 z] 23 := by rw [← hw0, ← hg]; exact Blk.new w [.int .i64 b, .int .i64 z] _
  have hb0 : Below w.heap.size w w0 := by rw [← hw0]; exact (Below.refl _ _).alloc (Nat.le_refl _) _
  have hr0 := hr.below hb0
  have hP0 := hP.below hb0
  have hl := hP.1
  have Hw0 := hide hw0
  go_enter Tryd.func37, Tryd.ntmps37
  go_wp2
  clear hw0
  go_loopw [5] (fun i wr => ∃ (k : Nat) (ah : Int), k ≤ n ∧ i = .int .i64 k ∧ mpA b z (-1) ps = mpA b z ah (ps.drop k) ∧ ((k = 0 ∧ ah = -1) ∨ (1 ≤ k ∧ 0 ≤ ah ∧ ∃ p, ps[k - 1]? = some p ∧ p.1 = ah)) ∧ Below w0.heap.size w0 wr) (fun i _ => n - (intOf i).toNat)
  case atStart => exact ⟨0, -1, by omega, rfl, rfl, .inl ⟨rfl, rfl⟩, Below.refl _ _⟩
  case round =>
    obtain ⟨k, ah, hk, rfl, hm, hah, hB⟩ := hrel
    have hbx : Below w.heap.size w wr := hb0.trans (hB.mono hb0.size)
    by_cases hlt : k < n
    · obtain ⟨p, hp⟩ : ∃ p, ps[k]? = some p := ⟨_, List.getElem?_eq_getElem (by omega)⟩
      obtain ⟨A', m, c', h1, h2, h3, h4, h5, h6, h7, h8⟩ := (hP0.below hB).2 k p hp
      obtain ⟨a, rfl, hat⟩ := (hr0.below hB).some_of (xs := cs) (by omega)
      have y0 := rd3_0 hat h1
      have y1 := rd3_S (i := 0) hat h2
      have y2 := rd3_S (i := 1) hat h3
      have hd : ps.drop k = p :: ps.drop (k + 1) := by
        rw [List.drop_eq_getElem_cons (by omega)]
        rw [List.getElem?_eq_getElem (by omega)] at hp
        injection hp with hp
        rw [hp]
      obtain ⟨p1, p2, pd⟩ := p
      simp only at h1 h2 h4 h7 y0 y1
      rw [hd] at hm
      obtain ⟨g1, hg1⟩ : ∃ g, wr.heap.size = g := ⟨_, rfl⟩
      obtain ⟨w1, hw1⟩ : ∃ x, wr.alloc (.cells #[.int .i64 p1, .int .i64 p2, .slice A' m c'] 80) = x := ⟨_, rfl⟩
      have hB1 : Blk w1 g1 [.int .i64 p1, .int .i64 p2, .slice A' m c'] 80 := by rw [← hw1, ← hg1]; exact Blk.new wr [.int .i64 p1, .int .i64 p2, .slice A' m c'] _
      have hb01 : Below wr.heap.size wr w1 := by rw [← hw1]; exact (Below.refl _ _).alloc (Nat.le_refl _) _
      have hS1 := (hS.below hB).below hb01
      have hBx : Below w0.heap.size w0 w1 := hB.trans (hb01.mono hB.size)
      have hbx1 : Below w.heap.size w w1 := hb0.trans (hBx.mono hb0.size)
      have Hw1 := hide hw1
      clear hw1
      have k0 := hB1.cell (j := 0) rfl
      have k1 := hB1.cell (j := 1) rfl
      have k2 := hB1.cell (j := 2) rfl
      have x0 := hS1.cell (j := 0) rfl
      have x1 := hS1.cell (j := 1) rfl
      have hat1 : ∀ j u, cs[j]? = some u → w1.cell? (a.add j) = some u := fun j u hu => cell_below hb01 (hat j u hu)
      by_cases c1 : p1 < 0
      · have hf := hide (hm.trans (mpA_no (fun hh => hh.1 (by show p1 ≤ ah; rcases hah with ⟨_, h⟩ | ⟨_, h, _⟩ <;> omega))))
        clear hm hd
        go_wp2_with fail
        rw [Hw1.out]
        go_quiet (fail)
        go_wp2
        go_ret
        exact ⟨by rw [hf.out]; rfl, below_drewN hbx1 _⟩
      · by_cases c2 : b ≤ p1
        · have hf := hide (hm.trans (mpA_no (fun hh => hh.2.1 c2)))
          clear hm hd
          have c1' : decide (p1 < 0) = false := decide_eq_false c1
          clear c1
          go_wp2_with fail
          rw [Hw1.out]
          go_quiet (fail)
          go_wp2
          go_ret
          exact ⟨by rw [hf.out]; rfl, below_drewN hbx1 _⟩
        · rcases hah with ⟨hk0, rfl⟩ | ⟨hk1, hah0, pp, hpp, rfl⟩
          · have hkd : decide (0 < k) = false := decide_eq_false (by omega)
            have Hk0 := hide hk0
            clear hk0
            by_cases c4 : p2 < 1
            · have hf := hide (hm.trans (mpA_no (fun hh => by have := serB_out hh.2.2.1; simp only at this; omega)))
              have d1 : decide (p1 < 0) = false := decide_eq_false (by omega)
              have d2 : decide (b ≤ p1) = false := decide_eq_false (by omega)
              clear c1 c2
              clear hm hd
              go_wp2_with fail
              rw [Hw1.out]
              go_quiet (fail)
              go_wp2
              go_ret
              exact ⟨by rw [hf.out]; rfl, below_drewN hbx1 _⟩
            · by_cases c5 : 4611686018427387904 < p2
              · have hf := hide (hm.trans (mpA_no (fun hh => by have := serB_out hh.2.2.1; simp only at this; omega)))
                have d1 : decide (p1 < 0) = false := decide_eq_false (by omega)
                have d2 : decide (b ≤ p1) = false := decide_eq_false (by omega)
                have d4 : decide (p2 < 1) = false := decide_eq_false (by omega)
                clear c1 c2 c4
                clear hm hd
                go_wp2_with fail
                rw [Hw1.out]
                go_quiet (fail)
                go_wp2
                go_ret
                exact ⟨by rw [hf.out]; rfl, below_drewN hbx1 _⟩
              · by_cases c6 : (m : Int) = z
                · have hf := hide (hm.trans (mpA_yes ⟨by show ¬ p1 ≤ _; omega, c2, by unfold serB; exact decide_eq_true ⟨by show 1 ≤ p2; omega, by show p2 ≤ 4611686018427387904; omega⟩, by show (pd.length : Int) = z; rw [h4]; exact c6⟩))
                  have d1 : decide (p1 < 0) = false := decide_eq_false (by omega)
                  have d2 : decide (b ≤ p1) = false := decide_eq_false (by omega)
                  have d4 : decide (p2 < 1) = false := decide_eq_false (by omega)
                  have d5 : decide ((4611686018427387904 : Int) < p2) = false := decide_eq_false (by omega)
                  have d6 : ((m : Int) != z) = false := by simpa using c6
                  have q0 : 0 ≤ p1 := by omega
                  clear c1 c2 c4 c5 c6
                  clear hm hd
                  go_wp2_with fail
                  rw [Hw1.out]
                  go_quiet (fail)
                  go_wp2
                  go_roundw
                  case rel => exact ⟨k + 1, p1, by omega, by go_num, hf.out, .inr ⟨by omega, by omega, _, hp, rfl⟩, below_drewN hBx _⟩
                  case measure => simp [intOf]; omega
                · have hf := hide (hm.trans (mpA_no (fun hh => by have := hh.2.2.2; simp only at this; rw [h4] at this; exact c6 this)))
                  have d1 : decide (p1 < 0) = false := decide_eq_false (by omega)
                  have d2 : decide (b ≤ p1) = false := decide_eq_false (by omega)
                  have d4 : decide (p2 < 1) = false := decide_eq_false (by omega)
                  have d5 : decide ((4611686018427387904 : Int) < p2) = false := decide_eq_false (by omega)
                  have d6 : ((m : Int) != z) = true := by simpa using c6
                  clear c1 c2 c4 c5 c6
                  clear hm hd
                  go_wp2_with fail
                  rw [Hw1.out]
                  go_quiet (fail)
                  go_wp2
                  go_ret
                  exact ⟨by rw [hf.out]; rfl, below_drewN hbx1 _⟩
          · obtain ⟨A2, m2, c2', i1, i2, i3, i4, i5, i6, i7, i8⟩ := (hP0.below hB).2 (k - 1) pp hpp
            have yp := rd3_0 hat1 i1
            have hkI : (k : Int) - 1 = ((k - 1 : Nat) : Int) := by omega
            have hkp : 0 < k := by omega
            have hk2 : ((k - 1 : Nat) : Int) < (n : Int) := by omega
            by_cases c3 : p1 ≤ pp.1
            · have hf := hide (hm.trans (mpA_no (fun hh => hh.1 c3)))
              have d1 : decide (p1 < 0) = false := decide_eq_false (by omega)
              have d2 : decide (b ≤ p1) = false := decide_eq_false (by omega)
              clear c1 c2
              clear hm hd
              go_wp2_with fail
              rw [Hw1.out]
              go_quiet (fail)
              go_wp2
              go_ret
              exact ⟨by rw [hf.out]; rfl, below_drewN hbx1 _⟩
            · by_cases c4 : p2 < 1
              · have hf := hide (hm.trans (mpA_no (fun hh => by have := serB_out hh.2.2.1; simp only at this; omega)))
                have d1 : decide (p1 < 0) = false := decide_eq_false (by omega)
                have d2 : decide (b ≤ p1) = false := decide_eq_false (by omega)
                have d3 : decide (p1 ≤ pp.1) = false := decide_eq_false (by omega)
                clear c1 c2
                clear hm hd
                go_wp2_with fail
                rw [Hw1.out]
                go_quiet (fail)
                go_wp2
                go_ret
                exact ⟨by rw [hf.out]; rfl, below_drewN hbx1 _⟩
              · by_cases c5 : 4611686018427387904 < p2
                · have hf := hide (hm.trans (mpA_no (fun hh => by have := serB_out hh.2.2.1; simp only at this; omega)))
                  have d1 : decide (p1 < 0) = false := decide_eq_false (by omega)
                  have d2 : decide (b ≤ p1) = false := decide_eq_false (by omega)
                  have d3 : decide (p1 ≤ pp.1) = false := decide_eq_false (by omega)
                  have d4 : decide (p2 < 1) = false := decide_eq_false (by omega)
                  clear c1 c2 c4
                  clear hm hd
                  go_wp2_with fail
                  rw [Hw1.out]
                  go_quiet (fail)
                  go_wp2
                  go_ret
                  exact ⟨by rw [hf.out]; rfl, below_drewN hbx1 _⟩
                · by_cases c6 : (m : Int) = z
                  · have hf := hide (hm.trans (mpA_yes ⟨by show ¬ p1 ≤ _; omega, c2, by unfold serB; exact decide_eq_true ⟨by show 1 ≤ p2; omega, by show p2 ≤ 4611686018427387904; omega⟩, by show (pd.length : Int) = z; rw [h4]; exact c6⟩))
                    have d1 : decide (p1 < 0) = false := decide_eq_false (by omega)
                    have d2 : decide (b ≤ p1) = false := decide_eq_false (by omega)
                    have d3 : decide (p1 ≤ pp.1) = false := decide_eq_false (by omega)
                    have d4 : decide (p2 < 1) = false := decide_eq_false (by omega)
                    have d5 : decide ((4611686018427387904 : Int) < p2) = false := decide_eq_false (by omega)
                    have d6 : ((m : Int) != z) = false := by simpa using c6
                    have q0 : 0 ≤ p1 := by omega
                    clear c1 c2 c4 c5 c6
                    clear hm hd
                    go_wp2_with fail
                    rw [Hw1.out]
                    go_quiet (fail)
                    go_wp2
                    go_roundw
                    case rel => exact ⟨k + 1, p1, by omega, by go_num, hf.out, .inr ⟨by omega, by omega, _, hp, rfl⟩, below_drewN hBx _⟩
                    case measure => simp [intOf]; omega
                  · have hf := hide (hm.trans (mpA_no (fun hh => by have := hh.2.2.2; simp only at this; rw [h4] at this; exact c6 this)))
                    have d1 : decide (p1 < 0) = false := decide_eq_false (by omega)
                    have d2 : decide (b ≤ p1) = false := decide_eq_false (by omega)
                    have d3 : decide (p1 ≤ pp.1) = false := decide_eq_false (by omega)
                    have d4 : decide (p2 < 1) = false := decide_eq_false (by omega)
                    have d5 : decide ((4611686018427387904 : Int) < p2) = false := decide_eq_false (by omega)
                    have d6 : ((m : Int) != z) = true := by simpa using c6
                    clear c1 c2 c4 c5 c6
                    clear hm hd
                    go_wp2_with fail
                    rw [Hw1.out]
                    go_quiet (fail)
                    go_wp2
                    go_ret
                    exact ⟨by rw [hf.out]; rfl, below_drewN hbx1 _⟩
    · obtain rfl : k = n := by omega
      have hf := hide (hm.trans (by rw [List.drop_eq_nil_of_le (by omega)]; rfl : mpA b z ah (ps.drop k) = true))
      clear hm
      go_wp2
      go_ret
      exact ⟨by rw [hf.out]; rfl, hbx⟩
end Go.Proofs.YtjilkaciopiabaaDoor
