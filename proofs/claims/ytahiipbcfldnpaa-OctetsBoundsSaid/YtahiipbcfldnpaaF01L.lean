/- The laws of octets, walked. -/
import Derived.Test.YtahiipbcfldnpaaF01r
namespace Go.Proofs.Ytahiipbcfldnpaa
open Go.RowKit Go.Px
set_option linter.unusedVariables false

def lcut (n : Nat) : Nat := if n ≤ 65536 then n else 65536
theorem lcut_le (n : Nat) : lcut n ≤ n ∧ lcut n ≤ 65536 := by unfold lcut; split <;> omega
theorem lcut_len (bs : List UInt8) : (bs.take 65536).length = lcut bs.length := by unfold lcut; rw [List.length_take]; split <;> omega
theorem cut_any (A : Option Addr) (n c : Nat) (w : World) (hnc : n ≤ c) (hc : c ≤ 9223372036854775807) : Calls Try.prog 7 #[.slice A n c] w fun e w' => e = .returned (.slice A (lcut n) c) ∧ w = w' := by
  by_cases h : n ≤ 65536
  · have HL := hide (show lcut n = n by unfold lcut; rw [if_pos h])
    go_enter Try.func7, Try.ntmps7
    go_wp2
    go_ret
    exact ⟨by rw [HL.out]; rfl, rfl⟩
  · have HL := hide (show lcut n = 65536 by unfold lcut; rw [if_neg h])
    go_enter Try.func7, Try.ntmps7
    go_wp2
    go_ret
    exact ⟨by rw [HL.out]; rfl, rfl⟩

theorem awake01_any (w : World) : Calls Try.prog 12 #[] w fun e w' => e = .returned (.bool true) ∧ Below w.heap.size w w' := by
  go_enter Try.func12, Try.ntmps12
  go_wp2_with fail
  refine (put_any none 0 0 [] 258 2 w rfl (by omega) Rd.nil (by omega)).mono ?_
  rw [show putB [] 258 2 = [2, 1] from by decide, show fitsE 258 2 = 0 from by decide]
  rintro e w1 ⟨u1, rfl, ho1, hb1⟩
  obtain ⟨A1, c1, rfl, _, hc1, hc1m, hr1, _⟩ := own_out ho1
  go_wp2_with fail
  refine (putText_any A1 2 c1 [2, 1] _ 2 _ [97, 98] _ rfl (by omega) (hr1.alloc _) rfl (Rd.newN _ _ _ _)).mono ?_
  rw [show putTextB [2, 1] [97, 98] = [2, 1, 2, 0, 0, 0, 97, 98] from by decide, show putTextE [97, 98] = 0 from by decide]
  rintro e w2 ⟨u2, rfl, ho2, hb2⟩
  obtain ⟨A2, c2, rfl, _, hc2, hc2m, hr2, _⟩ := own_out ho2
  go_wp2_with fail
  refine (getText_any A2 8 c2 [2, 1, 2, 0, 0, 0, 97, 98] 2 _ rfl hc2 (by omega) (by unfold maxLen at hc2m; omega) hr2 (by omega) (by omega)).mono ?_
  rw [show textE [2, 1, 2, 0, 0, 0, 97, 98] 2 = 0 from by decide, show textI [2, 1, 2, 0, 0, 0, 97, 98] 2 = 8 from by decide, show textS [2, 1, 2, 0, 0, 0, 97, 98] 2 = [97, 98] from by decide]
  rintro e w3 ⟨u3, rfl, ho3, hb3⟩
  obtain ⟨A3, c3, rfl, _, hc3, hc3m, hr3, _⟩ := own_out ho3
  have hr2' := hr2.below hb3
  obtain ⟨a2, rfl, _⟩ := hr2'.get (show 0 < 8 by omega)
  have g0 : w3.cell? a2 = some (.int .u8 2) := hr2'.at_ (j := 0) rfl
  have g1 : w3.cell? ⟨a2.block, a2.off + 1, none⟩ = some (.int .u8 1) := hr2'.atS (k := 0) rfl
  have gs : (convert 22 9 (.slice A3 2 c3)).run Try.prog w3 = .ok (.string ⟨#[97, 98]⟩) w3 := convB c3 rfl hr3
  go_wp2
  go_ret
  refine ⟨rfl, ?_⟩
  have hb12 : Below w.heap.size w w2 := (hb1.alloc hb1.size _).trans (hb2.mono (by have := hb1.size; simp; omega))
  exact hb12.trans (hb3.mono hb12.size)

theorem lcut_rd {w : World} {A : Option Addr} {bs : List UInt8} (h : Rd w A (bys bs)) : Rd w A (bys (bs.take 65536)) := by rw [bys_take]; exact h.take _

set_option maxHeartbeats 400000 in
theorem octetsNumbers_walk (A : Option Addr) (m c : Nat) (bs : List UInt8) (v : Nat) (i n : Int) (w : World) (hm : bs.length = m) (hmc : m ≤ c) (hc : c ≤ 9223372036854775807) (hr : Rd w A (bys bs)) (hv : v < 18446744073709551616)
    (hi : -9223372036854775808 ≤ i) (hi2 : i ≤ 9223372036854775807) :
    Calls Try.prog 3 #[.slice A m c, .int .u64 v, .int .i64 i, .int .i64 n] w fun e w' => e = .returned (.bool true) ∧ Below w.heap.size w w' := by
  obtain ⟨hl1, hl2⟩ := lcut_le m
  have Hl := hide (show (bs.take 65536).length = lcut m by rw [lcut_len, hm])
  have hr' := lcut_rd hr
  obtain ⟨q, hq⟩ : ∃ q, lcut m = q := ⟨_, rfl⟩
  rw [hq] at hl1 hl2 Hl
  have Hq := hide hq
  clear hq hm
  go_enter Try.func3, Try.ntmps3
  go_wp2_with fail
  refine (cut_any _ _ _ _ hmc hc).mono ?_
  rw [Hq.out]
  rintro e w0 ⟨rfl, rfl⟩
  go_wp2_with fail
  refine (put_any _ _ _ _ v n _ Hl.out (by omega) hr' hv).mono ?_
  rintro e w1 ⟨u1, rfl, ho1, hb1⟩
  obtain ⟨A1, c1, rfl, _, _, _, hr1, _⟩ := own_out ho1
  go_wp2_with fail
  refine (rput_any _ _ _ _ v n _ Hl.out (by omega) (hr'.below hb1) hv).mono ?_
  rintro e w2 ⟨u2, rfl, ho2, hb2⟩
  obtain ⟨A2, c2, rfl, _, _, _, hr2, _⟩ := own_out ho2
  have hb02 : Below w.heap.size w w2 := hb1.trans (hb2.mono hb1.size)
  go_wp2_with fail
  refine (get_any _ _ _ _ i n _ Hl.out (by omega) hc (hr'.below hb02) hi hi2).mono ?_
  rintro e w3 ⟨rfl, rfl⟩
  go_wp2_with fail
  refine (rget_any _ _ _ _ i n _ Hl.out (by omega) hc (hr'.below hb02) hi hi2).mono ?_
  rintro e w3 ⟨rfl, rfl⟩
  have g1 := convB c1 rfl (hr1.below hb2)
  have g2 := convB c2 rfl hr2
  go_wp2_with fail
  refine (awake01_any _).mono ?_
  rintro e w4 ⟨rfl, hb4⟩
  go_wp2
  go_ret
  exact ⟨rfl, hb02.trans (hb4.mono hb02.size)⟩

set_option maxHeartbeats 400000 in
theorem octetsTexts_walk (A : Option Addr) (m c : Nat) (bs : List UInt8) (B : Option Addr) (k d : Nat) (s : List UInt8) (i : Int) (w : World) (hm : bs.length = m) (hmc : m ≤ c) (hc : c ≤ 9223372036854775807) (hr : Rd w A (bys bs))
    (hk : s.length = k) (hkd : k ≤ d) (hd : d ≤ 9223372036854775807) (hs : Rd w B (bys s)) (hi : -9223372036854775808 ≤ i) (hi2 : i ≤ 9223372036854775807) :
    Calls Try.prog 4 #[.slice A m c, .slice B k d, .int .i64 i] w fun e w' => e = .returned (.bool true) ∧ Below w.heap.size w w' := by
  obtain ⟨hl1, hl2⟩ := lcut_le m
  have Hl := hide (show (bs.take 65536).length = lcut m by rw [lcut_len, hm])
  have hr' := lcut_rd hr
  obtain ⟨q, hq⟩ : ∃ q, lcut m = q := ⟨_, rfl⟩
  rw [hq] at hl1 hl2 Hl
  have Hq := hide hq
  clear hq hm
  obtain ⟨hj1, hj2⟩ := lcut_le k
  have Hj := hide (show (s.take 65536).length = lcut k by rw [lcut_len, hk])
  have hs' := lcut_rd hs
  obtain ⟨p, hp⟩ : ∃ p, lcut k = p := ⟨_, rfl⟩
  rw [hp] at hj1 hj2 Hj
  have Hp := hide hp
  clear hp hk
  go_enter Try.func4, Try.ntmps4
  go_wp2_with fail
  refine (cut_any _ _ _ _ hmc hc).mono ?_
  rw [Hq.out]
  rintro e w0 ⟨rfl, rfl⟩
  go_wp2_with fail
  refine (cut_any _ _ _ _ hkd hd).mono ?_
  rw [Hp.out]
  rintro e w0 ⟨rfl, rfl⟩
  go_wp2_with fail
  refine (putText_any _ _ _ _ _ _ _ _ _ Hl.out (by omega) hr' Hj.out hs').mono ?_
  rintro e w1 ⟨u1, rfl, ho1, hb1⟩
  obtain ⟨A1, c1, rfl, _, _, _, hr1, _⟩ := own_out ho1
  go_wp2_with fail
  refine (rputText_any _ _ _ _ _ _ _ _ _ Hl.out (by omega) (hr'.below hb1) Hj.out (hs'.below hb1)).mono ?_
  rintro e w2 ⟨u2, rfl, ho2, hb2⟩
  obtain ⟨A2, c2, rfl, _, _, _, hr2, _⟩ := own_out ho2
  have hb02 : Below w.heap.size w w2 := hb1.trans (hb2.mono hb1.size)
  go_wp2_with fail
  refine (getText_any _ _ _ _ i _ Hl.out (by omega) (by omega) hc (hr'.below hb02) hi hi2).mono ?_
  rintro e w3 ⟨u3, rfl, ho3, hb3⟩
  obtain ⟨A3, c3, rfl, _, _, _, hr3, _⟩ := own_out ho3
  have hb03 : Below w.heap.size w w3 := hb02.trans (hb3.mono hb02.size)
  go_wp2_with fail
  refine (rgetText_any _ _ _ _ i _ Hl.out (by omega) (by omega) hc (hr'.below hb03) hi hi2).mono ?_
  rintro e w4 ⟨u4, rfl, ho4, hb4⟩
  obtain ⟨A4, c4, rfl, _, _, _, hr4, _⟩ := own_out ho4
  have hb04 : Below w.heap.size w w4 := hb03.trans (hb4.mono hb03.size)
  have g1 := convB c1 rfl (((hr1.below hb2).below hb3).below hb4)
  have g2 := convB c2 rfl ((hr2.below hb3).below hb4)
  have g3 := convB c3 rfl (hr3.below hb4)
  have g4 := convB c4 rfl hr4
  go_wp2_with fail
  refine (awake01_any _).mono ?_
  rintro e w5 ⟨rfl, hb5⟩
  go_wp2
  go_ret
  exact ⟨rfl, hb04.trans (hb5.mono hb04.size)⟩

set_option maxHeartbeats 800000 in
theorem octetsBounds_walk (A : Option Addr) (m c : Nat) (bs : List UInt8) (i n : Int) (w : World) (hm : bs.length = m) (hmc : m ≤ c) (hc : c ≤ 9223372036854775807) (hr : Rd w A (bys bs))
    (hi : -9223372036854775808 ≤ i) (hi2 : i ≤ 9223372036854775807) :
    Calls Try.prog 5 #[.slice A m c, .int .i64 i, .int .i64 n] w fun e w' => e = .returned (.bool true) ∧ Below w.heap.size w w' := by
  obtain ⟨hl1, hl2⟩ := lcut_le m
  have Hl := hide (show (bs.take 65536).length = lcut m by rw [lcut_len, hm])
  have hr' := lcut_rd hr
  obtain ⟨q, hq⟩ : ∃ q, lcut m = q := ⟨_, rfl⟩
  rw [hq] at hl1 hl2 Hl
  have Hq := hide hq
  clear hq hm
  obtain ⟨ge, hge⟩ : ∃ x, getE (bs.take 65536) i n = x := ⟨_, rfl⟩
  obtain ⟨gi, hgi⟩ : ∃ x, getI (bs.take 65536) i n = x := ⟨_, rfl⟩
  obtain ⟨te, hte⟩ : ∃ x, textE (bs.take 65536) i = x := ⟨_, rfl⟩
  obtain ⟨ti, hti⟩ : ∃ x, textI (bs.take 65536) i = x := ⟨_, rfl⟩
  have f1 : ge = 0 → gi = i + n ∧ 1 ≤ n ∧ n ≤ 8 ∧ 0 ≤ i ∧ i + n ≤ q := fun h => by
    have hz := getE_zero (hge.trans h)
    rw [Hl.out] at hz
    refine ⟨by rw [← hgi]; unfold getI; rw [if_pos (hge.trans h)], hz.1, hz.2.1, hz.2.2.1, hz.2.2.2.2⟩
  have f2 : ge ≠ 0 → gi = 0 := fun h => by rw [← hgi]; unfold getI; rw [if_neg (by rw [hge]; exact h)]
  have f3 : te = 0 → 0 ≤ i ∧ i + 4 ≤ ti ∧ ti ≤ q := fun h => by
    have h0 : textE (bs.take 65536) i = 0 := hte.trans h
    have hI : ti = i + 4 + getV (bs.take 65536) i 4 := by rw [← hti]; unfold textI; rw [if_pos h0]
    have h1 : getE (bs.take 65536) i 4 = 0 := by
      unfold textE at h0; split at h0
      · assumption
      · exact h0
    have hz := getE_zero h1
    rw [Hl.out] at hz
    unfold textE at h0
    rw [if_pos h1] at h0
    split at h0
    · split at h0
      · rename_i hh; rw [Hl.out] at hh; omega
      · cases h0
    · cases h0
  have f4 : te ≠ 0 → ti = 0 := fun h => by rw [← hti]; unfold textI; rw [if_neg (by rw [hte]; exact h)]
  have Hge := hide hge
  have Hgi := hide hgi
  have Hte := hide hte
  have Hti := hide hti
  clear hge hgi hte hti
  by_cases c1 : ge = 0 <;> by_cases c2 : te = 0
  · obtain ⟨e1, e2, e3, e4, e5⟩ := f1 c1
    obtain ⟨e6, e7, e8⟩ := f3 c2
    clear f1 f2 f3 f4
    subst c1; subst c2; subst e1
    have k1 : (i + n - n != i) = false := by simp
    go_enter Try.func5, Try.ntmps5
    go_wp2_with fail
    refine (awake01_any _).mono ?_
    rintro e w1 ⟨rfl, hb1⟩
    go_wp2_with fail
    refine (cut_any _ _ _ _ hmc hc).mono ?_
    rw [Hq.out]
    rintro e w2 ⟨rfl, rfl⟩
    go_wp2_with fail
    refine (get_any _ _ _ _ i n _ Hl.out (by omega) hc (hr'.below hb1) hi hi2).mono ?_
    rw [Hge.out, Hgi.out]
    rintro e w3 ⟨rfl, rfl⟩
    go_wp2_with fail
    refine (getText_any _ _ _ _ i _ Hl.out (by omega) (by omega) hc (hr'.below hb1) hi hi2).mono ?_
    rw [Hte.out, Hti.out]
    rintro e w4 ⟨u4, rfl, ho4, hb4⟩
    go_wp2
    go_ret
    exact ⟨rfl, hb1.trans (hb4.mono hb1.size)⟩
  · obtain ⟨e1, e2, e3, e4, e5⟩ := f1 c1
    have e6 := f4 c2
    have c3 : (te == 0) = false := by simpa using c2
    have c4 : (te != 0) = true := by simpa using c2
    clear f1 f2 f3 f4 c2
    subst c1; subst e1; subst e6
    have k1 : (i + n - n != i) = false := by simp
    go_enter Try.func5, Try.ntmps5
    go_wp2_with fail
    refine (awake01_any _).mono ?_
    rintro e w1 ⟨rfl, hb1⟩
    go_wp2_with fail
    refine (cut_any _ _ _ _ hmc hc).mono ?_
    rw [Hq.out]
    rintro e w2 ⟨rfl, rfl⟩
    go_wp2_with fail
    refine (get_any _ _ _ _ i n _ Hl.out (by omega) hc (hr'.below hb1) hi hi2).mono ?_
    rw [Hge.out, Hgi.out]
    rintro e w3 ⟨rfl, rfl⟩
    go_wp2_with fail
    refine (getText_any _ _ _ _ i _ Hl.out (by omega) (by omega) hc (hr'.below hb1) hi hi2).mono ?_
    rw [Hte.out, Hti.out]
    rintro e w4 ⟨u4, rfl, ho4, hb4⟩
    go_wp2
    go_ret
    exact ⟨rfl, hb1.trans (hb4.mono hb1.size)⟩
  · have e1 := f2 c1
    obtain ⟨e6, e7, e8⟩ := f3 c2
    have c3 : (ge == 0) = false := by simpa using c1
    have c4 : (ge != 0) = true := by simpa using c1
    clear f1 f2 f3 f4 c1
    subst c2; subst e1
    go_enter Try.func5, Try.ntmps5
    go_wp2_with fail
    refine (awake01_any _).mono ?_
    rintro e w1 ⟨rfl, hb1⟩
    go_wp2_with fail
    refine (cut_any _ _ _ _ hmc hc).mono ?_
    rw [Hq.out]
    rintro e w2 ⟨rfl, rfl⟩
    go_wp2_with fail
    refine (get_any _ _ _ _ i n _ Hl.out (by omega) hc (hr'.below hb1) hi hi2).mono ?_
    rw [Hge.out, Hgi.out]
    rintro e w3 ⟨rfl, rfl⟩
    go_wp2_with fail
    refine (getText_any _ _ _ _ i _ Hl.out (by omega) (by omega) hc (hr'.below hb1) hi hi2).mono ?_
    rw [Hte.out, Hti.out]
    rintro e w4 ⟨u4, rfl, ho4, hb4⟩
    go_wp2
    go_ret
    exact ⟨rfl, hb1.trans (hb4.mono hb1.size)⟩
  · have e1 := f2 c1
    have e6 := f4 c2
    have c3 : (ge == 0) = false := by simpa using c1
    have c4 : (ge != 0) = true := by simpa using c1
    have c5 : (te == 0) = false := by simpa using c2
    have c6 : (te != 0) = true := by simpa using c2
    clear f1 f2 f3 f4 c1 c2
    subst e1; subst e6
    go_enter Try.func5, Try.ntmps5
    go_wp2_with fail
    refine (awake01_any _).mono ?_
    rintro e w1 ⟨rfl, hb1⟩
    go_wp2_with fail
    refine (cut_any _ _ _ _ hmc hc).mono ?_
    rw [Hq.out]
    rintro e w2 ⟨rfl, rfl⟩
    go_wp2_with fail
    refine (get_any _ _ _ _ i n _ Hl.out (by omega) hc (hr'.below hb1) hi hi2).mono ?_
    rw [Hge.out, Hgi.out]
    rintro e w3 ⟨rfl, rfl⟩
    go_wp2_with fail
    refine (getText_any _ _ _ _ i _ Hl.out (by omega) (by omega) hc (hr'.below hb1) hi hi2).mono ?_
    rw [Hte.out, Hti.out]
    rintro e w4 ⟨u4, rfl, ho4, hb4⟩
    go_wp2
    go_ret
    exact ⟨rfl, hb1.trans (hb4.mono hb1.size)⟩

set_option maxHeartbeats 800000 in
theorem octetsOwn_walk (A : Option Addr) (m c : Nat) (bs : List UInt8) (B : Option Addr) (k d : Nat) (s : List UInt8) (w : World) (hm : bs.length = m) (hmc : m ≤ c) (hc : c ≤ 9223372036854775807) (hr : Rd w A (bys bs))
    (hk : s.length = k) (hkd : k ≤ d) (hd : d ≤ 9223372036854775807) (hs : Rd w B (bys s)) :
    Calls Try.prog 6 #[.slice A m c, .slice B k d] w fun e w' => e = .returned (.bool true) ∧ Below w.heap.size w w' := by
  obtain ⟨hl1, hl2⟩ := lcut_le m
  have Hl := hide (show (bs.take 65536).length = lcut m by rw [lcut_len, hm])
  have hr' := lcut_rd hr
  obtain ⟨q, hq⟩ : ∃ q, lcut m = q := ⟨_, rfl⟩
  rw [hq] at hl1 hl2 Hl
  have Hq := hide hq
  clear hq hm hr
  obtain ⟨hj1, hj2⟩ := lcut_le k
  have Hj := hide (show (s.take 65536).length = lcut k by rw [lcut_len, hk])
  have hs' := lcut_rd hs
  obtain ⟨p, hp⟩ : ∃ p, lcut k = p := ⟨_, rfl⟩
  rw [hp] at hj1 hj2 Hj
  have Hp := hide hp
  clear hp hk hs
  generalize bs.take 65536 = bs' at *
  generalize s.take 65536 = s' at *
  go_enter Try.func6, Try.ntmps6
  go_wp2_with fail
  refine (cut_any _ _ _ _ hmc hc).mono ?_
  rw [Hq.out]
  rintro e w0 ⟨rfl, rfl⟩
  go_wp2_with fail
  refine (cut_any _ _ _ _ hkd hd).mono ?_
  rw [Hp.out]
  rintro e w0 ⟨rfl, rfl⟩
  go_wp2_with (first | (with_reducible refine stop_append rfl ?_) | (with_reducible refine stop_copy rfl ?_) | (with_reducible refine stop_make rfl ?_))
  refine (Grow.empty w _ _).append rfl rfl tBytes rfl rfl (by rw [bys_length, Hl.out]; omega) (hr'.alloc _) (bys_one _) (by omega) (by omega) ?_
  intro v1 w1 hG1 _
  have hb1 := hG1.emptyAll
  have ho1 := hG1.owns
  rw [Nat.zero_add, List.nil_append] at ho1
  obtain ⟨A1, c1, rfl, _, hc1, hcm1, hr1, ha1⟩ := own_out ho1
  clear hG1
  go_wp2_with (first | (with_reducible refine stop_append rfl ?_) | (with_reducible refine stop_copy rfl ?_) | (with_reducible refine stop_make rfl ?_))
  refine (Grow.empty w1 _ _).append rfl rfl tBytes rfl rfl (by rw [bys_length, Hj.out]; omega) ((hs'.below hb1).alloc _) (bys_one _) (by omega) (by omega) ?_
  intro v2 w2 hG2 _
  have hb2 := hG2.emptyAll
  have ho2 := hG2.owns
  rw [Nat.zero_add, List.nil_append] at ho2
  obtain ⟨A2, c2, rfl, _, hc2, hcm2, hr2, ha2⟩ := own_out ho2
  clear hG2
  have hb02 : Below w.heap.size w w2 := hb1.trans (hb2.mono hb1.size)
  go_wp2_with fail
  refine (putText_any _ _ _ bs' _ _ _ s' _ Hl.out (by omega) (hr1.below hb2) Hj.out hr2).mono ?_
  rintro e w3 ⟨u3, rfl, ho3, hb3⟩
  obtain ⟨A3, c3, rfl, _, hc3, hcm3, hr3, ha3⟩ := own_out ho3
  have hb03 : Below w.heap.size w w3 := hb02.trans (hb3.mono hb02.size)
  have g1 := convB c1 Hl.out ((hr1.below hb2).below hb3)
  have g2 := convB c Hl.out (hr'.below hb03)
  have g3 := convB c2 Hj.out (hr2.below hb3)
  have g4 := convB d Hj.out (hs'.below hb03)
  have ho13 := own_below (own_below ho1 hb2) hb3
  clear ho1 ho2
  go_wp2_with fail
  go_loopw [42] (fun i wr => ∃ j : Nat, j ≤ q ∧ i = .int .i64 j ∧ ∃ ys, wr.ownsRow w.heap.size 5 1 (.slice A1 q c1) q ys ∧ (∀ u ∈ ys, ∃ z : Int, u = .int .u8 z) ∧ w3.grownBy wr (Value.slice A1 q c1).ownBlock) (fun i _ => q - (intOf i).toNat)
  case atStart => exact ⟨0, Nat.zero_le _, rfl, _, ho13, fun u hu => by simp [bys] at hu; obtain ⟨b, _, rfl⟩ := hu; exact ⟨_, rfl⟩, grown_refl _ _⟩
  case round =>
    obtain ⟨j, hj, rfl, ys, ho, hz, hg⟩ := hrel
    clear g1 g2 g3 g4
    by_cases hlt : j < q
    · obtain ⟨g, rfl, hgb, hgl⟩ := own_form ho (by omega)
      have hyl : ys.length = q := by have := ho.1; omega
      have hjy : j < ys.length := by omega
      obtain ⟨z, hzz⟩ := hz _ (List.getElem_mem hjy)
      have hcell : wr.cell? ⟨g, j, none⟩ = some (.int .u8 z) := by rw [ho.cellAt j (by omega), List.getElem?_eq_getElem hjy, hzz]
      have hfr : wr.frozen? ⟨g, j, none⟩ = false := ho.frozenAt j
      clear hzz hyl
      go_wp2
      go_roundw
      case rel =>
        refine ⟨j + 1, by omega, by go_num, _, (ho.stored j _).1, ?_, ?_⟩
        · intro u hu
          rcases List.mem_or_eq_of_mem_set hu with h | h
          · exact hz u h
          · exact ⟨_, h⟩
        · exact grown_chain hg (ho.stored j _).2 (.inl rfl)
      case measure => simp [intOf]; omega
    · have hbr : Below w.heap.size w wr := hb03.grown hg hb03.size (fun g hgg => (ho13.lt g hgg).1)
      have hr3' : Rd wr A3 (bys (putTextB bs' s')) := hr3.grown hg (fun a ha hh => by
        have h1 := (ha3 a ha).1
        rcases A1 with _ | a1
        · simp [Value.ownBlock] at hh
        · simp [Value.ownBlock] at hh
          have := (ha1 a1 rfl).2
          have := hb2.size
          omega)
      go_wp2_with fail
      refine (rputText_any _ _ _ bs' _ _ _ s' _ Hl.out (by omega) (hr'.below hbr) Hj.out (hs'.below hbr)).mono ?_
      rintro e w4 ⟨u4, rfl, ho4, hb4⟩
      obtain ⟨A4, c4, rfl, _, hc4, hcm4, hr4, ha4⟩ := own_out ho4
      have g5 := convB c3 rfl (hr3'.below hb4)
      have g6 := convB c4 rfl hr4
      go_wp2_with fail
      refine (awake01_any _).mono ?_
      rintro e w5 ⟨rfl, hb5⟩
      go_wp2
      go_ret
      have hb4' := hbr.trans (hb4.mono hbr.size)
      exact ⟨rfl, hb4'.trans (hb5.mono hb4'.size)⟩
end Go.Proofs.Ytahiipbcfldnpaa
