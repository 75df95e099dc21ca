/- The document's disk: Read. -/
import Derived.Test.YtdianokikhggnaaF08t
import Derived.Test.YtdianokikhggnaaF08e
namespace Go.Proofs.Ytdianokikhggnaa
set_option maxRecDepth 20000
open Go.RowKit Go.Px Go.Maps
set_option linter.unusedVariables false
section
variable {w w' : World} {Q Q' X : Nat → Prop} {t f : Nat} {cs cs' : List Value} {d d' : Dk}
theorem rread08_out (h : RDIs w Q t f cs d) (i n : Int) (hi1 : -9223372036854775808 ≤ i) (hi2 : i ≤ 9223372036854775807) (hn1 : -9223372036854775808 ≤ n) (hn2 : n ≤ 9223372036854775807) (hno : ¬ d.inR i n) :
    Calls Try.prog 26 #[.pointer (some ⟨t, 0, none⟩), .int .i64 i, .int .i64 n] w fun e w' => e = .returned (.tuple #[.slice none 0 0, .int .i64 5]) ∧ w = w' := by
  obtain ⟨cc, b1, _⟩ := h.blk
  have x1 := b1.cell (j := 1) rfl
  have hN := h.ok.n2
  obtain ⟨N, hNe⟩ : ∃ N, d.fast.length = N := ⟨_, rfl⟩
  unfold Dk.inR inN at hno
  rw [hNe] at hN x1 hno
  clear h b1 hNe
  rcases (show i < 0 ∨ (0 ≤ i ∧ n < 0) ∨ (0 ≤ i ∧ 0 ≤ n ∧ (N : Int) < i) ∨ (0 ≤ i ∧ 0 ≤ n ∧ i ≤ (N : Int) ∧ (N : Int) - i < n) by omega) with h1 | ⟨h1, h2⟩ | ⟨h1, h2, h3⟩ | ⟨h1, h2, h3, h4⟩
  · have q1 : decide (i < 0) = true := decide_eq_true h1
    clear hno
    go_enter Try.func26, Try.ntmps26
    go_wp2
    refine bodyPost_ret (results_tmp2 rfl _ _ _) rfl ?_
    exact ⟨rfl, rfl⟩
  · have q1 : decide (i < 0) = false := decide_eq_false (by omega)
    have q2 : decide (n < 0) = true := decide_eq_true h2
    clear hno
    go_enter Try.func26, Try.ntmps26
    go_wp2
    refine bodyPost_ret (results_tmp2 rfl _ _ _) rfl ?_
    exact ⟨rfl, rfl⟩
  · have q1 : decide (i < 0) = false := decide_eq_false (by omega)
    have q2 : decide (n < 0) = false := decide_eq_false (by omega)
    have q3 : decide ((N : Int) < i) = true := decide_eq_true h3
    clear hno
    go_enter Try.func26, Try.ntmps26
    go_wp2
    refine bodyPost_ret (results_tmp2 rfl _ _ _) rfl ?_
    exact ⟨rfl, rfl⟩
  · have q1 : decide (i < 0) = false := decide_eq_false (by omega)
    have q2 : decide (n < 0) = false := decide_eq_false (by omega)
    have q3 : decide ((N : Int) < i) = false := decide_eq_false (by omega)
    have hw : IntKind.i64.wrap ((N : Int) - i) = (N : Int) - i := by rw [IntKind.wrap_i64]; omega
    have q4 : decide ((N : Int) - i < n) = true := decide_eq_true h4
    clear hno
    go_enter Try.func26, Try.ntmps26
    go_wp2
    refine bodyPost_ret (results_tmp2 rfl _ _ _) rfl ?_
    exact ⟨rfl, rfl⟩
set_option maxHeartbeats 1600000 in
theorem rread08_in (h : RDIs w Q t f cs d) (I K : Nat) (hIK : I + K ≤ d.fast.length) :
    Calls Try.prog 26 #[.pointer (some ⟨t, 0, none⟩), .int .i64 (I : Int), .int .i64 (K : Int)] w fun e w' => ∃ A c, e = .returned (.tuple #[.slice A (d.readB (I : Int) (K : Int)).length c, .int .i64 (d.readE (I : Int) (K : Int))]) ∧ (d.readB (I : Int) (K : Int)).length ≤ c ∧ c ≤ 9223372036854775807 ∧ Rd w' A (bys (d.readB (I : Int) (K : Int))) ∧ Below w.heap.size w w' := by
  obtain ⟨cc, b1, _⟩ := h.blk
  have x1 := b1.cell (j := 1) rfl
  have hN := h.ok.n2
  have hs1 := h.ok.s1
  have hs2 := h.ok.s2
  have hin : d.inR (I : Int) (K : Int) := ⟨by omega, by omega, by omega, by omega⟩
  have hE1 : ∀ x : Nat, I ≤ x → x < I + K → d.unread (x : Int) = true → d.readE (I : Int) (K : Int) = 81 := fun x hx1 hx2 hu => by
    unfold Dk.readE
    rw [if_pos hin, if_pos]
    rw [List.any_eq_true]
    exact ⟨x - I, by simp; omega, by rw [show (I : Int) + ((x - I : Nat) : Int) = (x : Int) by omega]; exact hu⟩
  have hE0 : (∀ x : Nat, I ≤ x → x < I + K → d.unread (x : Int) = false) → d.readE (I : Int) (K : Int) = 0 := fun hu => by
    unfold Dk.readE
    rw [if_pos hin, if_neg]
    rw [List.any_eq_true]
    rintro ⟨j, hj, hj2⟩
    simp at hj
    have := hu (I + j) (by omega) (by omega)
    rw [show ((I + j : Nat) : Int) = (I : Int) + (j : Int) by omega, hj2] at this
    cases this
  have hE81 : d.readE (I : Int) (K : Int) = 81 → d.readB (I : Int) (K : Int) = [] := fun he => by unfold Dk.readB; rw [he]; rfl
  have hEB : d.readE (I : Int) (K : Int) = 0 → d.readB (I : Int) (K : Int) = d.flat I K := fun he => by unfold Dk.readB; rw [he, if_pos rfl, Int.toNat_natCast, Int.toNat_natCast]
  have hfl : ∀ k, I ≤ k → k ≤ I + K → (d.flat I (k - I)).length ≤ 536870912 := fun k h1 h2 => by
    rw [Dk.flat_len h.ok (by omega)]
    have : (k - I) * d.size ≤ 65536 * 8192 := Nat.mul_le_mul (by omega) hs2
    omega
  have hnx : ∀ k, I ≤ k → d.flat I (k + 1 - I) = d.flat I (k - I) ++ d.bytesD k := fun k h1 => by
    rw [show k + 1 - I = (k - I) + 1 by omega, Dk.flat_succ, show I + (k - I) = k by omega]
  have hbl : ∀ k, k < d.fast.length → (d.bytesD k).length = d.size := fun k hk => Dk.bytesD_len h.ok hk
  have hAt := fun (W : World) (hW : Below w.heap.size w W) (k : Nat) (hk : k < d.fast.length) => (h.below hW).at_ hk
  have HAt := hide hAt
  have HE1 := hide hE1
  have HE0 := hide hE0
  have HE81 := hide hE81
  have HEB := hide hEB
  have Hfl := hide hfl
  have Hnx := hide hnx
  have Hbl := hide hbl
  have B1 := hide b1
  obtain ⟨M, hM⟩ : ∃ M, I + K = M := ⟨_, rfl⟩
  have hw2 : IntKind.i64.wrap ((I : Int) + (K : Int)) = (M : Int) := by rw [IntKind.wrap_i64]; omega
  rw [hM] at HE1 HE0 Hfl
  have HMe := hide hM
  obtain ⟨N, hNe⟩ : ∃ N, d.fast.length = N := ⟨_, rfl⟩
  have HNe := hide hNe
  rw [hNe] at hN x1 hIK
  have q1 : decide ((I : Int) < 0) = false := decide_eq_false (by omega)
  have q2 : decide ((K : Int) < 0) = false := decide_eq_false (by omega)
  have q3 : decide (N < I) = false := decide_eq_false (by omega)
  have hw : IntKind.i64.wrap ((N : Int) - (I : Int)) = (N : Int) - (I : Int) := by rw [IntKind.wrap_i64]; omega
  have q4 : decide ((N : Int) - (I : Int) < (K : Int)) = false := decide_eq_false (by omega)
  have hIM : I ≤ M := by omega
  have hMN : M ≤ N := by omega
  clear hin hE1 hE0 hE81 hEB hfl hnx hbl hAt b1 hM hNe hIK h
  go_enter Try.func26, Try.ntmps26
  go_wp2
  go_loopw [8, 9] (fun u s W => ∃ k : Nat, s = .int .i64 (k : Int) ∧ I ≤ k ∧ k ≤ M ∧ Grow w (.slice none 0 0) w.heap.size 5 1 W u (d.flat I (k - I)).length (bys (d.flat I (k - I))) ∧ Hid (∀ x : Nat, I ≤ x → x < k → d.unread (x : Int) = false)) (fun _ s _ => M - (RowKit.intOf s).toNat)
  case atStart => exact ⟨I, rfl, Nat.le_refl _, hIM, by rw [Nat.sub_self]; exact Grow.nil _ _ _, hide (fun x h1 h2 => by omega)⟩
  case round =>
    obtain ⟨k, rfl, hIk, hkM, hG, HJ⟩ := hrel
    have hbw := hG.all
    have y1 := (B1.out.below hbw).cell (j := 1) rfl
    rw [HNe.out] at y1
    by_cases hlt : k < M
    · obtain ⟨A, n, c, B, m, e, c0, c1, c2, c3, g1, g2, g3, g4, _, g5, g6, g7⟩ := HAt.out wr hbw k (by rw [HNe.out]; omega)
      have hkl : k < d.fast.length := by rw [HNe.out]; omega
      have hfk := Hfl.out k hIk hkM
      have hbk := Hbl.out k hkl
      have hu : d.unread (k : Int) = ((d.loose (k : Int)).isNone && d.bad (k : Int)) := rfl
      have hbd : d.bytesD k = (d.loose (k : Int)).getD (d.fast.getD k []) := rfl
      have hfg : d.fast.getD k [] = d.fast[k] := by rw [List.getD_eq_getElem?_getD, List.getElem?_eq_getElem hkl]; rfl
      have HN1 := Hnx.out k hIk
      have hba : Below wr.heap.size wr (wr.alloc (.cells #[.slice A n c, .bool (d.loose (k : Int)).isSome, .slice B m e, .bool (d.bad (k : Int))] 86)) := (Below.refl _ _).alloc (Nat.le_refl _) _
      cases hl : d.loose (k : Int) with
      | some bs =>
        rw [hl] at c1 hu hbd hba
        obtain ⟨r1, r2, _⟩ := g7 bs hl
        have HN1' := hide (show d.flat I (k + 1 - I) = d.flat I (k - I) ++ bs by rw [HN1, hbd]; rfl)
        have Hlen := hide (show (d.flat I (k + 1 - I)).length = (d.flat I (k - I)).length + m by rw [HN1'.out, List.length_append, r1])
        have Hu := hide (show d.unread (k : Int) = false by rw [hu]; rfl)
        have hm8 : m ≤ 8192 := by rw [← r1, show bs = d.bytesD k by rw [hbd]; rfl, hbk]; exact hs2
        clear hl hu hbd g7 HN1 hfg hba
        go_wp2_with (first | (with_reducible refine stop_append rfl ?_) | (with_reducible refine stop_copy rfl ?_) | (with_reducible refine stop_make rfl ?_))
        refine (hG.alloc _).append rfl rfl tBytes rfl rfl (m := m) (news := bys (bs)) (by rw [bys_length]; omega) (r2.alloc _) (bys_one _) (by omega) (by omega) ?_
        intro v2 w2 hG2 _
        rw [← bys_append, show (d.flat I (k - I)).length + m = (d.flat I (k + 1 - I)).length from Hlen.out.symm, ← HN1'.out] at hG2
        have HG2 := hide hG2
        clear hG2
        go_wp2
        go_roundw
        case rel => exact ⟨k + 1, by go_num, by omega, by omega, HG2.out, hide (fun x h1 h2 => by
          rcases Nat.lt_or_ge x k with hxk | hxk
          · exact HJ.out x h1 hxk
          · rw [show x = k by omega]; exact Hu.out)⟩
        case measure => simp [RowKit.intOf]; omega
      | none =>
        rw [hl] at c1 hu hbd hba
        cases hb : d.bad (k : Int) with
        | true =>
          rw [hb] at c3 hu hba
          have he := HE1.out k hIk hlt (by rw [hu]; rfl)
          have HE := hide he
          have HB := hide (HE81.out he)
          have Hbb := hide (hbw.trans (hba.mono hbw.size))
          clear he hl hb hu hbd g7 HN1 hfg hba
          go_wp2
          refine bodyPost_ret (results_tmp2 rfl _ _ _) rfl ?_
          exact ⟨none, 0, by rw [HE.out, HB.out]; rfl, by rw [HB.out]; exact Nat.le_refl _, by omega, by rw [HB.out]; exact Rd.nil, Hbb.out⟩
        | false =>
          rw [hb] at c3 hu hba
          have HN1' := hide (show d.flat I (k + 1 - I) = d.flat I (k - I) ++ d.fast[k] by rw [HN1, hbd]; show _ ++ d.fast.getD k [] = _; rw [hfg])
          have Hlen := hide (show (d.flat I (k + 1 - I)).length = (d.flat I (k - I)).length + n by rw [HN1'.out, List.length_append, g1])
          have Hu := hide (show d.unread (k : Int) = false by rw [hu]; rfl)
          have hm8 : n ≤ 8192 := by rw [← g1, show d.fast[k] = d.bytesD k by rw [hbd]; show _ = d.fast.getD k []; rw [hfg], hbk]; exact hs2
          clear hl hb hu hbd g7 HN1 hfg hba
          go_wp2_with (first | (with_reducible refine stop_append rfl ?_) | (with_reducible refine stop_copy rfl ?_) | (with_reducible refine stop_make rfl ?_))
          refine (hG.alloc _).append rfl rfl tBytes rfl rfl (m := n) (news := bys (d.fast[k])) (by rw [bys_length]; omega) (g4.alloc _) (bys_one _) (by omega) (by omega) ?_
          intro v2 w2 hG2 _
          rw [← bys_append, show (d.flat I (k - I)).length + n = (d.flat I (k + 1 - I)).length from Hlen.out.symm, ← HN1'.out] at hG2
          have HG2 := hide hG2
          clear hG2
          go_wp2
          go_roundw
          case rel => exact ⟨k + 1, by go_num, by omega, by omega, HG2.out, hide (fun x h1 h2 => by
            rcases Nat.lt_or_ge x k with hxk | hxk
            · exact HJ.out x h1 hxk
            · rw [show x = k by omega]; exact Hu.out)⟩
          case measure => simp [RowKit.intOf]; omega
    · have hke : k = M := by omega
      have he := HE0.out (fun x h1 h2 => HJ.out x h1 (by omega))
      have HE := hide he
      have HB := hide (HEB.out he)
      have hkI : k - I = K := by have := HMe.out; omega
      rw [hkI] at hG
      obtain ⟨A, c, rfl, _, hc, hcm, hr, _⟩ := own_out hG.owns
      have HR := hide hr
      unfold maxLen at hcm
      subst hke
      clear he hG hr hkI
      go_wp2
      refine bodyPost_ret (results_tmp2 rfl _ _ _) rfl ?_
      exact ⟨A, c, by rw [HE.out, HB.out]; rfl, by rw [HB.out]; exact hc, by omega, by rw [HB.out]; exact HR.out, hbw⟩
/-- What the document's Read answers, whatever it is asked. -/
theorem rread08_any (h : RDIs w Q t f cs d) (i n : Int) (hi1 : -9223372036854775808 ≤ i) (hi2 : i ≤ 9223372036854775807) (hn1 : -9223372036854775808 ≤ n) (hn2 : n ≤ 9223372036854775807) :
    Calls Try.prog 26 #[.pointer (some ⟨t, 0, none⟩), .int .i64 i, .int .i64 n] w fun e w' => ∃ A c, e = .returned (.tuple #[.slice A (d.readB i n).length c, .int .i64 (d.readE i n)]) ∧ (d.readB i n).length ≤ c ∧ c ≤ 9223372036854775807 ∧ Rd w' A (bys (d.readB i n)) ∧ Below w.heap.size w w' := by
  by_cases hin : d.inR i n
  · obtain ⟨g1, g2, g3, g4⟩ := hin
    obtain ⟨I, rfl⟩ : ∃ I : Nat, i = (I : Int) := ⟨i.toNat, by omega⟩
    obtain ⟨K, rfl⟩ : ∃ K : Nat, n = (K : Int) := ⟨n.toNat, by omega⟩
    exact rread08_in h I K (by omega)
  · refine (rread08_out h i n hi1 hi2 hn1 hn2 hin).mono ?_
    rintro e w' ⟨rfl, rfl⟩
    have he : d.readE i n = 5 := if_neg hin
    have hb : d.readB i n = [] := by unfold Dk.readB; rw [he]; rfl
    rw [he, hb]
    exact ⟨none, 0, rfl, Nat.le_refl _, by omega, Rd.nil, Below.refl _ _⟩
end
end Go.Proofs.Ytdianokikhggnaa
