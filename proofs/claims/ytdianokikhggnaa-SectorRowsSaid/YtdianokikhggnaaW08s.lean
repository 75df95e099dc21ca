/- Laws 8: SectorRows: the walk. -/
import Derived.Test.YtdianokikhggnaaG08f
namespace Go.Proofs.Ytdianokikhggnaa
set_option maxRecDepth 20000
open Go.RowKit Go.Px Go.Maps
set_option linter.unusedVariables false
theorem Dk.readE_zero {d : Dk} {i n : Int} (he : d.readE i n = 0) : d.inR i n ∧ ∀ k : Nat, (k : Int) < n → d.unread (i + (k : Int)) = false := by
  unfold Dk.readE at he
  split at he
  · rename_i hin
    refine ⟨hin, fun k hk => ?_⟩
    split at he
    · cases he
    · rename_i hna
      rw [Bool.not_eq_true, List.any_eq_false] at hna
      have := hna k (by simp; omega)
      simpa using this
  · cases he
theorem Dk.read_one {d : Dk} {I k : Nat} (hk : I + k < d.fast.length) (hu : d.unread ((I : Int) + (k : Int)) = false) : d.readE ((I + k : Nat) : Int) 1 = 0 ∧ d.readB ((I + k : Nat) : Int) 1 = d.bytesD (I + k) := by
  have h1 : d.readE ((I + k : Nat) : Int) 1 = 0 := by
    unfold Dk.readE
    rw [if_pos (show inN d.fast.length ((I + k : Nat) : Int) 1 from ⟨by omega, by omega, by omega, by omega⟩), if_neg]
    rw [Bool.not_eq_true, List.any_eq_false]
    intro x hx
    simp at hx
    obtain rfl : x = 0 := by omega
    rw [show ((I + k : Nat) : Int) + ((0 : Nat) : Int) = (I : Int) + (k : Int) by omega, hu]
    simp
  refine ⟨h1, ?_⟩
  unfold Dk.readB
  rw [h1, if_pos rfl, Int.toNat_natCast]
  show d.flat (I + k) 1 = _
  rw [Dk.flat_succ]
  simp [Dk.flat]
set_option maxRecDepth 20000 in
set_option maxHeartbeats 3200000 in
theorem sectorRows_walk (n s : Int) (A : Option Addr) (m c : Nat) (ops : List Op08D) (vs : List Value) (i r : Int) (w : World) (hi1 : -9223372036854775808 ≤ i) (hi2 : i ≤ 9223372036854775807) (hr1 : -9223372036854775808 ≤ r) (hr2 : r ≤ 9223372036854775807) (hA : RowAt tyOp08 w w.heap.size A m ops vs) :
    Calls Try.prog 5 #[.int .i64 n, .int .i64 s, .slice A m c, .int .i64 i, .int .i64 r] w fun e w' => e = .returned (.bool true) ∧ Below w.heap.size w w' := by
  have HAW := hide (awake08_any w)
  go_enter Try.func5, Try.ntmps5
  go_wp2_with fail
  go_fit HAW.out
  rintro x w1 ⟨rfl, hb1⟩
  clear HAW
  by_cases hr : 1 ≤ n ∧ n ≤ 65536 ∧ 1 ≤ s ∧ s ≤ 8192
  · obtain ⟨hn1, hn2, hs1, hs2⟩ := hr
    have HBG := hide (begin08_ok w1 n s hn1 hn2 hs1 hs2)
    go_wp2_with fail
    go_fit HBG.out
    rintro x w2 ⟨t, f, lm, bm, t2, f2, N, S, rfl, hD2, hN, hS, hfr, hb2⟩
    have hb02 := hb1.trans (hb2.mono hb1.size)
    have hz1 := hb1.size
    have hfree : ∀ b, ¬ Free t f lm bm t2 f2 b → w.heap.size ≤ b := fun b hb => by have := hfr b hb; omega
    have hsix := six_lo hfree
    have hlo := free_lo hfree
    have Hsix := hide hsix
    have Hlo := hide hlo
    clear HBG hfr hfree hsix hlo hn1 hn2 hs1 hs2 hb1 hb2
    go_wp2_with fail
    go_loopw [14] (fun v W => ∃ (k : Nat) (d : Dk), v = .int .i64 (k : Int) ∧ k ≤ m ∧ k ≤ 150 ∧ Both W t f lm bm t2 f2 d ∧ Below w.heap.size w W) (fun v _ => m - (RowKit.intOf v).toNat)
    case atStart => exact ⟨0, _, rfl, by omega, by omega, hD2, hb02⟩
    case round =>
      clear hD2 hb02
      obtain ⟨k, d, rfl, hkm, hk150, hD, hbw⟩ := hrel
      by_cases hlt : k < m ∧ k < 150
      · obtain ⟨hlt1, hlt2⟩ := hlt
        obtain ⟨o, p, cs, ho, hAp, hI, hat, hc⟩ := hA.at_ (by decide) hbw hlt1
        subst hAp
        have HST := hide (step08_any hD hI Hlo.out)
        obtain ⟨kd, i, nn, b, bA, bn, bc, ke, kA, kn, kc, kv, torn, cut, rfl, rfl, _⟩ := Op08_out hI
        have y0 := el_0 (n := 7) hat (hc 0 _ rfl)
        have y1 := el_S (n := 7) (i := 0) hat (hc 1 _ rfl)
        have y2 := el_S (n := 7) (i := 1) hat (hc 2 _ rfl)
        have y3 := el_S (n := 7) (i := 2) hat (hc 3 _ rfl)
        have y4 := el_S (n := 7) (i := 3) hat (hc 4 _ rfl)
        have y5 := el_S (n := 7) (i := 4) hat (hc 5 _ rfl)
        have y6 := el_S (n := 7) (i := 5) hat (hc 6 _ rfl)
        clear hat hc hI hD
        go_wp2_with fail
        go_fit HST.out
        rintro x w3 ⟨rfl, ⟨d', hD3⟩, hF3⟩
        have hb03 := hF3.below hbw hbw.size Hsix.out
        clear HST y0 y1 y2 y3 y4 y5 y6 hF3
        go_wp2
        go_roundw
        case rel => exact ⟨k + 1, d', by go_num, by omega, by omega, hD3, hb03⟩
        case measure => simp [RowKit.intOf]; omega
      · have hRD : ∀ W, Below wr.heap.size wr W → ∀ j q : Int, -9223372036854775808 ≤ j → j ≤ 9223372036854775807 → -9223372036854775808 ≤ q → q ≤ 9223372036854775807 → Calls Try.prog 18 #[.pointer (some ⟨t, 0, none⟩), .int .i64 j, .int .i64 q] W fun e w' => ∃ A c, e = .returned (.tuple #[.slice A (d.readB j q).length c, .int .i64 (d.readE j q)]) ∧ (d.readB j q).length ≤ c ∧ c ≤ 9223372036854775807 ∧ Rd w' A (bys (d.readB j q)) ∧ (∀ a, A = some a → W.heap.size ≤ a.block) ∧ Below W.heap.size W w' := fun W hW j q h1 h2 h3 h4 => read08_any (hD.a.below hW) j q h1 h2 h3 h4
        have hRA := hRD wr (Below.refl _ _) i r hi1 hi2 hr1 hr2
        have hok := hD.a.ok
        have HRD := hide hRD
        by_cases he : d.readE i r = 0
        · obtain ⟨⟨g1, g2, g3, g4⟩, hun⟩ := Dk.readE_zero he
          have hN2 := hok.n2
          have hs2 := hok.s2
          obtain ⟨I, rfl⟩ : ∃ I : Nat, i = (I : Int) := ⟨i.toNat, by omega⟩
          obtain ⟨K, rfl⟩ : ∃ K : Nat, r = (K : Int) := ⟨r.toNat, by omega⟩
          have hIK : I + K ≤ d.fast.length := by omega
          have hB : d.readB (I : Int) (K : Int) = d.flat I K := by unfold Dk.readB; rw [he, if_pos rfl, Int.toNat_natCast, Int.toNat_natCast]
          rw [he, hB] at hRA
          obtain ⟨bs, hbs⟩ : ∃ bs, d.flat I K = bs := ⟨_, rfl⟩
          rw [hbs] at hRA
          obtain ⟨l, hl⟩ : ∃ l, bs.length = l := ⟨_, rfl⟩
          rw [hl] at hRA
          have hfl : ∀ k, k ≤ K → (d.flat I k).length ≤ 536870912 := fun k h1 => by
            rw [Dk.flat_len hok (by omega)]
            have : k * d.size ≤ 65536 * 8192 := Nat.mul_le_mul (by omega) hs2
            omega
          have hon : ∀ k, k < K → d.readE ((I + k : Nat) : Int) 1 = 0 ∧ d.readB ((I + k : Nat) : Int) 1 = d.bytesD (I + k) ∧ (d.bytesD (I + k)).length ≤ 8192 := fun k hk =>
            have h1 := Dk.read_one (d := d) (I := I) (k := k) (by omega) (hun k (by omega))
            ⟨h1.1, h1.2, by rw [Dk.bytesD_len hok (by omega)]; exact hs2⟩
          have hIKb : I + K ≤ 65536 := by omega
          have HRA := hide hRA
          have Hl := hide hl
          have Hbs := hide hbs
          have Hfl := hide hfl
          have Hon := hide hon
          have Hok := hide hok
          clear hRA hl hbs hfl hon hRD g1 g2 g3 g4 hun hB he hIK hok hN2 hs2 hD hA hi1 hi2 hr1 hr2
          rcases (show k = m ∨ (k < m ∧ k = 150) by omega) with rfl | ⟨hl2, rfl⟩
          all_goals
            go_wp2_with fail
            go_fit HRA.out
            rintro x w4 ⟨B, cB, rfl, hlB, hcB, hrB, _, hb4⟩
            have hb04 := hbw.trans (hb4.mono hbw.size)
            have hbw4 := hbw.size
            clear HRA
            go_wp2_with fail
            go_loopw [17, 18] (fun u v W => ∃ j : Nat, v = .int .i64 (j : Int) ∧ j ≤ K ∧ Grow w4 (.slice none 0 0) w4.heap.size 5 1 W u (d.flat I j).length (bys (d.flat I j))) (fun _ v _ => K - (RowKit.intOf v).toNat)
            case atStart => exact ⟨0, rfl, by omega, Grow.nil _ _ _⟩
            case round =>
              obtain ⟨j, rfl, hjK, hG⟩ := hrel
              have hbj := hG.all
              by_cases hlt : j < K
              · obtain ⟨e1, e2, e3⟩ := Hon.out j hlt
                have hR := HRD.out wr (hb4.trans (hbj.mono hb4.size)) ((I + j : Nat) : Int) 1 (by omega) (by omega) (by omega) (by omega)
                rw [e1, e2] at hR
                have hfj := Hfl.out j hjK
                have hnx := d.flat_succ I j
                obtain ⟨bb, hbb⟩ : ∃ bb, d.bytesD (I + j) = bb := ⟨_, rfl⟩
                rw [hbb] at hR e3 hnx
                obtain ⟨q, hq⟩ : ∃ q, bb.length = q := ⟨_, rfl⟩
                rw [hq] at hR e3
                have Hlen := hide (show (d.flat I (j + 1)).length = (d.flat I j).length + q by rw [hnx, List.length_append, hq])
                have Hnx := hide hnx
                have Hq := hide hq
                have HR := hide hR
                have hwr : IntKind.i64.wrap ((I : Int) + (j : Int)) = ((I + j : Nat) : Int) := by rw [IntKind.wrap_i64]; omega
                clear hR hnx hq hbb e1 e2
                go_wp2_with fail
                go_fit HR.out
                rintro x w5 ⟨D, cD, rfl, hlD, hcD, hrD, _, hb5⟩
                clear HR
                go_wp2_with (first | (with_reducible refine stop_append rfl ?_) | (with_reducible refine stop_copy rfl ?_) | (with_reducible refine stop_make rfl ?_))
                refine (hG.below hb5).append rfl rfl tBytes rfl rfl (m := q) (news := bys bb) (by rw [bys_length, Nat.mul_one]; exact Hq.out) hrD (bys_one _) (by omega) (by omega) ?_
                intro v2 w6 hG6 _
                rw [← bys_append, ← Hlen.out, ← Hnx.out] at hG6
                have HG6 := hide hG6
                clear hG6
                go_wp2
                go_roundw
                case rel => exact ⟨j + 1, by go_num, by omega, HG6.out⟩
                case measure => simp [RowKit.intOf]; omega
              · obtain rfl : j = K := by omega
                rw [Hbs.out, Hl.out] at hG
                obtain ⟨D, cD, rfl, _, hcD, _, hrD, _⟩ := own_out hG.owns
                have cv1 := convB (n := l) cB Hl.out (hrB.below hbj)
                have cv2 := convB (n := l) cD Hl.out hrD
                have Hb := hide (hb04.trans (hbj.mono hb04.size))
                clear hG hrB hrD
                go_wp2
                go_ret
                exact ⟨by simp, Hb.out⟩
        · have hB : d.readB i r = [] := by unfold Dk.readB; rw [if_neg he]
          rw [hB] at hRA
          obtain ⟨er, her⟩ : ∃ er, d.readE i r = er := ⟨_, rfl⟩
          rw [her] at hRA he
          have qe : (er != 0) = true := by simpa using he
          have HRA := hide hRA
          clear hRA hRD her he hB hok hD hA hi1 hi2 hr1 hr2
          rcases (show k = m ∨ (k < m ∧ k = 150) by omega) with rfl | ⟨hl2, rfl⟩
          all_goals
            go_wp2_with fail
            go_fit HRA.out
            rintro x w4 ⟨B, cB, rfl, hlB, hcB, hrB, _, hb4⟩
            go_wp2
            go_ret
            exact ⟨by simp, hbw.trans (hb4.mono hbw.size)⟩
  · have HBG := hide (begin08_bad w1 n s hr)
    clear hr
    go_wp2_with fail
    go_fit HBG.out
    rintro x w2 ⟨rfl, rfl⟩
    go_wp2
    go_ret
    exact ⟨rfl, hb1⟩
end Go.Proofs.Ytdianokikhggnaa
