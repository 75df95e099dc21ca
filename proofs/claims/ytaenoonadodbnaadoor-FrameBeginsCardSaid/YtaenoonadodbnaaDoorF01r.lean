/- The document's answers for octets. -/
import Derived.Test.YtaenoonadodbnaaDoorF01c
namespace Go.Proofs.YtaenoonadodbnaaDoor
open Go.RowKit Go.Px
set_option linter.unusedVariables false

theorem div_pow_succ (v j : Nat) : v / 256 ^ j / 256 = v / 256 ^ (j + 1) := by rw [Nat.div_div_eq_div_mul, Nat.pow_succ]
theorem rfits_any (v k : Nat) (w : World) (hv : v < 18446744073709551616) (hk : k ≤ 8) :
    Calls Tryd.prog 38 #[.int .u64 v, .int .i64 k] w fun e w' => e = .returned (.bool (decide (v < 256 ^ k))) ∧ w = w' := by
  go_enter Tryd.func38, Tryd.ntmps38
  go_wp2
  go_loop [0, 5] (fun u i => ∃ j : Nat, j ≤ k ∧ i = .int .i64 j ∧ u = .int .u64 ((v / 256 ^ j : Nat) : Int)) (fun _ i => k - (intOf i).toNat)
  case atStart => exact ⟨0, Nat.zero_le _, rfl, by simp⟩
  case round =>
    obtain ⟨j, hj, rfl, rfl⟩ := hrel
    have hle : v / 256 ^ j ≤ v := Nat.div_le_self _ _
    have Hs := hide (div_pow_succ v j)
    obtain ⟨q, hq⟩ : ∃ q, v / 256 ^ j = q := ⟨_, rfl⟩
    rw [hq] at hle ⊢
    have Hq := hide hq
    clear hq
    by_cases hlt : j < k
    · go_wp2
      go_round
      case rel =>
        refine ⟨j + 1, by omega, by go_num, ?_⟩
        rw [← Hs.out, Hq.out]; simp
      case measure => simp [intOf]; omega
    · go_wp2
      go_ret
      have : j = k := by omega
      subst this
      refine ⟨?_, rfl⟩
      have h3 : 0 < 256 ^ j := Nat.pow_pos (by decide)
      have : ((q : Int) == 0) = decide (v < 256 ^ j) := by
        rw [← Hq.out, Bool.eq_iff_iff]
        simp only [beq_iff_eq, Int.natCast_eq_zero, Nat.div_eq_zero_iff, decide_eq_true_eq]
        omega
      simp [this]

set_option maxHeartbeats 400000 in
theorem rput_any (A : Option Addr) (m c : Nat) (bs : List UInt8) (v : Nat) (n : Int) (w : World)
    (hm : bs.length = m) (hm8 : m ≤ 549755813888) (hA : Rd w A (bys bs)) (hv : v < 18446744073709551616) :
    Calls Tryd.prog 26 #[.slice A m c, .int .u64 v, .int .i64 n] w fun e w' => ∃ u, e = .returned (.tuple #[u, .int .i64 (fitsE v n)]) ∧ w'.ownsRow w.heap.size 5 1 u (putB bs v n).length (bys (putB bs v n)) ∧ Below w.heap.size w w' := by
  have Hm := hide hm
  clear hm
  by_cases hs : 1 ≤ n ∧ n ≤ 8
  · obtain ⟨h1, h2⟩ := hs
    obtain ⟨k, rfl⟩ : ∃ k : Nat, n = k := ⟨n.toNat, by omega⟩
    by_cases hf : v < 256 ^ k
    · have HF := hide (show fitsE v k = 0 by unfold fitsE; rw [if_pos ⟨h1, h2⟩, Int.toNat_natCast, if_pos hf])
      have HP := hide (show putB bs v k = bs ++ leB k v by unfold putB; rw [if_pos HF.out, Int.toNat_natCast])
      have Hd := hide (show decide (v < 256 ^ k) = true by simpa using hf)
      clear hf
      go_enter Tryd.func26, Tryd.ntmps26
      go_wp2_with fail
      refine (rfits_any v k _ hv (by omega)).mono ?_
      rw [Hd.out]
      rintro e w' ⟨rfl, rfl⟩
      go_wp2_with (first | (with_reducible refine stop_append rfl ?_) | (with_reducible refine stop_copy rfl ?_) | (with_reducible refine stop_make rfl ?_))
      refine (Grow.empty w _ _).append rfl rfl tBytes rfl rfl (by rw [bys_length, Hm.out]; omega) (hA.alloc _) (bys_one _) (by omega) (by omega) ?_
      intro v1 w1 hG1 _
      go_wp2
      go_loopw [1, 8, 9] (fun x u i wr => ∃ j : Nat, j ≤ k ∧ i = .int .i64 j ∧ x = .int .u64 ((v / 256 ^ j : Nat) : Int) ∧ Grow (w.alloc (.cells #[] 5)) (.slice (some ⟨w.heap.size, 0, none⟩) 0 0) w.heap.size 5 1 wr u (m + j) (bys (bs ++ leB j v))) (fun _ _ i _ => k - (intOf i).toNat)
      case atStart => exact ⟨0, Nat.zero_le _, rfl, by simp, by simpa [leB] using hG1⟩
      case round =>
        obtain ⟨j, hj, rfl, rfl, hG⟩ := hrel
        have hle : v / 256 ^ j ≤ v := Nat.div_le_self _ _
        have Hs := hide (div_pow_succ v j)
        have Hb := hide (leB_snoc j v)
        obtain ⟨q, hq⟩ : ∃ q, v / 256 ^ j = q := ⟨_, rfl⟩
        rw [hq] at hle ⊢
        have Hq := hide hq
        clear hq
        by_cases hlt : j < k
        · go_wp2_with (first | (with_reducible refine stop_append rfl ?_) | (with_reducible refine stop_copy rfl ?_) | (with_reducible refine stop_make rfl ?_))
          refine hG.push rfl rfl rfl tBytes rfl rfl rfl (by omega) (by omega) ?_
          intro u' w2 hG2 _
          go_wp2
          go_roundw
          case rel =>
            refine ⟨j + 1, by omega, by go_num, ?_, ?_⟩
            · rw [← Hs.out, Hq.out]; simp
            · rw [Hb.out, ← List.append_assoc, bys_append, Hq.out]
              have e : (q : Int) % 256 = ((UInt8.ofNat (q % 256)).toNat : Int) := by rw [toNat_ofNat_mod]; simp
              rw [e] at hG2
              exact hG2
          case measure => simp [intOf]; omega
        · have : j = k := by omega
          subst this
          go_wp2
          go_ret2
          rw [HF.out, HP.out, List.length_append, leB_length, Hm.out]
          exact ⟨_, rfl, hG.owns, hG.emptyAll⟩
    · have HF := hide (show fitsE v k = 5 by unfold fitsE; rw [if_pos ⟨h1, h2⟩, Int.toNat_natCast, if_neg hf])
      have HP := hide (show putB bs v k = [] by unfold putB; rw [if_neg (by rw [HF.out]; decide)])
      have Hd := hide (show decide (v < 256 ^ k) = false by simpa using hf)
      clear hf
      go_enter Tryd.func26, Tryd.ntmps26
      go_wp2_with fail
      refine (rfits_any v k _ hv (by omega)).mono ?_
      rw [Hd.out]
      rintro e w' ⟨rfl, rfl⟩
      go_wp2
      go_ret2
      rw [HF.out, HP.out]
      exact ⟨_, rfl, World.ownsRow_nil _ _ _ _, Below.refl _ _⟩
  · have HF := hide (show fitsE v n = 1 by unfold fitsE; rw [if_neg hs])
    have HP := hide (show putB bs v n = [] by unfold putB; rw [if_neg (by rw [HF.out]; decide)])
    by_cases h1 : 1 ≤ n
    · have h2 : 8 < n := by omega
      clear hs
      go_enter Tryd.func26, Tryd.ntmps26
      go_wp2
      go_ret2
      rw [HF.out, HP.out]
      exact ⟨_, rfl, World.ownsRow_nil _ _ _ _, Below.refl _ _⟩
    · clear hs
      go_enter Tryd.func26, Tryd.ntmps26
      go_wp2
      go_ret2
      rw [HF.out, HP.out]
      exact ⟨_, rfl, World.ownsRow_nil _ _ _ _, Below.refl _ _⟩

set_option maxHeartbeats 800000 in
theorem rget_any (A : Option Addr) (m c : Nat) (bs : List UInt8) (i n : Int) (w : World) (hm : bs.length = m) (hmc : m ≤ c) (hc63 : c ≤ 9223372036854775807) (hr : Rd w A (bys bs)) (hi : -9223372036854775808 ≤ i) (hi2 : i ≤ 9223372036854775807) :
    Calls Tryd.prog 33 #[.slice A m c, .int .i64 i, .int .i64 n] w fun e w' => e = .returned (.tuple #[.int .u64 (getV bs i n), .int .i64 (getI bs i n), .int .i64 (getE bs i n)]) ∧ w = w' := by
  by_cases h1 : 1 ≤ n
  · by_cases h2 : n ≤ 8
    · by_cases h0 : 0 ≤ i
      · by_cases h3 : i ≤ m
        · by_cases h4 : m - i < n
          · have He := hide (show getE bs i n = 10 by unfold getE; rw [if_pos ⟨h1, h2⟩, if_pos ⟨h0, by omega⟩, if_pos (by omega)])
            clear hm
            go_enter Tryd.func33, Tryd.ntmps33
            go_wp2
            go_ret3
            exact ⟨by simp [getV, getI, He.out], rfl⟩
          · have He := hide (show getE bs i n = 0 by unfold getE; rw [if_pos ⟨h1, h2⟩, if_pos ⟨h0, by omega⟩, if_neg (by omega)])
            obtain ⟨k, rfl⟩ : ∃ k : Nat, n = k := ⟨n.toNat, by omega⟩
            obtain ⟨p, rfl⟩ : ∃ p : Nat, i = p := ⟨i.toNat, by omega⟩
            have Hm := hide hm
            have Hl := hide (show ((bs.drop p).take k).length = k by rw [List.length_take, List.length_drop]; omega)
            clear hm
            go_enter Tryd.func33, Tryd.ntmps33
            go_wp2
            go_loop [9, 10] (fun u x => ∃ j : Nat, j ≤ k ∧ x = .int .i64 ((j : Int) - 1) ∧ u = .int .u64 ((numN (((bs.drop p).take k).drop j) : Nat) : Int)) (fun _ x => (intOf x + 1).toNat)
            case atStart => exact ⟨k, Nat.le_refl _, rfl, by rw [List.drop_eq_nil_of_le (by rw [Hl.out]; exact Nat.le_refl _)]; rfl⟩
            case round =>
              obtain ⟨j, hj, rfl, rfl⟩ := hrel
              rcases j with _ | t
              · rw [show (((0 : Nat) : Int) - 1) = -1 from rfl]
                go_wp2
                go_ret3
                exact ⟨by simp [getV, getI, He.out], rfl⟩
              · rw [show (((t + 1 : Nat) : Int) - 1) = t from by omega]
                have htl : t < ((bs.drop p).take k).length := by rw [Hl.out]; omega
                have hpt : p + t < bs.length := by rw [Hm.out]; omega
                have Hn := hide (numN_drop _ t htl)
                have hq := numN_drop_lt ((bs.drop p).take k) t (by rw [Hl.out]; omega)
                obtain ⟨q, hqq⟩ : ∃ q, numN (((bs.drop p).take k).drop (t + 1)) = q := ⟨_, rfl⟩
                rw [hqq] at hq ⊢
                have Hq := hide hqq
                clear hqq
                obtain ⟨a, rfl, hc⟩ := hr _ _ (bys_get hpt)
                have hb := (bs[p + t]).toNat_lt
                go_wp2
                go_round
                case rel =>
                  refine ⟨t, by omega, by simp, ?_⟩
                  rw [Hn.out, Hq.out]
                  simp only [List.getElem_take, List.getElem_drop]
                  simp
                case measure => simp [intOf]
        · have He := hide (show getE bs i n = 5 by unfold getE; rw [if_pos ⟨h1, h2⟩, if_neg (by omega)])
          clear hm
          go_enter Tryd.func33, Tryd.ntmps33
          go_wp2
          go_ret3
          exact ⟨by simp [getV, getI, He.out], rfl⟩
      · have He := hide (show getE bs i n = 5 by unfold getE; rw [if_pos ⟨h1, h2⟩, if_neg (by omega)])
        clear hm
        go_enter Tryd.func33, Tryd.ntmps33
        go_wp2
        go_ret3
        exact ⟨by simp [getV, getI, He.out], rfl⟩
    · have He := hide (show getE bs i n = 1 by unfold getE; rw [if_neg (by omega)])
      clear hm
      go_enter Tryd.func33, Tryd.ntmps33
      go_wp2
      go_ret3
      exact ⟨by simp [getV, getI, He.out], rfl⟩
  · have He := hide (show getE bs i n = 1 by unfold getE; rw [if_neg (by omega)])
    clear hm
    go_enter Tryd.func33, Tryd.ntmps33
    go_wp2
    go_ret3
    exact ⟨by simp [getV, getI, He.out], rfl⟩

set_option maxHeartbeats 400000 in
theorem rputText_any (A : Option Addr) (m c : Nat) (bs : List UInt8) (B : Option Addr) (k d : Nat) (s : List UInt8) (w : World)
    (hm : bs.length = m) (hm8 : m ≤ 549755813888) (hA : Rd w A (bys bs)) (hk : s.length = k) (hB : Rd w B (bys s)) :
    Calls Tryd.prog 27 #[.slice A m c, .slice B k d] w fun e w' => ∃ u, e = .returned (.tuple #[u, .int .i64 (putTextE s)]) ∧ w'.ownsRow w.heap.size 5 1 u (putTextB bs s).length (bys (putTextB bs s)) ∧ Below w.heap.size w w' := by
  have Hm := hide hm
  have Hk := hide hk
  clear hm hk
  by_cases hl : k ≤ 16777216
  · have HP := hide (show putB bs k 4 = bs ++ leB 4 k by
      unfold putB; rw [if_pos]; · rfl
      unfold fitsE; rw [if_pos (by decide), if_pos (by show k < 256 ^ 4; omega)])
    have HE := hide (show putTextE s = 0 by unfold putTextE; rw [if_pos (by rw [Hk.out]; exact hl)])
    have HT := hide (show putTextB bs s = (bs ++ leB 4 k) ++ s by unfold putTextB; rw [if_pos (by rw [Hk.out]; exact hl), textB, Hk.out, List.append_assoc])
    go_enter Tryd.func27, Tryd.ntmps27
    go_wp2_with fail
    refine (rput_any _ _ _ bs k 4 _ Hm.out hm8 hA (by omega)).mono ?_
    rw [HP.out]
    rintro e w1 ⟨u1, rfl, ho1, hb1⟩
    rw [List.length_append, leB_length, Hm.out] at ho1
    go_wp2_with (first | (with_reducible refine stop_append rfl ?_) | (with_reducible refine stop_copy rfl ?_) | (with_reducible refine stop_make rfl ?_))
    refine (Grow.start ho1 hb1.size).append rfl rfl tBytes rfl rfl (by rw [bys_length, Hk.out]; omega) (hB.below hb1) (bys_one _) (by omega) (by omega) ?_
    intro v2 w2 hG _
    go_wp2
    go_ret2
    rw [HE.out, HT.out]
    refine ⟨_, rfl, ?_, hG.allOf hb1 hb1.size (fun g hg => (ho1.lt g hg).1)⟩
    have := hG.owns
    rw [← bys_append] at this
    rw [List.length_append, List.length_append, leB_length, Hm.out, Hk.out]
    exact this
  · go_enter Tryd.func27, Tryd.ntmps27
    go_wp2
    go_ret2
    rw [show putTextE s = 2 by unfold putTextE; rw [if_neg (by rw [Hk.out]; exact hl)], show putTextB bs s = [] by unfold putTextB; rw [if_neg (by rw [Hk.out]; exact hl)]]
    exact ⟨_, rfl, World.ownsRow_nil _ _ _ _, Below.refl _ _⟩

end Go.Proofs.YtaenoonadodbnaaDoor
