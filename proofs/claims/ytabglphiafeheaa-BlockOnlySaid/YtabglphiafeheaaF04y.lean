/- The law BlockOnly, walked. -/
import Derived.Test.YtabglphiafeheaaF04n
import Derived.Test.YtabglphiafeheaaF04w
import Derived.Test.YtabglphiafeheaaM04c
namespace Go.Proofs.Ytabglphiafeheaa
open Go.RowKit Go.Px
set_option linter.unusedVariables false

set_option maxHeartbeats 6400000 in
theorem blockOnly_walk (A : Option Addr) (m c : Nat) (bs : List UInt8) (w : World) (hm : bs.length = m) (hmc : m ≤ c) (hm8 : m ≤ 140737488355328) (hc : c ≤ 9223372036854775807) (hr : Rd w A (bys bs)) (hlo : Lo w.heap.size A) :
    Calls Try.prog 8 #[.slice A m c] w fun x w' => x = .returned (.bool true) ∧ Below w.heap.size w w' := by
  have Hm := hide hm
  clear hm
  go_enter Try.func8, Try.ntmps8
  go_wp2_with fail
  go_fit (awake04_any w)
  rintro x w1 ⟨rfl, hb1⟩
  have hb01 := hb1
  go_wp2_with fail
  go_fit (dec_any A m c bs w1 Hm.out hmc hm8 hc (hr.below hb01) (fun a ha => Nat.lt_of_lt_of_le (hlo a ha) hb01.size))
  rintro x w2 ⟨D3, dc3, O3, oc3, hx, rX3, rY3, uD3, uO3, hb2⟩
  have hb02 := hb01.trans (hb2.mono hb01.size)
  rcases Decidable.em (opE bs = 0) with h0 | h0
  · obtain ⟨q1, q2, q3, q4⟩ := op_only h0
    rw [h0] at hx
    subst hx
    have HL := hide (show encL (opK bs) (opP bs) (opN bs) (opD bs) (opO bs) = bs.take (opT bs).toNat by
      unfold encL
      rw [if_pos (by unfold fmE at q3; split at q3; assumption; cases q3), Int.toNat_natCast, Int.toNat_natCast, q4])
    have HQ3 := hide q3
    obtain ⟨t, ht⟩ : ∃ t : Nat, opT bs = t := ⟨(opT bs).toNat, by omega⟩
    rw [ht] at q1 q2
    have htm : t ≤ m := by rw [← Hm.out]; omega
    have HT := hide ht
    have hkk : opK bs < 256 := by rw [(opE_yes h0).1]; exact getV_1 bs 0
    obtain ⟨K, hK⟩ : ∃ K, opK bs = K := ⟨_, rfl⟩
    obtain ⟨P, hP⟩ : ∃ K, opP bs = K := ⟨_, rfl⟩
    obtain ⟨N, hN⟩ : ∃ K, opN bs = K := ⟨_, rfl⟩
    obtain ⟨X, hX⟩ : ∃ K, opD bs = K := ⟨_, rfl⟩
    obtain ⟨Y, hY⟩ : ∃ K, opO bs = K := ⟨_, rfl⟩
    rw [hK] at hkk
    rw [hX] at rX3
    rw [hY] at rY3
    rw [hK, hP, hN, hX, hY, ht]
    have HK := hide hK
    have HP := hide hP
    have HN := hide hN
    have HX := hide hX
    have HY := hide hY
    clear ht hK hP hN hX hY q1 q2 q3 q4 h0
    have hbA : Below w2.heap.size w2 (w2.alloc (.cells #[.int .u8 K, .int .i64 P, .int .i64 N, .slice D3 X.length dc3, .slice O3 Y.length oc3] 27)) := (Below.refl _ _).alloc (Nat.le_refl _) _
    have hb0A := hb02.trans (hbA.mono hb02.size)
    go_wp2_with fail
    go_fit (enc_any K P N D3 X.length dc3 X O3 Y.length oc3 Y _ hkk rfl rfl (rX3.below hbA) (rY3.below hbA))
    rintro x w3 ⟨u3, hx, ho3, hb3⟩
    rw [← HK.out, ← HP.out, ← HN.out, ← HX.out, ← HY.out, HQ3.out] at hx
    rw [← HK.out, ← HP.out, ← HN.out, ← HX.out, ← HY.out, HL.out, HT.out, Int.toNat_natCast] at ho3
    subst hx
    have hlt : (bs.take t).length = t := by rw [List.length_take, Hm.out]; omega
    have hb03 := hb0A.trans (hb3.mono hb0A.size)
    have hrt : Rd w3 A (bys (bs.take t)) := by rw [bys_take]; exact (hr.below hb03).take t
    rw [hlt] at ho3
    obtain ⟨L, hL⟩ : ∃ L, bs.take t = L := ⟨_, rfl⟩
    rw [hL] at hlt hrt ho3
    clear hL
    obtain ⟨A3, c3, rfl, _, hc3, hcm3, hr3, ha3⟩ := own_out ho3
    have cw1 : ∀ q, (convert 25 9 (.slice A3 t c3)).run Try.prog (w3.drewN q) = .ok (.string (strOf L)) (w3.drewN q) := fun q => convB c3 hlt (hr3.drewN q)
    have cw2 : ∀ q, (convert 25 9 (.slice A t c)).run Try.prog (w3.drewN q) = .ok (.string (strOf L)) (w3.drewN q) := fun q => convB c hlt (hrt.drewN q)
    have z6 : decide (m < t) = false := by simp; omega
    clear hlt
    go_wp2
    go_quiet (fail)
    all_goals
      have bWW := below_drewN hb03 nq
      go_wp2_with fail
      go_fit (res_any A m c bs _ Hm.out hmc hm8 hc (hr.below bWW) (fun a ha => Nat.lt_of_lt_of_le (hlo a ha) bWW.size))
      rintro x v1 ⟨D5, dc5, hx, rX5, hv1⟩
      have bV1 := bWW.trans (hv1.mono bWW.size)
      rcases Decidable.em (reE bs = 0) with h2 | h2
      · obtain ⟨q1, q2, q3, q4⟩ := re_only h2
        rw [h2] at hx
        subst hx
        have HK2 := hide (show rencL (reK bs) (reD bs) = bs.take (reT bs).toNat by unfold rencL; rw [if_pos (by unfold rsE at q3; split at q3; assumption; cases q3), q4])
        have HQ3 := hide q3
        obtain ⟨t, ht⟩ : ∃ t : Nat, reT bs = t := ⟨(reT bs).toNat, by omega⟩
        rw [ht] at q1 q2
        have htm : t ≤ m := by rw [← Hm.out]; omega
        have HT2 := hide ht
        have hkk : reK bs < 256 := by rw [(reE_yes h2).1]; exact getV_1 bs 0
        obtain ⟨K, hK⟩ : ∃ K, reK bs = K := ⟨_, rfl⟩
        obtain ⟨X, hX⟩ : ∃ K, reD bs = K := ⟨_, rfl⟩
        rw [hK] at hkk
        rw [hX] at rX5
        rw [hK, hX, ht]
        have HKK := hide hK
        have HXX := hide hX
        clear ht hK hX q1 q2 q3 q4 h2
        have hbA : Below v1.heap.size v1 (v1.alloc (.cells #[.int .u8 K, .slice D5 X.length dc5] 30)) := (Below.refl _ _).alloc (Nat.le_refl _) _
        have bVA := bV1.trans (hbA.mono bV1.size)
        go_wp2_with fail
        go_fit (renc2_any K D5 X.length dc5 X _ hkk rfl (rX5.below hbA))
        rintro x v2 ⟨u2, hx, ho2, hv2⟩
        rw [← HKK.out, ← HXX.out, HQ3.out] at hx
        rw [← HKK.out, ← HXX.out, HK2.out, HT2.out, Int.toNat_natCast] at ho2
        subst hx
        have hlt : (bs.take t).length = t := by rw [List.length_take, Hm.out]; omega
        have bV2 := bVA.trans (hv2.mono bVA.size)
        have hrt : Rd v2 A (bys (bs.take t)) := by rw [bys_take]; exact (hr.below bV2).take t
        rw [hlt] at ho2
        obtain ⟨L, hL⟩ : ∃ L, bs.take t = L := ⟨_, rfl⟩
        rw [hL] at hlt hrt ho2
        clear hL
        obtain ⟨A2, c2, rfl, _, hc2, hcm2, hr2, ha2⟩ := own_out ho2
        have cv1 : ∀ q, (convert 25 9 (.slice A2 t c2)).run Try.prog (v2.drewN q) = .ok (.string (strOf L)) (v2.drewN q) := fun q => convB c2 hlt (hr2.drewN q)
        have cv2 : ∀ q, (convert 25 9 (.slice A t c)).run Try.prog (v2.drewN q) = .ok (.string (strOf L)) (v2.drewN q) := fun q => convB c hlt (hrt.drewN q)
        have z5 : decide (t ≤ m) = true := by simpa using htm
        clear hlt
        go_wp2
        go_quiet (fail)
        all_goals
          go_wp2
          go_ret
          exact ⟨by simp, below_drewN bV2 _⟩
      · obtain ⟨p1, p2, p3⟩ := reE_no h2
        rw [p1, p2, p3] at hx
        rw [p2] at rX5
        subst hx
        obtain ⟨E, hE⟩ : ∃ E, reE bs = E := ⟨_, rfl⟩
        rw [hE] at h2
        have z1 : (E != 0) = true := by simpa using h2
        rw [hE]
        clear h2 hE p1 p2 p3
        go_wp2
        go_ret
        exact ⟨by simp, bV1.alloc bV1.size _⟩
  · obtain ⟨p1, p2, p3, p4, p5, p6⟩ := opE_no h0
    rw [p1, p2, p3, p4, p5, p6] at hx
    subst hx
    obtain ⟨E, hE⟩ : ∃ E, opE bs = E := ⟨_, rfl⟩
    rw [hE] at h0
    have z0 : (E == 0) = false := by simpa using h0
    rw [hE]
    clear h0 hE p1 p2 p3 p4 p5 p6
    have bWW := hb02.alloc hb02.size (.cells #[.int .u8 ((0 : Nat) : Int), .int .i64 ((0 : Nat) : Int), .int .i64 ((0 : Nat) : Int), .slice D3 0 dc3, .slice O3 0 oc3] 27)
    go_wp2_with fail
    go_fit (res_any A m c bs _ Hm.out hmc hm8 hc (hr.below bWW) (fun a ha => Nat.lt_of_lt_of_le (hlo a ha) bWW.size))
    rintro x v1 ⟨D5, dc5, hx, rX5, hv1⟩
    have bV1 := bWW.trans (hv1.mono bWW.size)
    rcases Decidable.em (reE bs = 0) with h2 | h2
    · obtain ⟨q1, q2, q3, q4⟩ := re_only h2
      rw [h2] at hx
      subst hx
      have HK2 := hide (show rencL (reK bs) (reD bs) = bs.take (reT bs).toNat by unfold rencL; rw [if_pos (by unfold rsE at q3; split at q3; assumption; cases q3), q4])
      have HQ3 := hide q3
      obtain ⟨t, ht⟩ : ∃ t : Nat, reT bs = t := ⟨(reT bs).toNat, by omega⟩
      rw [ht] at q1 q2
      have htm : t ≤ m := by rw [← Hm.out]; omega
      have HT2 := hide ht
      have hkk : reK bs < 256 := by rw [(reE_yes h2).1]; exact getV_1 bs 0
      obtain ⟨K, hK⟩ : ∃ K, reK bs = K := ⟨_, rfl⟩
      obtain ⟨X, hX⟩ : ∃ K, reD bs = K := ⟨_, rfl⟩
      rw [hK] at hkk
      rw [hX] at rX5
      rw [hK, hX, ht]
      have HKK := hide hK
      have HXX := hide hX
      clear ht hK hX q1 q2 q3 q4 h2
      have hbA : Below v1.heap.size v1 (v1.alloc (.cells #[.int .u8 K, .slice D5 X.length dc5] 30)) := (Below.refl _ _).alloc (Nat.le_refl _) _
      have bVA := bV1.trans (hbA.mono bV1.size)
      go_wp2_with fail
      go_fit (renc2_any K D5 X.length dc5 X _ hkk rfl (rX5.below hbA))
      rintro x v2 ⟨u2, hx, ho2, hv2⟩
      rw [← HKK.out, ← HXX.out, HQ3.out] at hx
      rw [← HKK.out, ← HXX.out, HK2.out, HT2.out, Int.toNat_natCast] at ho2
      subst hx
      have hlt : (bs.take t).length = t := by rw [List.length_take, Hm.out]; omega
      have bV2 := bVA.trans (hv2.mono bVA.size)
      have hrt : Rd v2 A (bys (bs.take t)) := by rw [bys_take]; exact (hr.below bV2).take t
      rw [hlt] at ho2
      obtain ⟨L, hL⟩ : ∃ L, bs.take t = L := ⟨_, rfl⟩
      rw [hL] at hlt hrt ho2
      clear hL
      obtain ⟨A2, c2, rfl, _, hc2, hcm2, hr2, ha2⟩ := own_out ho2
      have cv1 : ∀ q, (convert 25 9 (.slice A2 t c2)).run Try.prog (v2.drewN q) = .ok (.string (strOf L)) (v2.drewN q) := fun q => convB c2 hlt (hr2.drewN q)
      have cv2 : ∀ q, (convert 25 9 (.slice A t c)).run Try.prog (v2.drewN q) = .ok (.string (strOf L)) (v2.drewN q) := fun q => convB c hlt (hrt.drewN q)
      have z5 : decide (t ≤ m) = true := by simpa using htm
      clear hlt
      go_wp2
      go_quiet (fail)
      all_goals
        go_wp2
        go_ret
        exact ⟨by simp, below_drewN bV2 _⟩
    · obtain ⟨p1, p2, p3⟩ := reE_no h2
      rw [p1, p2, p3] at hx
      rw [p2] at rX5
      subst hx
      obtain ⟨E, hE⟩ : ∃ E, reE bs = E := ⟨_, rfl⟩
      rw [hE] at h2
      have z1 : (E != 0) = true := by simpa using h2
      rw [hE]
      clear h2 hE p1 p2 p3
      go_wp2
      go_ret
      exact ⟨by simp, bV1.alloc bV1.size _⟩
end Go.Proofs.Ytabglphiafeheaa
