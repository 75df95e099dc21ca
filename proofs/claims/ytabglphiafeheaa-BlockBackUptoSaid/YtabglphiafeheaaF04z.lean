/- The law BlockBack, walked. -/
import Derived.Test.YtabglphiafeheaaF04n
import Derived.Test.YtabglphiafeheaaF04g
import Derived.Test.YtabglphiafeheaaF04x
import Derived.Test.YtabglphiafeheaaM04c
namespace Go.Proofs.Ytabglphiafeheaa
open Go.RowKit Go.Px
set_option linter.unusedVariables false

set_option maxHeartbeats 12800000 in
theorem blockBack_walk (k : Nat) (p n : Int) (D : Option Addr) (d dc : Nat) (ds : List UInt8) (O : Option Addr) (o oc : Nat) (os : List UInt8) (rk : Nat) (R : Option Addr) (rd rc : Nat) (rs : List UInt8) (Q : Option Addr) (q qc : Nat) (ts : List UInt8) (w : World) (hk : k < 256) (hrk : rk < 256)
    (hd : ds.length = d) (ho : os.length = o) (hrd : rs.length = rd) (hq : ts.length = q) (hq8 : q ≤ 1048576) (hD : Rd w D (bys ds)) (hO : Rd w O (bys os)) (hRd : Rd w R (bys rs)) (hQ : Rd w Q (bys ts)) :
    Calls Try.prog 7 #[opv k p n D d dc O o oc, resv rk R rd rc, .slice Q q qc] w fun x w' => x = .returned (.bool true) ∧ Below w.heap.size w w' := by
  obtain ⟨g, hg⟩ : ∃ g, w.heap.size = g := ⟨_, rfl⟩
  obtain ⟨w0, hw0⟩ : ∃ w0, (w.alloc (.cells #[.int .u8 k, .int .i64 p, .int .i64 n, .slice D d dc, .slice O o oc] 27)).alloc (.cells #[.int .u8 rk, .slice R rd rc] 30) = w0 := ⟨_, rfl⟩
  have hB : Blk w0 g [.int .u8 k, .int .i64 p, .int .i64 n, .slice D d dc, .slice O o oc] 27 := by rw [← hw0, ← hg]; exact (Blk.new w [.int .u8 k, .int .i64 p, .int .i64 n, .slice D d dc, .slice O o oc] _).alloc _
  have hR : Blk w0 (g + 1) [.int .u8 rk, .slice R rd rc] 30 := by
    rw [← hw0, ← hg]
    have := Blk.new (w.alloc (.cells #[.int .u8 k, .int .i64 p, .int .i64 n, .slice D d dc, .slice O o oc] 27)) [.int .u8 rk, .slice R rd rc] 30
    rwa [World.size_alloc] at this
  have hb0 : Below w.heap.size w w0 := by rw [← hw0]; exact ((Below.refl _ _).alloc (Nat.le_refl _) _).alloc (by simp) _
  have Hd := hide hd
  have Ho := hide ho
  have Hrd := hide hrd
  have Hq := hide hq
  clear hd ho hrd hq
  go_enter Try.func7, Try.ntmps7
  go_wp2_with fail
  clear hw0
  go_fit (awake04_any w0)
  rintro x w1 ⟨rfl, hb1⟩
  have hb01 := hb0.trans (hb1.mono hb0.size)
  have hB1 := hB.below hb1
  have hR1 := hR.below hb1
  have y0 := hB1.cell (j := 0) rfl
  have y1 := hB1.cell (j := 1) rfl
  have y2 := hB1.cell (j := 2) rfl
  have y3 := hB1.cell (j := 3) rfl
  have y4 := hB1.cell (j := 4) rfl
  go_wp2_with fail
  go_fit (enc_any k p n D d dc ds O o oc os w1 hk Hd.out Ho.out (hD.below hb01) (hO.below hb01))
  rintro x w2 ⟨u2, hx, ho2, hb2⟩
  have hb02 := hb01.trans (hb2.mono hb01.size)
  have hB2 := hB1.below hb2
  have hR2 := hR1.below hb2
  rcases fmE_two k p n ds.length os.length with ⟨hp, he⟩ | he
  · have hp' := hp
    obtain ⟨⟨⟨p1, p2⟩, ⟨n1, n2⟩, d1, o1⟩, _⟩ := hp'
    obtain ⟨P, rfl⟩ := Int.eq_ofNat_of_zero_le p1
    obtain ⟨N, rfl⟩ := Int.eq_ofNat_of_zero_le n1
    have HL := hide (show encL k (P : Int) (N : Int) ds os = encB k P N ds os by unfold encL; rw [if_pos hp]; rfl)
    have HBk := hide (op_back k P N ds os ts hk he)
    rw [he] at hx
    subst hx
    rw [HL.out] at ho2
    have hel : (encB k P N ds os).length = 17 + ds.length + os.length := by unfold encB textB; simp [leB_length]; omega
    obtain ⟨E, hE⟩ : ∃ E, encB k P N ds os = E := ⟨_, rfl⟩
    obtain ⟨M, hM⟩ : ∃ M, E.length = M := ⟨_, rfl⟩
    rw [hE] at ho2 hel
    rw [hM] at ho2 hel
    have HE := hide hE
    have HM := hide hM
    have hM2 : M ≤ 266257 := by omega
    clear hE hM he hp hel y0 y1 y2 y3 y4 p1 n1
    obtain ⟨A2, c2, rfl, _, hc2, hcm2, hr2, ha2⟩ := own_out ho2
    go_wp2_with (first | (with_reducible refine stop_append rfl ?_) | (with_reducible refine stop_copy rfl ?_) | (with_reducible refine stop_make rfl ?_))
    refine (Grow.empty w2 5 1).append rfl rfl tBytes rfl rfl (by rw [bys_length, HM.out]; omega) (hr2.alloc _) (bys_one _) (by omega) (by omega) ?_
    intro z4 w4 hG4 hs4
    have hb4 := hG4.emptyAll
    have hb04 := hb02.trans (hb4.mono hb02.size)
    go_wp2_with (first | (with_reducible refine stop_append rfl ?_) | (with_reducible refine stop_copy rfl ?_) | (with_reducible refine stop_make rfl ?_))
    refine hG4.append rfl rfl tBytes rfl rfl (by rw [bys_length, Hq.out]; omega) (hQ.below hb04) (bys_one _) (by omega) (by omega) ?_
    intro z5 w5 hG5 hs5
    have hb5 := hG5.emptyAll
    have hb05 := hb02.trans (hb5.mono hb02.size)
    have ho5 := hG5.owns
    rw [show ([] : List Value) ++ bys E ++ bys ts = bys (E ++ ts) by simp [bys], show 0 + M + q = M + q by omega] at ho5
    obtain ⟨A5, c5, rfl, _, hc5, hcm5, hr5, ha5⟩ := own_out ho5
    obtain ⟨bs, hbs⟩ : ∃ bs, E ++ ts = bs := ⟨_, rfl⟩
    have hbl : bs.length = M + q := by rw [← hbs, List.length_append, HM.out, Hq.out]
    have hBk := HBk.out
    rw [HE.out, hbs, HM.out] at hBk
    rw [hbs] at hr5
    obtain ⟨L, hL⟩ : ∃ L, M + q = L := ⟨_, rfl⟩
    have Hbl := hide (hbl.trans hL)
    have hLb : L ≤ 140737488355328 := by omega
    have HLL := hide hL
    rw [hL] at hc5
    clear hbs hbl ho5 hL
    go_wp2_with fail
    rw [HLL.out]
    go_fit (dec_any A5 L c5 bs w5 Hbl.out hc5 hLb (by unfold maxLen at hcm5; omega) hr5 (fun a ha => (ha5 a ha).2))
    rintro x w6 ⟨D6, dc6, O6, oc6, hx, rX6, rY6, _, _, hb6⟩
    rw [hBk.1, hBk.2.1, hBk.2.2.1, hBk.2.2.2.1, hBk.2.2.2.2.1, hBk.2.2.2.2.2.1, hBk.2.2.2.2.2.2] at hx
    rw [hBk.2.2.2.2.1] at rX6
    rw [hBk.2.2.2.2.2.1] at rY6
    subst hx
    have hb06 := hb05.trans (hb6.mono hb05.size)
    have hbA : Below w6.heap.size w6 (w6.alloc (.cells #[.int .u8 k, .int .i64 P, .int .i64 N, .slice D6 ds.length dc6, .slice O6 os.length oc6] 27)) := (Below.refl _ _).alloc (Nat.le_refl _) _
    have hb07 := hb06.trans (hbA.mono hb06.size)
    have lw25 : Below w2.heap.size w2 w5 := hb5
    have hB7 := ((hB2.below lw25).below hb6).below hbA
    have hR7 := ((hR2.below lw25).below hb6).below hbA
    have y0 := hB7.cell (j := 0) rfl
    have y1 := hB7.cell (j := 1) rfl
    have y2 := hB7.cell (j := 2) rfl
    have y3 := hB7.cell (j := 3) rfl
    have y4 := hB7.cell (j := 4) rfl
    clear hBk
    go_wp2_with fail
    go_fit (rosame_any k P N D d dc ds O o oc os k P N D6 ds.length dc6 ds O6 os.length oc6 os _ Hd.out Ho.out rfl rfl (hD.below hb07) (hO.below hb07) (rX6.below hbA) (rY6.below hbA))
    rw [eqO_self]
    rintro x w8 ⟨rfl, hb8⟩
    have bWW := hb07.trans (hb8.mono hb07.size)
    have hR := hR7.below hb8
    clear y0 y1 y2 y3 y4
    have y0 := hR.cell (j := 0) rfl
    have y1 := hR.cell (j := 1) rfl
    go_wp2_with fail
    go_fit (renc2_any rk R rd rc rs _ hrk Hrd.out (hRd.below bWW))
    rintro x v1 ⟨u1, hx, ho1, hv1⟩
    have bV1 := bWW.trans (hv1.mono bWW.size)
    rcases rsE_two rk rs.length with ⟨hp, he⟩ | he
    · have HL2 := hide (show rencL rk rs = rencB rk rs by unfold rencL; rw [if_pos hp])
      have HB2 := hide (re_back rk rs ts hrk he)
      rw [he] at hx
      subst hx
      rw [HL2.out] at ho1
      have hrl : rs.length ≤ 262144 := by unfold rsP at hp; omega
      have hel : (rencB rk rs).length = 5 + rs.length := by unfold rencB textB; simp [leB_length]; omega
      obtain ⟨E, hE⟩ : ∃ E, rencB rk rs = E := ⟨_, rfl⟩
      obtain ⟨M, hM⟩ : ∃ M, E.length = M := ⟨_, rfl⟩
      rw [hE] at ho1 hel
      rw [hM] at ho1 hel
      have HE2 := hide hE
      have HM := hide hM
      clear hE hM he hp y0 y1
      obtain ⟨A1, c1, rfl, _, hc1, hcm1, hr1, ha1⟩ := own_out ho1
      have hM2 : M ≤ 262149 := by omega
      have HEl := hide hel
      clear hel
      go_wp2_with (first | (with_reducible refine stop_append rfl ?_) | (with_reducible refine stop_copy rfl ?_) | (with_reducible refine stop_make rfl ?_))
      refine (Grow.empty v1 5 1).append rfl rfl tBytes rfl rfl (by rw [bys_length, HM.out]; omega) (hr1.alloc _) (bys_one _) (by omega) (by omega) ?_
      intro z4 v4 hG4 hs4
      have hb4 := hG4.emptyAll
      have bV4 := bV1.trans (hb4.mono bV1.size)
      go_wp2_with (first | (with_reducible refine stop_append rfl ?_) | (with_reducible refine stop_copy rfl ?_) | (with_reducible refine stop_make rfl ?_))
      refine hG4.append rfl rfl tBytes rfl rfl (by rw [bys_length, Hq.out]; omega) (hQ.below bV4) (bys_one _) (by omega) (by omega) ?_
      intro z5 v5 hG5 hs5
      have hb5 := hG5.emptyAll
      have bV5 := bV1.trans (hb5.mono bV1.size)
      have ho5 := hG5.owns
      rw [show ([] : List Value) ++ bys E ++ bys ts = bys (E ++ ts) by simp [bys], show 0 + M + q = M + q by omega] at ho5
      obtain ⟨A5, c5, rfl, _, hc5, hcm5, hr5, ha5⟩ := own_out ho5
      obtain ⟨bs, hbs⟩ : ∃ bs, E ++ ts = bs := ⟨_, rfl⟩
      have hbl : bs.length = M + q := by rw [← hbs, List.length_append, HM.out, Hq.out]
      have hB2 := HB2.out
      rw [HE2.out, hbs, HM.out] at hB2
      rw [hbs] at hr5
      have Hbl := hide hbl
      clear hbs hbl ho5
      obtain ⟨N, hN⟩ : ∃ N, M + q = N := ⟨_, rfl⟩
      have hNb : N ≤ 140737488355328 := by omega
      have Hbl2 := hide (Hbl.out.trans hN)
      have HN := hide hN
      rw [hN] at hc5
      go_wp2_with fail
      go_fit (res_any A5 N c5 bs v5 Hbl2.out hc5 hNb (by unfold maxLen at hcm5; omega) hr5 (fun a ha => (ha5 a ha).2))
      rintro x v6 ⟨D6, dc6, hx, rX6, hv6⟩
      rw [hB2.1, hB2.2.1, hB2.2.2.1, hB2.2.2.2] at hx
      rw [hB2.2.2.1] at rX6
      subst hx
      have bV6 := bV5.trans (hv6.mono bV5.size)
      have hbA : Below v6.heap.size v6 (v6.alloc (.cells #[.int .u8 rk, .slice D6 rs.length dc6] 30)) := (Below.refl _ _).alloc (Nat.le_refl _) _
      have bV7 := bV6.trans (hbA.mono bV6.size)
      have r7 := ((hR.below hv1).below (hb5 : Below v1.heap.size v1 v5)).below hv6 |>.below hbA
      have y0 := r7.cell (j := 0) rfl
      have y1 := r7.cell (j := 1) rfl
      clear hN
      go_wp2_with fail
      go_fit (rsames_any rk R rd rc rs rk D6 rs.length dc6 rs _ Hrd.out rfl (hRd.below bV7) (rX6.below hbA))
      rw [eqR_self]
      rintro x v8 ⟨rfl, hv8⟩
      go_wp2
      go_ret
      exact ⟨by simp, bV7.trans (hv8.mono bV7.size)⟩
    · rw [he] at hx
      subst hx
      have hL0 : rencL rk rs = [] := by
        unfold rencL rsE at *; split at he
        · cases he
        · rename_i h; rw [if_neg h]
      rw [hL0] at ho1
      obtain ⟨A1, c1, rfl, _, hc1, hcm1, hr1, ha1⟩ := own_out ho1
      clear he hL0 y0 y1
      go_wp2
      go_ret
      exact ⟨by simp, bV1⟩
  · rw [he] at hx
    subst hx
    have bWW := hb02
    have hR := hR2
    obtain ⟨A0, c0, rfl, _, _, _, _, _⟩ := own_out ho2
    clear he y0 y1 y2 y3 y4
    have y0 := hR.cell (j := 0) rfl
    have y1 := hR.cell (j := 1) rfl
    go_wp2_with fail
    go_fit (renc2_any rk R rd rc rs _ hrk Hrd.out (hRd.below bWW))
    rintro x v1 ⟨u1, hx, ho1, hv1⟩
    have bV1 := bWW.trans (hv1.mono bWW.size)
    rcases rsE_two rk rs.length with ⟨hp, he⟩ | he
    · have HL2 := hide (show rencL rk rs = rencB rk rs by unfold rencL; rw [if_pos hp])
      have HB2 := hide (re_back rk rs ts hrk he)
      rw [he] at hx
      subst hx
      rw [HL2.out] at ho1
      have hrl : rs.length ≤ 262144 := by unfold rsP at hp; omega
      have hel : (rencB rk rs).length = 5 + rs.length := by unfold rencB textB; simp [leB_length]; omega
      obtain ⟨E, hE⟩ : ∃ E, rencB rk rs = E := ⟨_, rfl⟩
      obtain ⟨M, hM⟩ : ∃ M, E.length = M := ⟨_, rfl⟩
      rw [hE] at ho1 hel
      rw [hM] at ho1 hel
      have HE2 := hide hE
      have HM := hide hM
      clear hE hM he hp y0 y1
      obtain ⟨A1, c1, rfl, _, hc1, hcm1, hr1, ha1⟩ := own_out ho1
      have hM2 : M ≤ 262149 := by omega
      have HEl := hide hel
      clear hel
      go_wp2_with (first | (with_reducible refine stop_append rfl ?_) | (with_reducible refine stop_copy rfl ?_) | (with_reducible refine stop_make rfl ?_))
      refine (Grow.empty v1 5 1).append rfl rfl tBytes rfl rfl (by rw [bys_length, HM.out]; omega) (hr1.alloc _) (bys_one _) (by omega) (by omega) ?_
      intro z4 v4 hG4 hs4
      have hb4 := hG4.emptyAll
      have bV4 := bV1.trans (hb4.mono bV1.size)
      go_wp2_with (first | (with_reducible refine stop_append rfl ?_) | (with_reducible refine stop_copy rfl ?_) | (with_reducible refine stop_make rfl ?_))
      refine hG4.append rfl rfl tBytes rfl rfl (by rw [bys_length, Hq.out]; omega) (hQ.below bV4) (bys_one _) (by omega) (by omega) ?_
      intro z5 v5 hG5 hs5
      have hb5 := hG5.emptyAll
      have bV5 := bV1.trans (hb5.mono bV1.size)
      have ho5 := hG5.owns
      rw [show ([] : List Value) ++ bys E ++ bys ts = bys (E ++ ts) by simp [bys], show 0 + M + q = M + q by omega] at ho5
      obtain ⟨A5, c5, rfl, _, hc5, hcm5, hr5, ha5⟩ := own_out ho5
      obtain ⟨bs, hbs⟩ : ∃ bs, E ++ ts = bs := ⟨_, rfl⟩
      have hbl : bs.length = M + q := by rw [← hbs, List.length_append, HM.out, Hq.out]
      have hB2 := HB2.out
      rw [HE2.out, hbs, HM.out] at hB2
      rw [hbs] at hr5
      have Hbl := hide hbl
      clear hbs hbl ho5
      obtain ⟨N, hN⟩ : ∃ N, M + q = N := ⟨_, rfl⟩
      have hNb : N ≤ 140737488355328 := by omega
      have Hbl2 := hide (Hbl.out.trans hN)
      have HN := hide hN
      rw [hN] at hc5
      go_wp2_with fail
      go_fit (res_any A5 N c5 bs v5 Hbl2.out hc5 hNb (by unfold maxLen at hcm5; omega) hr5 (fun a ha => (ha5 a ha).2))
      rintro x v6 ⟨D6, dc6, hx, rX6, hv6⟩
      rw [hB2.1, hB2.2.1, hB2.2.2.1, hB2.2.2.2] at hx
      rw [hB2.2.2.1] at rX6
      subst hx
      have bV6 := bV5.trans (hv6.mono bV5.size)
      have hbA : Below v6.heap.size v6 (v6.alloc (.cells #[.int .u8 rk, .slice D6 rs.length dc6] 30)) := (Below.refl _ _).alloc (Nat.le_refl _) _
      have bV7 := bV6.trans (hbA.mono bV6.size)
      have r7 := ((hR.below hv1).below (hb5 : Below v1.heap.size v1 v5)).below hv6 |>.below hbA
      have y0 := r7.cell (j := 0) rfl
      have y1 := r7.cell (j := 1) rfl
      clear hN
      go_wp2_with fail
      go_fit (rsames_any rk R rd rc rs rk D6 rs.length dc6 rs _ Hrd.out rfl (hRd.below bV7) (rX6.below hbA))
      rw [eqR_self]
      rintro x v8 ⟨rfl, hv8⟩
      go_wp2
      go_ret
      exact ⟨by simp, bV7.trans (hv8.mono bV7.size)⟩
    · rw [he] at hx
      subst hx
      have hL0 : rencL rk rs = [] := by
        unfold rencL rsE at *; split at he
        · cases he
        · rename_i h; rw [if_neg h]
      rw [hL0] at ho1
      obtain ⟨A1, c1, rfl, _, hc1, hcm1, hr1, ha1⟩ := own_out ho1
      clear he hL0 y0 y1
      go_wp2
      go_ret
      exact ⟨by simp, bV1⟩
end Go.Proofs.Ytabglphiafeheaa
