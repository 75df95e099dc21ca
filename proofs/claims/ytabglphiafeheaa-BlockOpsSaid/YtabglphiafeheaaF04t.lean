/- The law BlockOps, walked. -/
import Derived.Test.YtabglphiafeheaaF04n
import Derived.Test.YtabglphiafeheaaF04g
import Derived.Test.YtabglphiafeheaaF04q
import Derived.Test.YtabglphiafeheaaF04r
import Derived.Test.YtabglphiafeheaaF04s
namespace Go.Proofs.Ytabglphiafeheaa
open Go.RowKit Go.Px
set_option linter.unusedVariables false

set_option maxHeartbeats 3200000 in
theorem blockOps_walk (k : Nat) (p n : Int) (D : Option Addr) (d dc : Nat) (ds : List UInt8) (O : Option Addr) (o oc : Nat) (os : List UInt8) (A : Option Addr) (m c : Nat) (bs : List UInt8) (w : World) (hk : k < 256) (hd : ds.length = d) (ho : os.length = o) (hD : Rd w D (bys ds)) (hO : Rd w O (bys os))
    (hm : bs.length = m) (hmc : m ≤ c) (hm8 : m ≤ 140737488355328) (hc : c ≤ 9223372036854775807) (hr : Rd w A (bys bs)) (hlo : Lo w.heap.size A) :
    Calls Try.prog 5 #[opv k p n D d dc O o oc, .slice A m c] w fun x w' => x = .returned (.bool true) ∧ Below w.heap.size w w' := by
  obtain ⟨g, hg⟩ : ∃ g, w.heap.size = g := ⟨_, rfl⟩
  obtain ⟨w0, hw0⟩ : ∃ w0, w.alloc (.cells #[.int .u8 k, .int .i64 p, .int .i64 n, .slice D d dc, .slice O o oc] 27) = w0 := ⟨_, rfl⟩
  have hB : Blk w0 g [.int .u8 k, .int .i64 p, .int .i64 n, .slice D d dc, .slice O o oc] 27 := by rw [← hw0, ← hg]; exact Blk.new _ _ _
  have hb0 : Below w.heap.size w w0 := by rw [← hw0]; exact (Below.refl _ _).alloc (Nat.le_refl _) _
  obtain ⟨L, hL⟩ : ∃ L, encL k p n ds os = L := ⟨_, rfl⟩
  obtain ⟨E, hE⟩ : ∃ E, fmE k p n ds.length os.length = E := ⟨_, rfl⟩
  obtain ⟨K, hK⟩ : ∃ K, opK bs = K := ⟨_, rfl⟩
  obtain ⟨P, hP⟩ : ∃ K, opP bs = K := ⟨_, rfl⟩
  obtain ⟨N, hN⟩ : ∃ K, opN bs = K := ⟨_, rfl⟩
  obtain ⟨X, hX⟩ : ∃ K, opD bs = K := ⟨_, rfl⟩
  obtain ⟨Y, hY⟩ : ∃ K, opO bs = K := ⟨_, rfl⟩
  obtain ⟨T, hT⟩ : ∃ K, opT bs = K := ⟨_, rfl⟩
  obtain ⟨F, hF⟩ : ∃ K, opE bs = K := ⟨_, rfl⟩
  have HL := hide hL
  have HE := hide hE
  have HK := hide hK
  have HP := hide hP
  have HN := hide hN
  have HX := hide hX
  have HY := hide hY
  have HT := hide hT
  have HF := hide hF
  have Hd := hide hd
  have Ho := hide ho
  have Hm := hide hm
  have y0 := hB.cell (j := 0) rfl
  have y1 := hB.cell (j := 1) rfl
  have y2 := hB.cell (j := 2) rfl
  have y3 := hB.cell (j := 3) rfl
  have y4 := hB.cell (j := 4) rfl
  clear hL hE hK hP hN hX hY hT hF hd ho hm
  have z2 : (E == E) = true := by simp
  have z3 : (T == T) = true := by simp
  have z4 : (F == F) = true := by simp
  go_enter Try.func5, Try.ntmps5
  go_wp2_with fail
  go_fit (enc_any k p n D d dc ds O o oc os w0 hk Hd.out Ho.out (hD.below hb0) (hO.below hb0))
  rintro x w1 ⟨v1, hx, ho1, hb1⟩
  rw [HE.out] at hx
  rw [HL.out] at ho1
  subst hx
  obtain ⟨A1, c1, rfl, hl1, hc1, hcm1, hr1, ha1⟩ := own_out ho1
  have hB1 := hB.below hb1
  have hb01 := hb0.trans (hb1.mono hb0.size)
  clear y0 y1 y2 y3 y4
  have y0 := hB1.cell (j := 0) rfl
  have y1 := hB1.cell (j := 1) rfl
  have y2 := hB1.cell (j := 2) rfl
  have y3 := hB1.cell (j := 3) rfl
  have y4 := hB1.cell (j := 4) rfl
  go_wp2_with fail
  go_fit (renc_any k p n D d dc ds O o oc os w1 hk Hd.out Ho.out (hD.below hb01) (hO.below hb01))
  rintro x w2 ⟨v2, hx, ho2, hb2⟩
  rw [HE.out] at hx
  rw [HL.out] at ho2
  subst hx
  obtain ⟨A2, c2, rfl, hl2, hc2, hcm2, hr2, ha2⟩ := own_out ho2
  have hb02 := hb01.trans (hb2.mono hb01.size)
  go_wp2_with fail
  go_fit (dec_any A m c bs w2 Hm.out hmc hm8 hc (hr.below hb02) (fun a ha => Nat.lt_of_lt_of_le (hlo a ha) hb02.size))
  rintro x w3 ⟨D3, dc3, O3, oc3, hx, rX3, rY3, uD3, uO3, hb3⟩
  rw [HK.out, HP.out, HN.out, HX.out, HY.out, HT.out, HF.out] at hx
  rw [HX.out] at rX3
  rw [HY.out] at rY3
  subst hx
  have hb03 := hb02.trans (hb3.mono hb02.size)
  obtain ⟨v3, hv3⟩ : ∃ v, w3.heap.size = v := ⟨_, rfl⟩
  obtain ⟨w4, hw4⟩ : ∃ w4, w3.alloc (.cells #[.int .u8 K, .int .i64 P, .int .i64 N, .slice D3 X.length dc3, .slice O3 Y.length oc3] 27) = w4 := ⟨_, rfl⟩
  have hV4 : Blk w4 v3 [.int .u8 K, .int .i64 P, .int .i64 N, .slice D3 X.length dc3, .slice O3 Y.length oc3] 27 := by rw [← hw4, ← hv3]; exact Blk.new w3 [.int .u8 K, .int .i64 P, .int .i64 N, .slice D3 X.length dc3, .slice O3 Y.length oc3] _
  have hb34 : Below w3.heap.size w3 w4 := by rw [← hw4]; exact (Below.refl _ _).alloc (Nat.le_refl _) _
  have hb04 := hb03.trans (hb34.mono hb03.size)
  have Hw4 := hide hw4
  clear hw4
  go_wp2_with fail
  rw [Hw4.out]
  go_fit (rdec_any A m c bs w4 Hm.out hmc hm8 hc (hr.below hb04))
  rintro x w5 ⟨D5, dc5, O5, oc5, hx, rX5, rY5, hb5⟩
  rw [HK.out, HP.out, HN.out, HX.out, HY.out, HT.out, HF.out] at hx
  rw [HX.out] at rX5
  rw [HY.out] at rY5
  subst hx
  have hb05 := hb04.trans (hb5.mono hb04.size)
  have hb6 : Below w5.heap.size w5 (w5.alloc (.cells #[.int .u8 K, .int .i64 P, .int .i64 N, .slice D5 X.length dc5, .slice O5 Y.length oc5] 27)) := (Below.refl _ _).alloc (Nat.le_refl _) _
  have hV6 : Blk (w5.alloc (.cells #[.int .u8 K, .int .i64 P, .int .i64 N, .slice D5 X.length dc5, .slice O5 Y.length oc5] 27)) w5.heap.size [.int .u8 K, .int .i64 P, .int .i64 N, .slice D5 X.length dc5, .slice O5 Y.length oc5] 27 := Blk.new w5 [.int .u8 K, .int .i64 P, .int .i64 N, .slice D5 X.length dc5, .slice O5 Y.length oc5] _
  have hU6 := (hV4.below hb5).below hb6
  have hb06 := hb05.trans (hb6.mono hb05.size)
  have q1 := convB c1 rfl (hr1.below hb2 |>.below hb3 |>.below hb34 |>.below hb5 |>.below hb6)
  have q2 := convB c2 rfl (hr2.below hb3 |>.below hb34 |>.below hb5 |>.below hb6)
  have f0 := hU6.cell (j := 0) rfl
  have f1 := hU6.cell (j := 1) rfl
  have f2 := hU6.cell (j := 2) rfl
  have f3 := hU6.cell (j := 3) rfl
  have f4 := hU6.cell (j := 4) rfl
  clear y0 y1 y2 y3 y4
  go_wp2_with fail
  go_fit (rosame_any K P N D3 X.length dc3 X O3 Y.length oc3 Y K P N D5 X.length dc5 X O5 Y.length oc5 Y _ rfl rfl rfl rfl (rX3.below hb34 |>.below hb5 |>.below hb6) (rY3.below hb34 |>.below hb5 |>.below hb6) (rX5.below hb6) (rY5.below hb6))
  rw [eqO_self]
  rintro x w7 ⟨rfl, hb7⟩
  have hb07 := hb06.trans (hb7.mono hb06.size)
  go_wp2_with fail
  go_fit (awake04_any w7)
  rintro x w8 ⟨rfl, hb8⟩
  go_wp2
  go_ret
  exact ⟨by simp, hb07.trans (hb8.mono hb07.size)⟩
end Go.Proofs.Ytabglphiafeheaa
