/- The law BlockResults, walked. -/
import Derived.Test.YtabglphiafeheaaF04n
import Derived.Test.YtabglphiafeheaaF04w
namespace Go.Proofs.Ytabglphiafeheaa
open Go.RowKit Go.Px
set_option linter.unusedVariables false
def eqR (k : Nat) (ds : List UInt8) (k' : Nat) (ds' : List UInt8) : Bool := ((k : Int) == (k' : Int)) && (ds == ds')
theorem eqR_self (k : Nat) (ds : List UInt8) : eqR k ds k ds = true := by unfold eqR; simp
set_option maxHeartbeats 1600000 in
theorem rsames_any (k : Nat) (D : Option Addr) (d dc : Nat) (ds : List UInt8) (k' : Nat) (D' : Option Addr) (d' dc' : Nat) (ds' : List UInt8) (w : World) (hd : ds.length = d) (hd' : ds'.length = d') (hD : Rd w D (bys ds)) (hD' : Rd w D' (bys ds')) :
    Calls Try.prog 30 #[resv k D d dc, resv k' D' d' dc'] w fun e w' => e = .returned (.bool (eqR k ds k' ds')) ∧ Below w.heap.size w w' := by
  have hb0 : Below w.heap.size w ((w.alloc (.cells #[.int .u8 k, .slice D d dc] 30)).alloc (.cells #[.int .u8 k', .slice D' d' dc'] 30)) := ((Below.refl _ _).alloc (Nat.le_refl _) _).alloc (by simp) _
  have c1 := convB dc hd (hD.below hb0)
  have c2 := convB dc' hd' (hD'.below hb0)
  clear hd hd'
  rcases bool_two ((k : Int) == (k' : Int)) with q1 | q1
  · rcases bool_two (ds == ds') with q4 | q4
    all_goals
      have hF : eqR k ds k' ds' = (ds == ds') := by unfold eqR; rw [q1]; rfl
      rw [q4] at hF
      have HF := hide hF
      clear hF
      go_enter Try.func30, Try.ntmps30
      go_wp2
      go_ret
      exact ⟨by rw [HF.out]; rfl, hb0⟩
  · have HF := hide (show eqR k ds k' ds' = false by unfold eqR; rw [q1]; rfl)
    go_enter Try.func30, Try.ntmps30
    go_wp2
    go_ret
    exact ⟨by rw [HF.out]; rfl, hb0⟩

set_option maxHeartbeats 3200000 in
theorem blockResults_walk (k : Nat) (D : Option Addr) (d dc : Nat) (ds : List UInt8) (A : Option Addr) (m c : Nat) (bs : List UInt8) (w : World) (hk : k < 256) (hd : ds.length = d) (hD : Rd w D (bys ds))
    (hm : bs.length = m) (hmc : m ≤ c) (hm8 : m ≤ 140737488355328) (hc : c ≤ 9223372036854775807) (hr : Rd w A (bys bs)) (hlo : Lo w.heap.size A) :
    Calls Try.prog 6 #[resv k D d dc, .slice A m c] w fun x w' => x = .returned (.bool true) ∧ Below w.heap.size w w' := by
  obtain ⟨g, hg⟩ : ∃ g, w.heap.size = g := ⟨_, rfl⟩
  obtain ⟨w0, hw0⟩ : ∃ w0, w.alloc (.cells #[.int .u8 k, .slice D d dc] 30) = w0 := ⟨_, rfl⟩
  have hB : Blk w0 g [.int .u8 k, .slice D d dc] 30 := by rw [← hw0, ← hg]; exact Blk.new _ _ _
  have hb0 : Below w.heap.size w w0 := by rw [← hw0]; exact (Below.refl _ _).alloc (Nat.le_refl _) _
  obtain ⟨L, hL⟩ : ∃ L, rencL k ds = L := ⟨_, rfl⟩
  obtain ⟨E, hE⟩ : ∃ E, rsE k ds.length = E := ⟨_, rfl⟩
  obtain ⟨K, hK⟩ : ∃ K, reK bs = K := ⟨_, rfl⟩
  obtain ⟨X, hX⟩ : ∃ K, reD bs = K := ⟨_, rfl⟩
  obtain ⟨T, hT⟩ : ∃ K, reT bs = K := ⟨_, rfl⟩
  obtain ⟨F, hF⟩ : ∃ K, reE bs = K := ⟨_, rfl⟩
  have HL := hide hL
  have HE := hide hE
  have HK := hide hK
  have HX := hide hX
  have HT := hide hT
  have HF := hide hF
  have Hd := hide hd
  have Hm := hide hm
  have y0 := hB.cell (j := 0) rfl
  have y1 := hB.cell (j := 1) rfl
  clear hL hE hK hX hT hF hd hm
  have z2 : (E == E) = true := by simp
  have z3 : (T == T) = true := by simp
  have z4 : (F == F) = true := by simp
  go_enter Try.func6, Try.ntmps6
  go_wp2_with fail
  go_fit (renc2_any k D d dc ds w0 hk Hd.out (hD.below hb0))
  rintro x w1 ⟨v1, hx, ho1, hb1⟩
  rw [HE.out] at hx
  rw [HL.out] at ho1
  subst hx
  obtain ⟨A1, c1, rfl, hl1, hc1, hcm1, hr1, ha1⟩ := own_out ho1
  have hB1 := hB.below hb1
  have hb01 := hb0.trans (hb1.mono hb0.size)
  clear y0 y1
  have y0 := hB1.cell (j := 0) rfl
  have y1 := hB1.cell (j := 1) rfl
  go_wp2_with fail
  go_fit (rrenc_any k D d dc ds w1 hk Hd.out (hD.below hb01))
  rintro x w2 ⟨v2, hx, ho2, hb2⟩
  rw [HE.out] at hx
  rw [HL.out] at ho2
  subst hx
  obtain ⟨A2, c2, rfl, hl2, hc2, hcm2, hr2, ha2⟩ := own_out ho2
  have hb02 := hb01.trans (hb2.mono hb01.size)
  go_wp2_with fail
  go_fit (res_any A m c bs w2 Hm.out hmc hm8 hc (hr.below hb02) (fun a ha => Nat.lt_of_lt_of_le (hlo a ha) hb02.size))
  rintro x w3 ⟨D3, dc3, hx, rX3, hb3⟩
  rw [HK.out, HX.out, HT.out, HF.out] at hx
  rw [HX.out] at rX3
  subst hx
  have hb03 := hb02.trans (hb3.mono hb02.size)
  obtain ⟨v3, hv3⟩ : ∃ v, w3.heap.size = v := ⟨_, rfl⟩
  obtain ⟨w4, hw4⟩ : ∃ w4, w3.alloc (.cells #[.int .u8 K, .slice D3 X.length dc3] 30) = w4 := ⟨_, rfl⟩
  have hV4 : Blk w4 v3 [.int .u8 K, .slice D3 X.length dc3] 30 := by rw [← hw4, ← hv3]; exact Blk.new w3 [.int .u8 K, .slice D3 X.length dc3] _
  have hb34 : Below w3.heap.size w3 w4 := by rw [← hw4]; exact (Below.refl _ _).alloc (Nat.le_refl _) _
  have hb04 := hb03.trans (hb34.mono hb03.size)
  have Hw4 := hide hw4
  clear hw4
  go_wp2_with fail
  rw [Hw4.out]
  go_fit (rres_any A m c bs w4 Hm.out hmc hm8 hc (hr.below hb04))
  rintro x w5 ⟨D5, dc5, hx, rX5, hb5⟩
  rw [HK.out, HX.out, HT.out, HF.out] at hx
  rw [HX.out] at rX5
  subst hx
  have hb05 := hb04.trans (hb5.mono hb04.size)
  have hb6 : Below w5.heap.size w5 (w5.alloc (.cells #[.int .u8 K, .slice D5 X.length dc5] 30)) := (Below.refl _ _).alloc (Nat.le_refl _) _
  have hU6 := (hV4.below hb5).below hb6
  have hb06 := hb05.trans (hb6.mono hb05.size)
  have q1 := convB c1 rfl (hr1.below hb2 |>.below hb3 |>.below hb34 |>.below hb5 |>.below hb6)
  have q2 := convB c2 rfl (hr2.below hb3 |>.below hb34 |>.below hb5 |>.below hb6)
  have f0 := hU6.cell (j := 0) rfl
  have f1 := hU6.cell (j := 1) rfl
  clear y0 y1
  go_wp2_with fail
  go_fit (rsames_any K D3 X.length dc3 X K D5 X.length dc5 X _ rfl rfl (rX3.below hb34 |>.below hb5 |>.below hb6) (rX5.below hb6))
  rw [eqR_self]
  rintro x w7 ⟨rfl, hb7⟩
  have hb07 := hb06.trans (hb7.mono hb06.size)
  go_wp2_with fail
  go_fit (awake04_any w7)
  rintro x w8 ⟨rfl, hb8⟩
  go_wp2
  go_ret
  exact ⟨by simp, hb07.trans (hb8.mono hb07.size)⟩
end Go.Proofs.Ytabglphiafeheaa
