/- Package sector: Write, where all is well. -/
import Derived.Test.YtdianokikhggnaaF08f
namespace Go.Proofs.Ytdianokikhggnaa
set_option maxRecDepth 20000
open Go.RowKit Go.Px Go.Maps
set_option linter.unusedVariables false
section
variable {w : World} {Q : Nat → Prop} {t f lm bm : Nat} {d : Dk}
theorem secB_len {S : Nat} {b : List UInt8} {k : Nat} (h : (k + 1) * S ≤ b.length) : (secB S b k).length = S := by
  unfold secB; rw [List.length_take, List.length_drop]; rw [Nat.succ_mul] at h; omega
theorem Dk.writeE_ok {i : Int} {b : List UInt8} (h : d.writeE i b = 0) : b.length % d.size = 0 ∧ d.inR i ((b.length / d.size : Nat) : Int) ∧ d.burnE = 0 := by
  unfold Dk.writeE at h
  by_cases h0 : b.length % d.size ≠ 0
  · rw [if_pos h0] at h; cases h
  · rw [if_neg h0] at h
    by_cases h1 : d.inR i ((b.length / d.size : Nat) : Int)
    · rw [if_pos h1] at h; exact ⟨by omega, h1, h⟩
    · rw [if_neg h1] at h; cases h
set_option maxHeartbeats 1600000 in
theorem write08_ok (h : DIs w Q t f lm bm d) (hQ : ∀ b, w.heap.size ≤ b → Q b) (i : Int) (A : Option Addr) (m c : Nat) (b : List UInt8) (hm : b.length = m) (hmc : m ≤ c) (hc : c ≤ 9223372036854775807) (hrb : Rd w A (bys b)) (hA : bys b ≠ [] → ∀ a, A = some a → ¬ OwnB t f lm bm a.block) (he : d.writeE i b = 0) :
    Calls Try.prog 15 #[.pointer (some ⟨t, 0, none⟩), .int .i64 i, .slice A m c] w fun e w' => e = .returned (.int .i64 0) ∧ DIs w' Q t f lm bm (d.write i b) ∧ Fr (OwnB t f lm bm) w w' := by
  obtain ⟨cc, b1, _⟩ := h.blk
  have x0 := b1.cell (j := 0) rfl
  have x1 := b1.cell (j := 1) rfl
  have hN := h.ok.n2
  have hs1 := h.ok.s1
  have hs2 := h.ok.s2
  have HM := hide (made08_any h)
  have hBU := burn08_any h
  obtain ⟨hr0, hin, hbe⟩ := Dk.writeE_ok he
  rw [hbe] at hBU
  have HBU := hide hBU
  have hwr : d.write i b = d.burnt.lay i.toNat b (b.length / d.size) := by unfold Dk.write; rw [if_pos he]
  obtain ⟨hb1, hb2, hb3, hb4⟩ := d.burnt_same
  obtain ⟨g1, g2, g3, g4⟩ := hin
  obtain ⟨I, rfl⟩ : ∃ I : Nat, i = (I : Int) := ⟨i.toNat, by omega⟩
  rw [Int.toNat_natCast] at hwr
  have hlts := h.lts
  have HO := hide h.out
  obtain ⟨d', hd'⟩ : ∃ d', d.burnt = d' := ⟨_, rfl⟩
  rw [hd'] at HBU hwr hb1 hb2
  obtain ⟨n, hn⟩ : ∃ n, m / d.size = n := ⟨_, rfl⟩
  rw [hm] at hr0 g2 g4 hwr
  rw [hn] at g2 g4 hwr
  rw [hwr]
  have hmn : m = n * d.size := by
    have := Nat.div_add_mod m d.size
    rw [hn, hr0, Nat.mul_comm] at this; omega
  obtain ⟨S, hSe⟩ : ∃ S, d.size = S := ⟨_, rfl⟩
  obtain ⟨N, hNe⟩ : ∃ N, d.fast.length = N := ⟨_, rfl⟩
  have hdS : d'.size = S := by rw [hb1, hSe]
  have hdN : d'.fast.length = N := by rw [hb2, hNe]
  rw [hNe] at g3 g4 hN x1
  rw [hSe] at hs1 hs2 x0 hr0 hn hmn
  have hS0 : (S : Int) ≠ 0 := by omega
  have hrem : ((m : Int).tmod (S : Int)) = 0 := by
    show ((m % S : Nat) : Int) = 0
    rw [hr0]; rfl
  have hquo : ((m : Int).tdiv (S : Int)) = (n : Int) := by
    show ((m / S : Nat) : Int) = _
    rw [hn]
  have hIn : I + n ≤ N := by omega
  have hw0 : IntKind.i64.wrap (n : Int) = (n : Int) := by rw [IntKind.wrap_i64]; omega
  have q1 : decide ((I : Int) < 0) = false := decide_eq_false (by omega)
  have q2 : decide (N < I) = false := decide_eq_false (by omega)
  have hw : IntKind.i64.wrap ((N : Int) - (I : Int)) = (N : Int) - (I : Int) := by rw [IntKind.wrap_i64]; omega
  have q3 : decide ((N : Int) - (I : Int) < (n : Int)) = false := decide_eq_false (by omega)
  have HQ := hide hQ
  have Hm := hide hm
  have Hmn := hide hmn
  have HdS := hide hdS
  have HdN := hide hdN
  have hmb : m ≤ 536870912 := by
    rw [hmn]
    have : n * S ≤ 65536 * 8192 := Nat.mul_le_mul (by omega) hs2
    omega
  clear h b1 hm hQ hr0 hn hmn hdS hdN hSe hNe he hBU hwr hb1 hb2 hb3 hb4 hbe hd' g1 g2 g3 g4
  go_enter Try.func15, Try.ntmps15
  go_wp2_with fail
  go_fit HM.out
  rintro x w1 ⟨rfl, rfl⟩
  go_wp2_with fail
  refine HBU.out.mono ?_
  rintro x w2 ⟨rfl, hD2, hF2, hz2⟩
  have hrb2 : Rd w2 A (bys b) := hrb.fr hF2 (fun hne a ha e => hA hne a ha (.inl e))
  have HCL := hide (clone_any A m c b w2 Hm.out (by omega) hrb2)
  have HD2 := hide hD2
  clear hrb2 hD2
  go_wp2_with fail
  go_fit HCL.out
  rintro x w3 ⟨v, rfl, hO3, hb3⟩
  obtain ⟨A3, c3, rfl, _, hc3, hcm3, hr3, ha3⟩ := own_out hO3
  have hD3 := HD2.out.below hb3
  have hF3 : Fr (OwnB t f lm bm) w w3 := (fr_own hF2 (.inl rfl)).trans (Fr.of_below hb3)
  unfold maxLen at hcm3
  clear HCL hO3
  go_wp2_with fail
  go_loopw [10, 11, 12, 61] (fun _ _ _ s61 W => ∃ p : Nat, s61 = .int .i64 (p : Int) ∧ p ≤ n ∧ DIs W Q t f lm bm (d'.lay I b p) ∧ Fr (OwnB t f lm bm) w W ∧ Rd W A3 (bys b)) (fun _ _ _ s _ => n - (RowKit.intOf s).toNat)
  case atStart => exact ⟨0, rfl, by omega, hD3, hF3, hr3⟩
  case round =>
    obtain ⟨p, rfl, hpn, hDp, hFp, hrp⟩ := hrel
    by_cases hlp : p < n
    · obtain ⟨a, ha⟩ : ∃ a, p * S = a := ⟨_, rfl⟩
      obtain ⟨a2, ha2⟩ : ∃ a2, (p + 1) * S = a2 := ⟨_, rfl⟩
      have haS : a2 = a + S := by rw [← ha, ← ha2, Nat.succ_mul]
      have ham : a2 ≤ m := by rw [← ha2, Hmn.out]; exact Nat.mul_le_mul_right _ hlp
      have hw5 : IntKind.i64.wrap ((p : Int) * (S : Int)) = (a : Int) := by rw [← Int.natCast_mul, ha, IntKind.wrap_i64]; omega
      have hw6 : IntKind.i64.wrap (((p : Int) + 1) * (S : Int)) = (a2 : Int) := by rw [show ((p : Int) + 1) = ((p + 1 : Nat) : Int) by omega, ← Int.natCast_mul, ha2, IntKind.wrap_i64]; omega
      have hw8 : IntKind.i64.wrap ((I : Int) + (p : Int)) = ((I + p : Nat) : Int) := by rw [IntKind.wrap_i64]; omega
      obtain ⟨cp, bp, _⟩ := hDp.blk
      have y0 := bp.cell (j := 0) rfl
      rw [(d'.lay_same I b p).1, HdS.out] at y0
      have haa : a ≤ a2 := by omega
      have hac : a2 ≤ c3 := by omega
      have hsub : a2 - a = S := by omega
      have Hsub := hide hsub
      have HaS := hide haS
      clear bp haS hsub
      go_wp2_with fail
      go_quiet (fail)
      have hbq : Below wr.heap.size wr (wr.drewN nq) := ⟨rfl, rfl, rfl, Nat.le_refl _, fun _ _ => rfl⟩
      obtain ⟨wd, hwd⟩ : ∃ y, wr.drewN nq = y := ⟨_, rfl⟩
      rw [hwd] at hbq ⊢
      have hDd := (hDp.below hbq).below (Below.refl _ _).drew
      have hFd := (hFp.trans (Fr.of_below hbq)).drew
      have hrd := hrp.below hbq
      have hrd' : Rd wd.drew A3 (bys b) := hrd
      have hpl : Rd wd.drew (cutA A3 a2 a 1) (bys (secB S b p)) := by
        have h0 := hrd'.take a2
        have h1 := h0.cutA (n := a2) (k := a) (cap := a2) (by rw [List.length_take]; omega) (by omega) (Nat.le_refl _)
        have h2 := h1.take S
        have e : bys (secB S b p) = (List.drop a (List.take a2 (bys b))).take S := by
          unfold secB
          rw [ha, bys_take, bys_drop, HaS.out, List.drop_take, Nat.add_sub_cancel_left, List.take_take, Nat.min_self]
        rw [e]; exact h2
      have hsl : (secB S b p).length = S := secB_len (by rw [ha2, Hm.out]; exact ham)
      obtain ⟨cq, bq, _⟩ := hDd.blk
      have z2 := bq.cell (j := 2) rfl
      have hkey : ((I + p : Nat) : Int) = (I : Int) + (p : Int) := by omega
      obtain ⟨w5, hput, hD5, hF5⟩ := hDd.put_lo (i := (I : Int) + (p : Int)) (by omega) (by rw [(d'.lay_same I b p).2.1, HdN.out]; omega) (A := cutA A3 a2 a 1) (n := a2 - a) (c := a2 - a) (bs := secB S b p) (by rw [hsl, (d'.lay_same I b p).1, HdS.out]) (by rw [hsl, Hsub.out]) (Nat.le_refl _) (by rw [Hsub.out]; omega) hpl (fun x hx => by
        have : w.heap.size ≤ x.block := by
          unfold cutA at hx
          split at hx
          · have := ha3 x hx; omega
          · rw [Option.map_eq_some_iff] at hx
            obtain ⟨y, hy, rfl⟩ := hx
            rw [add_block]
            have := ha3 y hy; omega
        exact HQ.out _ this)
      have hD5' : DIs w5 Q t f lm bm (d'.lay I b (p + 1)) := by
        show DIs w5 Q t f lm bm ((d'.lay I b p).putL ((I + p : Nat) : Int) (some (secB d'.size b p)))
        rw [hkey, HdS.out]; exact hD5
      have HD5 := hide hD5'
      have HF5 := hide (hFd.trans (fr_own hF5 (.inr (.inr (.inl rfl)))))
      have Hr5 := hide (hrd'.fr hF5 (fun _ x hx e => by have := ha3 x hx; omega))
      clear hD5 hD5' hF5 bq hDd hFd hrd hrd' hpl hDp hFp hrp y0 hwd hbq hkey hw8 ha ha2
      go_wp2_with fail
      go_region
      go_wp2
      go_roundw
      case rel => exact ⟨p + 1, by go_num, by omega, HD5.out, HF5.out, Hr5.out⟩
      case measure => simp [RowKit.intOf]; omega
    · have hpe : p = n := by omega
      subst hpe
      have HD := hide hDp
      have HF := hide hFp
      clear hDp hFp hrp
      go_wp2
      go_ret
      exact ⟨rfl, HD.out, HF.out⟩
end
end Go.Proofs.Ytdianokikhggnaa
