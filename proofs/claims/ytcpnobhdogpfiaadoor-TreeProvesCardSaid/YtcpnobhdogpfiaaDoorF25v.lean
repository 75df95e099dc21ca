/- Proofs: the document's Proved. -/
import Derived.Test.YtcpnobhdogpfiaaDoorF25u
import Derived.Test.YtcpnobhdogpfiaaDoorF25i
import Derived.Deep.DeepFit
namespace Go.Proofs.YtcpnobhdogpfiaaDoor
set_option maxRecDepth 20000
open Go.RowKit Go.Px
set_option linter.unusedVariables false
theorem min4_int {N I a : Nat} (h : a = I / 4) (hI : I < N) : min 4 ((N : Int) - (a : Int) * 4) = ((min 4 (N - a * 4) : Nat) : Int) := by omega
set_option maxRecDepth 100000 in
set_option maxHeartbeats 6400000 in
theorem rproved_main (root N0 d0 P0 : Nat) (A : Option Addr) (n c : Nat) (rows : List (List Nat)) (w : World) {Q : Nat → Prop} (hT : tyTree.Is w Q rows [.slice A n c]) (hd : d0 < 4294967296) (hroot : root < 4294967296) (hPN : P0 < N0) (hN : N0 ≤ 4096) :
    Calls Tryd.prog 37 #[.int .u32 (root : Int), .int .i64 (N0 : Int), .int .u32 (d0 : Int), .agg #[.int .i64 P0, .slice A n c]] w fun e w' => e = .returned (.int .i64 (if prvD 6 N0 P0 d0 rows = some root then 0 else 251)) ∧ Below w.heap.size w w' := by
  obtain ⟨T, hTT⟩ : ∃ T, prvD 6 N0 P0 d0 rows = T := ⟨_, rfl⟩
  rw [hTT]
  have HT := hide hTT
  obtain ⟨U, hU⟩ : ∃ U, (if T = some root then (0 : Int) else 251) = U := ⟨_, rfl⟩
  rw [hU]
  have HU := hide hU
  obtain ⟨w0, hw0⟩ : ∃ x, w.alloc (.cells #[.int .i64 P0, .slice A n c] 58) = x := ⟨_, rfl⟩
  have hb0 : Below w.heap.size w w0 := by rw [← hw0]; exact (Below.refl _ _).alloc (Nat.le_refl _) _
  have B7 : Blk w0 w.heap.size [.int .i64 P0, .slice A n c] 58 := by rw [← hw0]; exact Blk.new w [.int .i64 P0, .slice A n c] _
  obtain ⟨p, pA, pn, pc, vs, rfl, hpe, hl1, hc1, hm1, hr1, _, he1⟩ := Tree_out (hT.below hb0)
  simp only [List.cons.injEq, Value.slice.injEq, and_true] at hpe
  obtain ⟨rfl, rfl, rfl⟩ := hpe
  have Hl := hide hl1
  have Hw0 := hide hw0
  have q2 : decide (N0 ≤ P0) = false := decide_eq_false (by omega)
  have q3 : decide ((N0 : Int) < 1) = false := decide_eq_false (by omega)
  have q4 : decide ((4096 : Int) < (N0 : Int)) = false := decide_eq_false (by omega)
  have q5 : decide ((P0 : Int) < 0) = false := decide_eq_false (by omega)
  clear hw0 hT hTT hU hl1
  go_enter Tryd.func37, Tryd.ntmps37
  go_wp2_with fail
  rw [Hw0.out]
  clear q2 q3 q4 q5
  go_loopw [1, 2, 9, 10, 11] (fun sN sD sI sK sF wr => ∃ f N I K D : Nat, sN = .int .i64 N ∧ sD = .int .u32 D ∧ sI = .int .i64 I ∧ sK = .int .i64 K ∧ N ≤ 4 ^ f ∧ N ≤ 4096 ∧ I < N ∧ K ≤ n ∧ D < 4294967296 ∧ Hid (prvD f N I D (rows.drop K) = T) ∧ Below w0.heap.size w0 wr) (fun sN _ _ _ _ _ => (intOf sN).toNat)
  case atStart => exact ⟨6, N0, P0, 0, d0, rfl, rfl, rfl, rfl, Nat.le_trans hN (by decide), hN, hPN, by omega, hd, hide HT.out, Below.refl _ _⟩
  case round =>
    obtain ⟨f, N, I, K, D, rfl, rfl, rfl, rfl, hNf, hN4, hIN, hKn, hD, hP, hbw⟩ := hrel
    have E7 := B7.below hbw
    have d70 := E7.cell (j := 0) rfl
    have d71 := E7.cell (j := 1) rfl
    have hbf := hb0.trans (hbw.mono hb0.size)
    by_cases hlt : 1 < N
    · obtain ⟨f', rfl⟩ : ∃ f', f = f' + 1 := ⟨f - 1, by
        cases f with
        | zero => simp at hNf; omega
        | succ f => rfl⟩
      obtain ⟨I4, hI4⟩ : ∃ I4, I4 = I / 4 := ⟨_, rfl⟩
      obtain ⟨J, hJ⟩ : ∃ J, J = I % 4 := ⟨_, rfl⟩
      obtain ⟨M, hM⟩ : ∃ M, M = min 4 (N - I4 * 4) := ⟨_, rfl⟩
      have e1 : (I : Int) / 4 = (I4 : Int) := by omega
      have e2 : (I : Int) - (I4 : Int) * 4 = (J : Int) := by omega
      have e3 : min 4 ((N : Int) - (I4 : Int) * 4) = (M : Int) := by rw [min4_int hI4 hIN, hM]
      have hJM : J < M := by omega
      by_cases hk : K < n
      · have qk : decide (n ≤ K) = false := decide_eq_false (by omega)
        have hkl : K < rows.length := by rw [Hl.out]; exact hk
        obtain ⟨B, m, hv, hm2, hm3, hrl, _, hbl⟩ := rows32_at (he1.below hbw) hkl
        obtain ⟨a, ha, hc⟩ := hr1.below hbw K _ hv
        subst ha
        have hdrop : rows.drop K = rows[K] :: rows.drop (K + 1) := List.drop_eq_getElem_cons hkl
        obtain ⟨r, hr⟩ : ∃ r, rows[K] = r := ⟨_, rfl⟩
        rw [hr] at hc hm2 hrl hbl hdrop
        have HP := hide hP.out
        rw [hdrop] at HP
        obtain ⟨R, hR⟩ : ∃ R, r.length = R := ⟨_, rfl⟩
        rw [hR] at hc hm2
        have HR := hide hR
        have HJ := hide (And.intro hI4 (And.intro hJ hM))
        clear hv hr hdrop hR hI4 hJ hM hP
        by_cases hlen : R = M
        · subst hlen
          have hJl : J < r.length := by rw [HR.out]; exact hJM
          obtain ⟨y, hy⟩ : ∃ y, r[J] = y := ⟨_, rfl⟩
          obtain ⟨b, hbe, hcb⟩ := hrl J _ (u32s_get hJl)
          subst hbe
          rw [hy] at hcb
          have hyq : r[J]? = some y := by rw [List.getElem?_eq_getElem hJl, hy]
          have Hy := hide hyq
          clear hy hyq
          by_cases hyD : y = D
          · have HN := hide (show prvD f' (upN N) (I / 4) (rowD r) (rows.drop (K + 1)) = T by
              have h := HP.out
              rw [prvD_yes hlt (by rw [HR.out, HJ.out.2.2, HJ.out.1]) (by rw [← HJ.out.2.1, Hy.out, hyD])] at h
              exact h)
            have q1 : ((y : Int) != (D : Int)) = false := by simp [hyD]
            have HRW := hide (rrow_any (some b) R m r wr HR.out (by omega) hrl hbl)
            have hrd : rowD r < 4294967296 := rowD_lt r
            obtain ⟨z, hz⟩ : ∃ z, rowD r = z := ⟨_, rfl⟩
            rw [hz] at HRW HN hrd
            clear hyD hz hrl hbl
            go_wp2_with fail
            all_goals
              go_fit HRW.out
              rintro e w2 ⟨rfl, hb2⟩
              go_wp2_with fail
              go_roundw
              case rel => exact ⟨f', upN N, I / 4, K + 1, z, by unfold upN; congr 1; omega, rfl, by rw [HJ.out.1], by go_num, upN_pow hNf, by unfold upN; omega, by unfold upN; omega, by omega, hrd, HN, hbw.trans (hb2.mono hbw.size)⟩
              case measure => simp [intOf]; omega
          · have q1 : ((y : Int) != (D : Int)) = true := by simp; omega
            have hno := HP.out
            rw [prvD_no hlt (by rw [← HJ.out.2.1, Hy.out]; intro h; exact hyD (by have := h.2; injection this))] at hno
            have HUU : Hid (U = 251) := hide (by rw [← HU.out, ← hno]; simp)
            clear hyD hno hrl hbl
            go_wp2_with fail
            all_goals
              go_ret
              exact ⟨by rw [HUU.out]; rfl, hbf⟩
        · have hno := HP.out
          rw [prvD_no hlt (by rw [HR.out]; intro h; exact hlen (by rw [h.1, HJ.out.2.2, HJ.out.1]))] at hno
          have HUU : Hid (U = 251) := hide (by rw [← HU.out, ← hno]; simp)
          have hM := HJ.out.2.2
          rcases (show (4 ≤ N - I4 * 4 ∧ M = 4) ∨ (N - I4 * 4 < 4 ∧ M = N - I4 * 4) by omega) with ⟨h4, hM4⟩ | ⟨h4, hM4⟩
          · have q1 : ((R : Int) != 4) = true := by simp; omega
            have h4' : (4 : Int) ≤ (N : Int) - (I4 : Int) * 4 := by omega
            clear hlen hno hrl hbl e3 hM hM4 h4 hJM
            go_wp2_with fail
            all_goals
              first
              | (go_ret
                 exact ⟨by rw [HUU.out]; rfl, hbf⟩)
              | (exfalso; omega)
          · have q1 : ((R : Int) != (N : Int) - (I4 : Int) * 4) = true := by simp; omega
            have h4' : (N : Int) - (I4 : Int) * 4 < 4 := by omega
            clear hlen hno hrl hbl e3 hM hM4 h4 hJM
            go_wp2_with fail
            all_goals
              first
              | (go_ret
                 exact ⟨by rw [HUU.out]; rfl, hbf⟩)
              | (exfalso; omega)
      · have hno := hP.out
        rw [List.drop_eq_nil_of_le (by rw [Hl.out]; omega), prvD_nil hlt] at hno
        have HUU : Hid (U = 251) := hide (by rw [← HU.out, ← hno]; simp)
        have hk' : n ≤ K := by omega
        clear hk hno hI4 hJ hM
        go_wp2_with fail
        go_ret
        exact ⟨by rw [HUU.out]; rfl, hbf⟩
    · have hone := hP.out
      rw [prvD_one f (by omega)] at hone
      by_cases hK : K = n
      · rw [if_pos (List.drop_eq_nil_of_le (by rw [Hl.out]; omega))] at hone
        by_cases hDr : D = root
        · have HUU : Hid (U = 0) := hide (by rw [← HU.out, ← hone, hDr]; simp)
          subst hDr hK
          clear hone
          go_wp2_with fail
          all_goals
            go_ret
            exact ⟨by rw [HUU.out]; rfl, hbf⟩
        · have HUU : Hid (U = 251) := hide (by rw [← HU.out, ← hone]; simp [hDr])
          have q1 : ((D : Int) != (root : Int)) = true := by simp; omega
          subst hK
          clear hone hDr
          go_wp2_with fail
          all_goals
            go_ret
            exact ⟨by rw [HUU.out]; rfl, hbf⟩
      · rw [if_neg (by intro h; have h2 := List.drop_eq_nil_iff.1 h; rw [Hl.out] at h2; omega)] at hone
        have HUU : Hid (U = 251) := hide (by rw [← HU.out, ← hone]; simp)
        have q1 : ((K : Int) != (n : Int)) = true := by simp; omega
        clear hone hK
        go_wp2_with fail
        go_ret
        exact ⟨by rw [HUU.out]; rfl, hbf⟩
end Go.Proofs.YtcpnobhdogpfiaaDoor
