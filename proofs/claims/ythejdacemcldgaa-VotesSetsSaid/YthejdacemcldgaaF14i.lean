/- Stage 14: the document's Reached. -/
import Derived.Test.YthejdacemcldgaaF14a
import Derived.Test.YthejdacemcldgaaF13c
import Derived.Test.YthejdacemcldgaaM13r
namespace Go.Proofs.Ythejdacemcldgaa
set_option maxRecDepth 20000
open Go.RowKit Go.Px
set_option linter.unusedVariables false
theorem reachN_step {ms : List Int} {k : Nat} (h : k < ms.length) (l : List Int) : reachN (ms.take (k + 1)) l = reachN (ms.take k) l + (if inB l ms[k] = true then 1 else 0) := by
  unfold reachN among
  rw [List.take_succ_eq_append_getElem h, List.map_append, List.count_append]
  cases h : inB l ms[k] <;> simp [h]
theorem reachN_le (ms l : List Int) : reachN ms l ≤ ms.length := by
  unfold reachN
  have := List.count_le_length (a := true) (l := among ms l)
  rw [among_length] at this
  exact this
set_option maxHeartbeats 1600000 in
theorem rreached_any (e : Int) (A : Option Addr) (n c : Nat) (ms : List Int) (B : Option Addr) (m d : Nat) (l : List Int) (w : World) (hn : ms.length = n) (hm : l.length = m) (h63 : n ≤ 1000000) (h64 : m ≤ 1000000) (hr : Rd w A (ints ms)) (hs : Rd w B (ints l)) :
    Calls Try.prog 18 #[grp e A n c, .slice B m d] w fun x w' => x = .returned (.bool (reachB ms l)) ∧ Below w.heap.size w w' := by
  have Hn := hide hn
  have Hm := hide hm
  clear hn hm
  obtain ⟨w0, hw0⟩ : ∃ y, w.alloc (.cells #[.int .i64 e, .slice A n c] 34) = y := ⟨_, rfl⟩
  have hb0 : Below w.heap.size w w0 := by rw [← hw0]; exact (Below.refl _ _).alloc (Nat.le_refl _) _
  have B0 : Blk w0 w.heap.size [.int .i64 e, .slice A n c] 34 := by rw [← hw0]; exact Blk.new w [.int .i64 e, .slice A n c] _
  have Hw0 := hide hw0
  have z0 := B0.cell (j := 0) rfl
  have z1 := B0.cell (j := 1) rfl
  have hr0 := hr.below hb0
  have hs0 := hs.below hb0
  clear hw0 B0
  go_enter Try.func18, Try.ntmps18
  go_wp2_with fail
  rw [Hw0.out]
  go_loop [5, 6] (fun s5 s6 => ∃ (k q : Nat), s6 = .int .i64 (k : Int) ∧ s5 = .int .i64 (q : Int) ∧ k ≤ n ∧ q ≤ k ∧ Hid (reachN (ms.take k) l = q)) (fun _ s => n - (intOf s).toNat)
  case atStart => exact ⟨0, 0, rfl, rfl, Nat.zero_le _, Nat.le_refl _, hide rfl⟩
  case round =>
    obtain ⟨k, q, rfl, rfl, hk, hq, HR⟩ := hrel
    by_cases hlt : k < n
    · have hkl : k < ms.length := by rw [Hn.out]; exact hlt
      obtain ⟨a, rfl, hc⟩ := hr0 k _ (ints_get hkl)
      obtain ⟨x, hx⟩ : ∃ x, ms[k] = x := ⟨_, rfl⟩
      have hst := reachN_step hkl l
      rw [hx] at hc hst
      rw [HR.out] at hst
      have HST := hide hst
      have HI := hide (rin_any B m d l x w0 Hm.out (by omega) hs0)
      clear hx hst HR hkl
      go_wp2_with fail
      go_fit HI.out
      rintro y w1 ⟨rfl, rfl⟩
      cases hb : inB l x with
      | true =>
        have HB := hide (show reachN (ms.take (k + 1)) l = q + 1 by rw [HST.out, hb]; rfl)
        clear hb HST
        go_wp2
        go_round
        case rel => exact ⟨k + 1, q + 1, by go_num, by go_num, by omega, by omega, HB⟩
        case measure => simp [intOf]; omega
      | false =>
        have HB := hide (show reachN (ms.take (k + 1)) l = q by rw [HST.out, hb]; rfl)
        clear hb HST
        go_wp2
        go_round
        case rel => exact ⟨k + 1, q, by go_num, by go_num, by omega, by omega, HB⟩
        case measure => simp [intOf]; omega
    · have hR : reachN ms l = q := by
        have h0 := HR.out
        rwa [List.take_of_length_le (by rw [Hn.out]; omega)] at h0
      have hQ := rquorum_any e A n c w0 (by omega)
      obtain ⟨N, hN⟩ : ∃ y, n / 2 + 1 = y := ⟨_, rfl⟩
      have hB : reachB ms l = decide (N ≤ q) := by unfold reachB; rw [hR, Hn.out, hN]
      rw [hN] at hQ
      have HQ := hide hQ
      have HB := hide hB
      clear hR HR hQ hB hN
      go_wp2_with fail
      go_fit HQ.out
      rintro y w1 ⟨rfl, hb1⟩
      go_wp2
      go_ret
      exact ⟨by rw [HB.out]; rfl, hb0.trans (hb1.mono hb0.size)⟩
end Go.Proofs.Ythejdacemcldgaa
