/- Among some: slices.Index, slices.Contains, In, Has. Equal rows: slices.Equal, Same, SameGroup, same. -/
import Derived.Test.YtnjleagikplbiaaF13c
namespace Go.Proofs.Ytnjleagikplbiaa
open Go.RowKit Go.Px
set_option linter.unusedVariables false

def inB (ms : List Int) (v : Int) : Bool := decide (v ∈ ms)
theorem inB_take {ms : List Int} {k : Nat} {v : Int} (h : k < ms.length) (h0 : inB (ms.take k) v = false) (hne : v ≠ ms[k]) : inB (ms.take (k + 1)) v = false := by
  unfold inB at *
  rw [List.take_succ_eq_append_getElem h]
  simp only [decide_eq_false_iff_not] at *
  intro hm
  rcases List.mem_append.1 hm with hm | hm
  · exact h0 hm
  · simp at hm; exact hne hm
theorem inB_here {ms : List Int} {k : Nat} (h : k < ms.length) : inB ms ms[k] = true := by
  unfold inB; exact decide_eq_true (List.getElem_mem h)
theorem inB_all {ms : List Int} {k : Nat} {v : Int} (h : ms.length ≤ k) (h0 : inB (ms.take k) v = false) : inB ms v = false := by
  rwa [List.take_of_length_le h] at h0
def IdxIs (b : Bool) (w : World) (e : Ending) (w' : World) : Prop := ∃ z : Int, e = .returned (.int .i64 z) ∧ decide (0 ≤ z) = b ∧ w = w'

set_option maxHeartbeats 400000 in
theorem index_any (A : Option Addr) (n c : Nat) (ms : List Int) (v : Int) (w : World) (hn : ms.length = n) (h63 : n ≤ 9223372036854775807) (hr : Rd w A (ints ms)) :
    Calls Try.prog 40 #[.slice A n c, .int .i64 v] w (IdxIs (inB ms v) w) := by
  have Hn := hide hn
  clear hn
  go_enter Try.func40, Try.ntmps40
  go_wp2
  go_loop [8] (fun i => ∃ k : Nat, k ≤ n ∧ i = .int .i64 k ∧ Hid (inB (ms.take k) v = false)) (fun i => n - (intOf i).toNat)
  case atStart => exact ⟨0, by omega, rfl, by unfold inB; exact hide (by simp)⟩
  case round =>
    obtain ⟨k, hk, rfl, hN⟩ := hrel
    by_cases hlt : k < n
    · have hkl : k < ms.length := by rw [Hn.out]; exact hlt
      obtain ⟨a, ha, hc⟩ := hr k _ (ints_get hkl)
      obtain ⟨y, hy⟩ : ∃ y, ms[k] = y := ⟨_, rfl⟩
      rw [hy] at hc
      subst ha
      by_cases hv : v = y
      · subst hv
        have HB := hide (show inB ms v = true by have := inB_here hkl; rwa [hy] at this)
        clear hy
        go_wp2
        go_ret
        exact ⟨(k : Int), rfl, by rw [HB.out]; simp, rfl⟩
      · have HB := hide (inB_take hkl hN.out (by rw [hy]; exact hv))
        have q1 : (v == y) = false := beq_false_of_ne hv
        clear hy hv
        go_wp2
        go_round
        case rel => exact ⟨k + 1, by omega, by go_num, HB⟩
        case measure => simp [intOf]; omega
    · have HB := hide (inB_all (show ms.length ≤ k by rw [Hn.out]; omega) hN.out)
      go_wp2
      go_ret
      exact ⟨-1, rfl, by rw [HB.out]; simp, rfl⟩
theorem contains_any (A : Option Addr) (n c : Nat) (ms : List Int) (v : Int) (w : World) (hn : ms.length = n) (h63 : n ≤ 9223372036854775807) (hr : Rd w A (ints ms)) :
    Calls Try.prog 29 #[.slice A n c, .int .i64 v] w fun e w' => e = .returned (.bool (inB ms v)) ∧ w = w' := by
  have HI := hide (index_any A n c ms v w hn h63 hr)
  clear hn
  go_enter Try.func29, Try.ntmps29
  go_wp2_with fail
  refine HI.out.mono ?_
  rintro e w' ⟨z, rfl, hz, rfl⟩
  have Hz := hide hz
  clear hz
  go_wp2
  go_ret
  exact ⟨by rw [← Hz.out]; rfl, rfl⟩
set_option maxHeartbeats 400000 in
theorem rin_any (A : Option Addr) (n c : Nat) (ms : List Int) (v : Int) (w : World) (hn : ms.length = n) (h63 : n ≤ 9223372036854775807) (hr : Rd w A (ints ms)) :
    Calls Try.prog 14 #[.slice A n c, .int .i64 v] w fun e w' => e = .returned (.bool (inB ms v)) ∧ w = w' := by
  have Hn := hide hn
  clear hn
  go_enter Try.func14, Try.ntmps14
  go_wp2
  go_loop [5] (fun i => ∃ k : Nat, k ≤ n ∧ i = .int .i64 k ∧ Hid (inB (ms.take k) v = false)) (fun i => n - (intOf i).toNat)
  case atStart => exact ⟨0, by omega, rfl, by unfold inB; exact hide (by simp)⟩
  case round =>
    obtain ⟨k, hk, rfl, hN⟩ := hrel
    by_cases hlt : k < n
    · have hkl : k < ms.length := by rw [Hn.out]; exact hlt
      obtain ⟨a, ha, hc⟩ := hr k _ (ints_get hkl)
      obtain ⟨y, hy⟩ : ∃ y, ms[k] = y := ⟨_, rfl⟩
      rw [hy] at hc
      subst ha
      by_cases hv : y = v
      · subst hv
        have HB := hide (show inB ms y = true by have := inB_here hkl; rwa [hy] at this)
        clear hy
        go_wp2
        go_ret
        exact ⟨by rw [HB.out]; rfl, rfl⟩
      · have HB := hide (inB_take hkl hN.out (by rw [hy]; exact fun h => hv h.symm))
        have q1 : (y == v) = false := beq_false_of_ne hv
        clear hy hv
        go_wp2
        go_round
        case rel => exact ⟨k + 1, by omega, by go_num, HB⟩
        case measure => simp [intOf]; omega
    · have HB := hide (inB_all (show ms.length ≤ k by rw [Hn.out]; omega) hN.out)
      go_wp2
      go_ret
      exact ⟨by rw [HB.out]; rfl, rfl⟩
theorem has_any (e : Int) (A : Option Addr) (n c : Nat) (ms : List Int) (v : Int) (w : World) (hn : ms.length = n) (h63 : n ≤ 9223372036854775807) (hr : Rd w A (ints ms)) :
    Calls Try.prog 13 #[grp e A n c, .int .i64 v] w fun x w' => x = .returned (.bool (inB ms v)) ∧ Below w.heap.size w w' := by
  have hb0 : Below w.heap.size w (w.alloc (.cells #[.int .i64 e, .slice A n c] 24)) := (Below.refl _ _).alloc (Nat.le_refl _) _
  have HC := hide (contains_any A n c ms v _ hn h63 (hr.below hb0))
  clear hn
  go_enter Try.func13, Try.ntmps13
  go_wp2_with fail
  refine HC.out.mono ?_
  rintro x w' ⟨rfl, rfl⟩
  go_wp2
  go_ret
  exact ⟨rfl, hb0⟩

/-! ### equal rows -/
def eqB (a b : List Int) : Bool := decide (a = b)
theorem eqB_len {a b : List Int} (h : a.length ≠ b.length) : eqB a b = false := decide_eq_false (fun e => h (by rw [e]))
theorem eqB_self (a : List Int) : eqB a a = true := decide_eq_true rfl
theorem eqB_ne {a b : List Int} {k : Nat} (ha : k < a.length) (hb : k < b.length) (h : a[k] ≠ b[k]) : eqB a b = false :=
  decide_eq_false (fun e => h (by subst e; rfl))
theorem eq_take {a b : List Int} {k : Nat} (ha : k < a.length) (hb : k < b.length) (h0 : a.take k = b.take k) (h : a[k] = b[k]) : a.take (k + 1) = b.take (k + 1) := by
  rw [List.take_succ_eq_append_getElem ha, List.take_succ_eq_append_getElem hb, h0, h]
theorem eqB_all {a b : List Int} {k : Nat} (ha : a.length ≤ k) (hb : b.length ≤ k) (h0 : a.take k = b.take k) : eqB a b = true := by
  rw [List.take_of_length_le ha, List.take_of_length_le hb] at h0
  exact decide_eq_true h0

set_option maxHeartbeats 800000 in
theorem equal_any (A : Option Addr) (n c : Nat) (xs : List Int) (B : Option Addr) (m d : Nat) (ys : List Int) (w : World) (hn : xs.length = n) (hm : ys.length = m) (h63 : n ≤ 9223372036854775807) (h63' : m ≤ 9223372036854775807) (hr : Rd w A (ints xs)) (hs : Rd w B (ints ys)) :
    Calls Try.prog 30 #[.slice A n c, .slice B m d] w fun e w' => e = .returned (.bool (eqB xs ys)) ∧ Below w.heap.size w w' := by
  by_cases hnm : n = m
  · subst hnm
    have Hn := hide hn
    have Hm := hide hm
    clear hn hm
    go_enter Try.func30, Try.ntmps30
    go_wp2
    go_loopw [13] (fun i wr => ∃ k : Nat, k ≤ n ∧ i = .int .i64 k ∧ Hid (xs.take k = ys.take k) ∧ Below w.heap.size w wr) (fun i _ => n - (intOf i).toNat)
    case atStart => exact ⟨0, by omega, rfl, hide (by simp), Below.refl _ _⟩
    case round =>
      obtain ⟨k, hk, rfl, hN, hbw⟩ := hrel
      by_cases hlt : k < n
      · have hkl : k < xs.length := by rw [Hn.out]; exact hlt
        have hkm : k < ys.length := by rw [Hm.out]; exact hlt
        obtain ⟨a, ha, hc⟩ := hr.below hbw k _ (ints_get hkl)
        obtain ⟨b, hb, hd⟩ := hs.below hbw k _ (ints_get hkm)
        obtain ⟨x, hx⟩ : ∃ x, xs[k] = x := ⟨_, rfl⟩
        obtain ⟨y, hy⟩ : ∃ y, ys[k] = y := ⟨_, rfl⟩
        rw [hx] at hc
        rw [hy] at hd
        subst ha hb
        by_cases hv : x = y
        · have HB := hide (eq_take hkl hkm hN.out (by rw [hx, hy]; exact hv))
          have q1 : (x != y) = false := by simp [hv]
          clear hx hy hv
          go_wp2
          go_quiet (fail)
          all_goals
            go_wp2
            go_roundw
            case rel => exact ⟨k + 1, by omega, by go_num, HB, below_drewN hbw _⟩
            case measure => simp [intOf]; omega
        · have HB := hide (eqB_ne hkl hkm (by rw [hx, hy]; exact hv))
          have q1 : (x != y) = true := by simp [hv]
          clear hx hy hv
          go_wp2
          go_quiet (fail)
          all_goals
            go_wp2
            go_ret
            exact ⟨by rw [HB.out]; rfl, below_drewN hbw _⟩
      · have HB := hide (eqB_all (show xs.length ≤ k by rw [Hn.out]; omega) (show ys.length ≤ k by rw [Hm.out]; omega) hN.out)
        go_wp2
        go_ret
        exact ⟨by rw [HB.out]; rfl, hbw⟩
  · have HB := hide (eqB_len (a := xs) (b := ys) (by rw [hn, hm]; exact hnm))
    have q1 : ((n : Int) != (m : Int)) = true := by simp; omega
    clear hn hm
    go_enter Try.func30, Try.ntmps30
    go_wp2
    go_ret
    exact ⟨by rw [HB.out]; rfl, Below.refl _ _⟩
end Go.Proofs.Ytnjleagikplbiaa
