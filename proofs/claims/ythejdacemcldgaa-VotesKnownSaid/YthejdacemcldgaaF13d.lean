/- Among some: slices.Index, slices.Contains, In, Has. Equal rows: slices.Equal, Same, SameGroup, same. -/
import Derived.Test.YthejdacemcldgaaF13c
namespace Go.Proofs.Ythejdacemcldgaa
set_option maxRecDepth 20000
open Go.RowKit Go.Px
set_option linter.unusedVariables false

def inB (ms : List Int) (v : Int) : Bool := decide (v ∈ ms)
theorem inB_take {ms : List Int} {k : Nat} {v : Int} (h : k < ms.length) (h0 : inB (ms.take k) v = false) (hne : v ≠ ms[k]) : inB (ms.take (k + 1)) v = false := by
  unfold inB at *
  rw [List.take_succ_eq_append_getElem h]
  simp only [decide_eq_false_iff_not] at *
  intro hm
  rcases List.mem_append.1 hm with hm | hm
  · exact h0 hm
  · simp at hm; exact hne hm
theorem inB_here {ms : List Int} {k : Nat} (h : k < ms.length) : inB ms ms[k] = true := by
  unfold inB; exact decide_eq_true (List.getElem_mem h)
theorem inB_all {ms : List Int} {k : Nat} {v : Int} (h : ms.length ≤ k) (h0 : inB (ms.take k) v = false) : inB ms v = false := by
  rwa [List.take_of_length_le h] at h0
def IdxIs (b : Bool) (w : World) (e : Ending) (w' : World) : Prop := ∃ z : Int, e = .returned (.int .i64 z) ∧ decide (0 ≤ z) = b ∧ w = w'

set_option maxHeartbeats 400000 in
theorem rin_any (A : Option Addr) (n c : Nat) (ms : List Int) (v : Int) (w : World) (hn : ms.length = n) (h63 : n ≤ 9223372036854775807) (hr : Rd w A (ints ms)) :
    Calls Try.prog 20 #[.slice A n c, .int .i64 v] w fun e w' => e = .returned (.bool (inB ms v)) ∧ w = w' := by
  have Hn := hide hn
  clear hn
  go_enter Try.func20, Try.ntmps20
  go_wp2
  go_loop [5] (fun i => ∃ k : Nat, k ≤ n ∧ i = .int .i64 k ∧ Hid (inB (ms.take k) v = false)) (fun i => n - (intOf i).toNat)
  case atStart => exact ⟨0, by omega, rfl, by unfold inB; exact hide (by simp)⟩
  case round =>
    obtain ⟨k, hk, rfl, hN⟩ := hrel
    by_cases hlt : k < n
    · have hkl : k < ms.length := by rw [Hn.out]; exact hlt
      obtain ⟨a, ha, hc⟩ := hr k _ (ints_get hkl)
      obtain ⟨y, hy⟩ : ∃ y, ms[k] = y := ⟨_, rfl⟩
      rw [hy] at hc
      subst ha
      by_cases hv : y = v
      · subst hv
        have HB := hide (show inB ms y = true by have := inB_here hkl; rwa [hy] at this)
        clear hy
        go_wp2
        go_ret
        exact ⟨by rw [HB.out]; rfl, rfl⟩
      · have HB := hide (inB_take hkl hN.out (by rw [hy]; exact fun h => hv h.symm))
        have q1 : (y == v) = false := beq_false_of_ne hv
        clear hy hv
        go_wp2
        go_round
        case rel => exact ⟨k + 1, by omega, by go_num, HB⟩
        case measure => simp [intOf]; omega
    · have HB := hide (inB_all (show ms.length ≤ k by rw [Hn.out]; omega) hN.out)
      go_wp2
      go_ret
      exact ⟨by rw [HB.out]; rfl, rfl⟩
/-! ### equal rows -/
def eqB (a b : List Int) : Bool := decide (a = b)
theorem eqB_len {a b : List Int} (h : a.length ≠ b.length) : eqB a b = false := decide_eq_false (fun e => h (by rw [e]))
theorem eqB_self (a : List Int) : eqB a a = true := decide_eq_true rfl
theorem eqB_ne {a b : List Int} {k : Nat} (ha : k < a.length) (hb : k < b.length) (h : a[k] ≠ b[k]) : eqB a b = false :=
  decide_eq_false (fun e => h (by subst e; rfl))
theorem eq_take {a b : List Int} {k : Nat} (ha : k < a.length) (hb : k < b.length) (h0 : a.take k = b.take k) (h : a[k] = b[k]) : a.take (k + 1) = b.take (k + 1) := by
  rw [List.take_succ_eq_append_getElem ha, List.take_succ_eq_append_getElem hb, h0, h]
theorem eqB_all {a b : List Int} {k : Nat} (ha : a.length ≤ k) (hb : b.length ≤ k) (h0 : a.take k = b.take k) : eqB a b = true := by
  rw [List.take_of_length_le ha, List.take_of_length_le hb] at h0
  exact decide_eq_true h0

end Go.Proofs.Ythejdacemcldgaa
