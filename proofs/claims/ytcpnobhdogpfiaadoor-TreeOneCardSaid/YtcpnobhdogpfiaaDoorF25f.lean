/- Package tree: equal rows, Same, Make of any digests, Check, place. -/
import Derived.Test.YtcpnobhdogpfiaaDoorF25e
namespace Go.Proofs.YtcpnobhdogpfiaaDoor
set_option maxRecDepth 20000
open Go.RowKit Go.Px
set_option linter.unusedVariables false
section
variable {α : Type} [DecidableEq α]
def eqL (a b : List α) : Bool := decide (a = b)
theorem eqL_len {a b : List α} (h : a.length ≠ b.length) : eqL a b = false := decide_eq_false (fun e => h (by rw [e]))
theorem eqL_self (a : List α) : eqL a a = true := decide_eq_true rfl
theorem eqL_ne {a b : List α} {k : Nat} (ha : k < a.length) (hb : k < b.length) (h : a[k] ≠ b[k]) : eqL a b = false :=
  decide_eq_false (fun e => h (by subst e; rfl))
omit [DecidableEq α] in
theorem eqL_take {a b : List α} {k : Nat} (ha : k < a.length) (hb : k < b.length) (h0 : a.take k = b.take k) (h : a[k] = b[k]) : a.take (k + 1) = b.take (k + 1) := by
  rw [List.take_succ_eq_append_getElem ha, List.take_succ_eq_append_getElem hb, h0, h]
theorem eqL_all {a b : List α} {k : Nat} (ha : a.length ≤ k) (hb : b.length ≤ k) (h0 : a.take k = b.take k) : eqL a b = true := by
  rw [List.take_of_length_le ha, List.take_of_length_le hb] at h0
  exact decide_eq_true h0
end
set_option maxHeartbeats 800000 in
theorem equal32_any (A : Option Addr) (n c : Nat) (xs : List Nat) (B : Option Addr) (m d : Nat) (ys : List Nat) (w : World) (hn : xs.length = n) (hm : ys.length = m) (h63 : n ≤ 9223372036854775807) (h63' : m ≤ 9223372036854775807) (hr : Rd w A (u32s xs)) (hs : Rd w B (u32s ys)) :
    Calls Tryd.prog 56 #[.slice A n c, .slice B m d] w fun e w' => e = .returned (.bool (eqL xs ys)) ∧ Below w.heap.size w w' := by
  by_cases hnm : n = m
  · subst hnm
    have Hn := hide hn
    have Hm := hide hm
    clear hn hm
    go_enter Tryd.func56, Tryd.ntmps56
    go_wp2
    go_loopw [13] (fun i wr => ∃ k : Nat, k ≤ n ∧ i = .int .i64 k ∧ Hid (xs.take k = ys.take k) ∧ Below w.heap.size w wr) (fun i _ => n - (intOf i).toNat)
    case atStart => exact ⟨0, by omega, rfl, hide (by simp), Below.refl _ _⟩
    case round =>
      obtain ⟨k, hk, rfl, hN, hbw⟩ := hrel
      by_cases hlt : k < n
      · have hkl : k < xs.length := by rw [Hn.out]; exact hlt
        have hkm : k < ys.length := by rw [Hm.out]; exact hlt
        obtain ⟨a, ha, hc⟩ := hr.below hbw k _ (u32s_get hkl)
        obtain ⟨b, hb, hd⟩ := hs.below hbw k _ (u32s_get hkm)
        obtain ⟨x, hx⟩ : ∃ x, xs[k] = x := ⟨_, rfl⟩
        obtain ⟨y, hy⟩ : ∃ y, ys[k] = y := ⟨_, rfl⟩
        rw [hx] at hc
        rw [hy] at hd
        subst ha hb
        by_cases hv : x = y
        · have HB := hide (eqL_take hkl hkm hN.out (by rw [hx, hy]; exact hv))
          have q1 : ((x : Int) != (y : Int)) = false := by simp [hv]
          clear hx hy hv
          go_wp2
          go_quiet (fail)
          all_goals
            go_wp2
            go_roundw
            case rel => exact ⟨k + 1, by omega, by go_num, HB, below_drewN hbw _⟩
            case measure => simp [intOf]; omega
        · have HB := hide (eqL_ne hkl hkm (by rw [hx, hy]; exact hv))
          have q1 : ((x : Int) != (y : Int)) = true := by simp; omega
          clear hx hy hv
          go_wp2
          go_quiet (fail)
          all_goals
            go_wp2
            go_ret
            exact ⟨by rw [HB.out]; rfl, below_drewN hbw _⟩
      · have HB := hide (eqL_all (show xs.length ≤ k by rw [Hn.out]; omega) (show ys.length ≤ k by rw [Hm.out]; omega) hN.out)
        go_wp2
        go_ret
        exact ⟨by rw [HB.out]; rfl, hbw⟩
  · have HB := hide (eqL_len (a := xs) (b := ys) (by rw [hn, hm]; exact hnm))
    have q : ((n : Int) != (m : Int)) = true := by simp; omega
    clear hnm hn hm
    go_enter Tryd.func56, Tryd.ntmps56
    go_wp2
    go_ret
    exact ⟨by rw [HB.out]; rfl, Below.refl _ _⟩
/-- The row at a place, in memory. -/
theorem rows32_at {w : World} {Q : Nat → Prop} {ls : List (List Nat)} {vs : List Value} (h : tyRow32.Rows w Q ls vs) {k : Nat} (hk : k < ls.length) : ∃ (A : Option Addr) (c : Nat), vs[k]? = some (.slice A ls[k].length c) ∧ ls[k].length ≤ c ∧ c ≤ 9223372036854775807 ∧ Rd w A (u32s ls[k]) ∧ (ls[k] ≠ [] → ∀ a, A = some a → Q a.block) ∧ ∀ x ∈ ls[k], x < 4294967296 := by
  obtain ⟨cs, hI, hc⟩ := h.get (k := k) (List.getElem?_eq_getElem hk)
  obtain ⟨A, c, rfl, h1, h2, h3, h4, h5⟩ := row32_out hI
  refine ⟨A, c, ?_, h1, h2, h3, h4, h5⟩
  have := hc 0 _ rfl
  rwa [show tyRow32.n * k + 0 = k from by show 1 * k + 0 = k; omega] at this
set_option maxHeartbeats 1600000 in
theorem equalL_any (A : Option Addr) (n c : Nat) (xs : List (List Nat)) (vs : List Value) (B : Option Addr) (m d : Nat) (ys : List (List Nat)) (us : List Value) (w : World) {Q Q' : Nat → Prop} (hn : xs.length = n) (hm : ys.length = m) (h63 : n ≤ 9223372036854775807) (h63' : m ≤ 9223372036854775807) (hr : Rd w A vs) (hs : Rd w B us) (hx : tyRow32.Rows w Q xs vs) (hy : tyRow32.Rows w Q' ys us) :
    Calls Tryd.prog 55 #[.slice A n c, .slice B m d, .func (.func 56) #[] #[]] w fun e w' => e = .returned (.bool (eqL xs ys)) ∧ Below w.heap.size w w' := by
  by_cases hnm : n = m
  · subst hnm
    have Hn := hide hn
    have Hm := hide hm
    clear hn hm
    go_enter Tryd.func55, Tryd.ntmps55
    go_wp2
    go_loopw [17] (fun i wr => ∃ k : Nat, k ≤ n ∧ i = .int .i64 k ∧ Hid (xs.take k = ys.take k) ∧ Below w.heap.size w wr) (fun i _ => n - (intOf i).toNat)
    case atStart => exact ⟨0, by omega, rfl, hide (by simp), Below.refl _ _⟩
    case round =>
      obtain ⟨k, hk, rfl, hN, hbw⟩ := hrel
      by_cases hlt : k < n
      · have hkl : k < xs.length := by rw [Hn.out]; exact hlt
        have hkm : k < ys.length := by rw [Hm.out]; exact hlt
        obtain ⟨P, p, hv1, hp1, hp2, hpr, _, _⟩ := rows32_at (hx.below hbw) hkl
        obtain ⟨P', p', hv2, hp1', hp2', hpr', _, _⟩ := rows32_at (hy.below hbw) hkm
        obtain ⟨a, ha, hc⟩ := hr.below hbw k _ hv1
        obtain ⟨b, hb, hd⟩ := hs.below hbw k _ hv2
        subst ha hb
        have HE := hide (equal32_any P _ p xs[k] P' _ p' ys[k] wr rfl rfl (by omega) (by omega) hpr hpr')
        have hT := fun (e : xs[k] = ys[k]) => eqL_take hkl hkm hN.out e
        have hF := fun (e : xs[k] ≠ ys[k]) => eqL_ne hkl hkm e
        obtain ⟨x, hx'⟩ : ∃ x, xs[k] = x := ⟨_, rfl⟩
        obtain ⟨y, hy'⟩ : ∃ y, ys[k] = y := ⟨_, rfl⟩
        rw [hx'] at hc HE
        rw [hy'] at hd HE
        rw [hx', hy'] at hT hF
        have HT := hide hT
        have HF := hide hF
        clear hv1 hv2 hp1 hp2 hpr hp1' hp2' hpr' hx' hy' hT hF
        go_wp2_with fail
        go_fit HE.out
        rintro e w2 ⟨rfl, hb2⟩
        have hbw2 := hbw.trans (hb2.mono hbw.size)
        by_cases hv : x = y
        · have HB := hide (HT.out hv)
          rw [show eqL x y = true from decide_eq_true hv]
          clear hv
          go_wp2
          go_roundw
          case rel => exact ⟨k + 1, by omega, by go_num, HB, hbw2⟩
          case measure => simp [intOf]; omega
        · have HB := hide (HF.out hv)
          rw [show eqL x y = false from decide_eq_false hv]
          clear hv
          go_wp2
          go_ret
          exact ⟨by rw [HB.out]; rfl, hbw2⟩
      · have HB := hide (eqL_all (show xs.length ≤ k by rw [Hn.out]; omega) (show ys.length ≤ k by rw [Hm.out]; omega) hN.out)
        go_wp2
        go_ret
        exact ⟨by rw [HB.out]; rfl, hbw⟩
  · have HB := hide (eqL_len (a := xs) (b := ys) (by rw [hn, hm]; exact hnm))
    have q : ((n : Int) != (m : Int)) = true := by simp; omega
    clear hnm hn hm
    go_enter Tryd.func55, Tryd.ntmps55
    go_wp2
    go_ret
    exact ⟨by rw [HB.out]; rfl, Below.refl _ _⟩
theorem same_any (A : Option Addr) (n c : Nat) (xs : List (List Nat)) (B : Option Addr) (m d : Nat) (ys : List (List Nat)) (w : World) {Q Q' : Nat → Prop} (hx : tyTree.Is w Q xs [.slice A n c]) (hy : tyTree.Is w Q' ys [.slice B m d]) :
    Calls Tryd.prog 31 #[.agg #[.slice A n c], .agg #[.slice B m d]] w fun e w' => e = .returned (.bool (eqL xs ys)) ∧ Below w.heap.size w w' := by
  obtain ⟨w0, hw0⟩ : ∃ x, (w.alloc (.cells #[.slice A n c] 29)).alloc (.cells #[.slice B m d] 29) = x := ⟨_, rfl⟩
  have hb0 : Below w.heap.size w w0 := by rw [← hw0]; exact ((Below.refl _ _).alloc (Nat.le_refl _) _).alloc (by simp) _
  obtain ⟨p, pA, pn, pc, pv, rfl, hpe, hl1, hc1, hm1, hr1, _, he1⟩ := Tree_out (hx.below hb0)
  obtain ⟨q, qA, qn, qc, qv, rfl, hqe, hl2, hc2, hm2, hr2, _, he2⟩ := Tree_out (hy.below hb0)
  simp only [List.cons.injEq, Value.slice.injEq, and_true] at hpe hqe
  obtain ⟨rfl, rfl, rfl⟩ := hpe
  obtain ⟨rfl, rfl, rfl⟩ := hqe
  have HE := hide (equalL_any A n c xs pv B m d ys qv w0 hl1 hl2 (by omega) (by omega) hr1 hr2 he1 he2)
  have Hw0 := hide hw0
  clear hw0 hl1 hc1 hm1 hr1 he1 hl2 hc2 hm2 hr2 he2 hx hy
  go_enter Tryd.func31, Tryd.ntmps31
  go_wp2_with fail
  rw [Hw0.out]
  go_fit HE.out
  rintro e w2 ⟨rfl, hb2⟩
  go_wp2
  go_ret
  exact ⟨rfl, hb0.trans (hb2.mono hb0.size)⟩
end Go.Proofs.YtcpnobhdogpfiaaDoor
