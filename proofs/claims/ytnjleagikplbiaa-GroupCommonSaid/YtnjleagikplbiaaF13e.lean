/- Same, SameGroup, same, Others twice. -/
import Derived.Test.YtnjleagikplbiaaF13d
namespace Go.Proofs.Ytnjleagikplbiaa
open Go.RowKit Go.Px
set_option linter.unusedVariables false

def eqG (e : Int) (xs : List Int) (e' : Int) (ys : List Int) : Bool := (e == e') && eqB xs ys

set_option maxHeartbeats 400000 in
theorem gsame_any (e : Int) (A : Option Addr) (n c : Nat) (xs : List Int) (e' : Int) (B : Option Addr) (m d : Nat) (ys : List Int) (w : World) (hn : xs.length = n) (hm : ys.length = m) (h63 : n ≤ 9223372036854775807) (h63' : m ≤ 9223372036854775807) (hr : Rd w A (ints xs)) (hs : Rd w B (ints ys)) :
    Calls Try.prog 15 #[grp e A n c, grp e' B m d] w fun x w' => x = .returned (.bool (eqG e xs e' ys)) ∧ Below w.heap.size w w' := by
  have hb0 : Below w.heap.size w ((w.alloc (.cells #[.int .i64 e, .slice A n c] 24)).alloc (.cells #[.int .i64 e', .slice B m d] 24)) := ((Below.refl _ _).alloc (Nat.le_refl _) _).alloc (by simp) _
  have HE := hide (equal_any A n c xs B m d ys _ hn hm h63 h63' (hr.below hb0) (hs.below hb0))
  clear hn hm
  rcases bool_two (e == e') with q | q
  · have HQ := hide (show eqG e xs e' ys = eqB xs ys by unfold eqG; rw [q]; rfl)
    go_enter Try.func15, Try.ntmps15
    go_wp2_with fail
    refine HE.out.mono ?_
    rintro x w' ⟨rfl, hb⟩
    go_wp2
    go_ret
    exact ⟨by rw [HQ.out]; rfl, hb0.trans (hb.mono hb0.size)⟩
  · have HQ := hide (show eqG e xs e' ys = false by unfold eqG; rw [q]; rfl)
    go_enter Try.func15, Try.ntmps15
    go_wp2
    go_ret
    exact ⟨by rw [HQ.out]; rfl, hb0⟩

set_option maxHeartbeats 800000 in
theorem rsameg_any (e : Int) (A : Option Addr) (n c : Nat) (xs : List Int) (e' : Int) (B : Option Addr) (m d : Nat) (ys : List Int) (w : World) (hn : xs.length = n) (hm : ys.length = m) (h63 : n ≤ 9223372036854775807) (h63' : m ≤ 9223372036854775807) (hr : Rd w A (ints xs)) (hs : Rd w B (ints ys)) :
    Calls Try.prog 16 #[grp e A n c, grp e' B m d] w fun x w' => x = .returned (.bool (eqG e xs e' ys)) ∧ Below w.heap.size w w' := by
  obtain ⟨g, hg⟩ : ∃ g, w.heap.size = g := ⟨_, rfl⟩
  obtain ⟨g1, hg1⟩ : ∃ x, g + 1 = x := ⟨_, rfl⟩
  obtain ⟨w0, hw0⟩ : ∃ w0, (w.alloc (.cells #[.int .i64 e, .slice A n c] 24)).alloc (.cells #[.int .i64 e', .slice B m d] 24) = w0 := ⟨_, rfl⟩
  have hF : Blk w0 g [.int .i64 e, .slice A n c] 24 := by rw [← hw0, ← hg]; exact (Blk.new w [.int .i64 e, .slice A n c] _).alloc _
  have hG : Blk w0 g1 [.int .i64 e', .slice B m d] 24 := by
    rw [← hw0, ← hg1, ← hg]
    have := Blk.new (w.alloc (.cells #[.int .i64 e, .slice A n c] 24)) [.int .i64 e', .slice B m d] 24
    rwa [World.size_alloc] at this
  have hb0 : Below w.heap.size w w0 := by rw [← hw0]; exact ((Below.refl _ _).alloc (Nat.le_refl _) _).alloc (by simp) _
  have f0 := hF.cell (j := 0) rfl
  have f1 := hF.cell (j := 1) rfl
  have k0 := hG.cell (j := 0) rfl
  have k1 := hG.cell (j := 1) rfl
  have hr0 := hr.below hb0
  have hs0 := hs.below hb0
  rcases bool_two (e == e') with q | q
  · have hee : e = e' := by simpa using q
    subst hee
    have q' : (e != e) = false := by simp
    have HQ := hide (show eqG e xs e ys = eqB xs ys by unfold eqG; rw [q]; rfl)
    clear q
    by_cases hnm : n = m
    · subst hnm
      have Hn := hide hn
      have Hm := hide hm
      clear hn hm
      go_enter Try.func16, Try.ntmps16
      go_wp2
      go_loopw [5] (fun i wr => ∃ k : Nat, k ≤ n ∧ i = .int .i64 k ∧ Hid (xs.take k = ys.take k) ∧ Below w0.heap.size w0 wr) (fun i _ => n - (intOf i).toNat)
      case atStart => exact ⟨0, by omega, rfl, hide (by simp), by first | exact Below.refl _ _ | (rw [← hw0]; exact Below.refl _ _)⟩
      case round =>
        obtain ⟨k, hk, rfl, hN, hbw⟩ := hrel
        have c0 := (hF.below hbw).cell (j := 0) rfl
        have c1 := (hF.below hbw).cell (j := 1) rfl
        have d0 := (hG.below hbw).cell (j := 0) rfl
        have d1 := (hG.below hbw).cell (j := 1) rfl
        have hbX : Below w.heap.size w wr := hb0.trans (hbw.mono hb0.size)
        by_cases hlt : k < n
        · have hkl : k < xs.length := by rw [Hn.out]; exact hlt
          have hkm : k < ys.length := by rw [Hm.out]; exact hlt
          obtain ⟨a, ha, hc⟩ := hr0.below hbw k _ (ints_get hkl)
          obtain ⟨b, hb, hd⟩ := hs0.below hbw k _ (ints_get hkm)
          obtain ⟨x, hx⟩ : ∃ x, xs[k] = x := ⟨_, rfl⟩
          obtain ⟨y, hy⟩ : ∃ y, ys[k] = y := ⟨_, rfl⟩
          rw [hx] at hc
          rw [hy] at hd
          subst ha hb
          by_cases hv : x = y
          · have HB := hide (eq_take hkl hkm hN.out (by rw [hx, hy]; exact hv))
            have q1 : (x != y) = false := by simp [hv]
            clear hx hy hv
            go_wp2
            go_quiet (fail)
            all_goals
              go_wp2
              go_roundw
              case rel => exact ⟨k + 1, by omega, by go_num, HB, below_drewN hbw _⟩
              case measure => simp [intOf]; omega
          · have HB := hide (eqB_ne hkl hkm (by rw [hx, hy]; exact hv))
            have q1 : (x != y) = true := by simp [hv]
            clear hx hy hv
            go_wp2
            go_quiet (fail)
            all_goals
              go_wp2
              go_ret
              exact ⟨by rw [HQ.out, HB.out]; rfl, below_drewN hbX _⟩
        · have HB := hide (eqB_all (show xs.length ≤ k by rw [Hn.out]; omega) (show ys.length ≤ k by rw [Hm.out]; omega) hN.out)
          go_wp2
          go_ret
          exact ⟨by rw [HQ.out, HB.out]; rfl, hbX⟩
    · have HB := hide (eqB_len (a := xs) (b := ys) (by rw [hn, hm]; exact hnm))
      have q1 : ((n : Int) != (m : Int)) = true := by simp; omega
      clear hn hm
      go_enter Try.func16, Try.ntmps16
      go_wp2
      go_ret
      exact ⟨by rw [HQ.out, HB.out]; rfl, hb0⟩
  · have HQ := hide (show eqG e xs e' ys = false by unfold eqG; rw [q]; rfl)
    have q' : (e != e') = true := by simpa using q
    clear q
    go_enter Try.func16, Try.ntmps16
    go_wp2
    go_ret
    exact ⟨by rw [HQ.out]; rfl, hb0⟩

set_option maxHeartbeats 800000 in
theorem lsame_any (A : Option Addr) (n c : Nat) (xs : List Int) (B : Option Addr) (m d : Nat) (ys : List Int) (w : World) (hn : xs.length = n) (hm : ys.length = m) (h63 : n ≤ 9223372036854775807) (h63' : m ≤ 9223372036854775807) (hr : Rd w A (ints xs)) (hs : Rd w B (ints ys)) :
    Calls Try.prog 20 #[.slice A n c, .slice B m d] w fun e w' => e = .returned (.bool (eqB xs ys)) ∧ Below w.heap.size w w' := by
  by_cases hnm : n = m
  · subst hnm
    have Hn := hide hn
    have Hm := hide hm
    clear hn hm
    go_enter Try.func20, Try.ntmps20
    go_wp2
    go_loopw [5] (fun i wr => ∃ k : Nat, k ≤ n ∧ i = .int .i64 k ∧ Hid (xs.take k = ys.take k) ∧ Below w.heap.size w wr) (fun i _ => n - (intOf i).toNat)
    case atStart => exact ⟨0, by omega, rfl, hide (by simp), Below.refl _ _⟩
    case round =>
      obtain ⟨k, hk, rfl, hN, hbw⟩ := hrel
      by_cases hlt : k < n
      · have hkl : k < xs.length := by rw [Hn.out]; exact hlt
        have hkm : k < ys.length := by rw [Hm.out]; exact hlt
        obtain ⟨a, ha, hc⟩ := hr.below hbw k _ (ints_get hkl)
        obtain ⟨b, hb, hd⟩ := hs.below hbw k _ (ints_get hkm)
        obtain ⟨x, hx⟩ : ∃ x, xs[k] = x := ⟨_, rfl⟩
        obtain ⟨y, hy⟩ : ∃ y, ys[k] = y := ⟨_, rfl⟩
        rw [hx] at hc
        rw [hy] at hd
        subst ha hb
        by_cases hv : x = y
        · have HB := hide (eq_take hkl hkm hN.out (by rw [hx, hy]; exact hv))
          have q1 : (x != y) = false := by simp [hv]
          clear hx hy hv
          go_wp2
          go_quiet (fail)
          all_goals
            go_wp2
            go_roundw
            case rel => exact ⟨k + 1, by omega, by go_num, HB, below_drewN hbw _⟩
            case measure => simp [intOf]; omega
        · have HB := hide (eqB_ne hkl hkm (by rw [hx, hy]; exact hv))
          have q1 : (x != y) = true := by simp [hv]
          clear hx hy hv
          go_wp2
          go_quiet (fail)
          all_goals
            go_wp2
            go_ret
            exact ⟨by rw [HB.out]; rfl, below_drewN hbw _⟩
      · have HB := hide (eqB_all (show xs.length ≤ k by rw [Hn.out]; omega) (show ys.length ≤ k by rw [Hm.out]; omega) hN.out)
        go_wp2
        go_ret
        exact ⟨by rw [HB.out]; rfl, hbw⟩
  · have HB := hide (eqB_len (a := xs) (b := ys) (by rw [hn, hm]; exact hnm))
    have q1 : ((n : Int) != (m : Int)) = true := by simp; omega
    clear hn hm
    go_enter Try.func20, Try.ntmps20
    go_wp2
    go_ret
    exact ⟨by rw [HB.out]; rfl, Below.refl _ _⟩
end Go.Proofs.Ytnjleagikplbiaa
