/- plinthref05.SamePages of two rows of the same pages. -/
import Derived.Test.YtjilkaciopiabaaF05p
namespace Go.Proofs.Ytjilkaciopiabaa
open Go.RowKit Go.Px
set_option linter.unusedVariables false
theorem PgRows.drewN {w : World} {Q : Nat → Prop} {cs : List Value} {ps : List (Int × Int × List UInt8)} (h : PgRows w Q cs ps) (q : Nat) : PgRows (w.drewN q) Q cs ps := h.keep (fun A xs hr _ => hr.drewN q) (fun _ h => h)
set_option maxHeartbeats 3200000 in
theorem samePages_eq (A : Option Addr) (n c : Nat) (cs : List Value) (B : Option Addr) (d : Nat) (ds : List Value) (ps : List (Int × Int × List UInt8)) (Q Q' : Nat → Prop) (w : World) (hn : ps.length = n) (hnc : n ≤ c) (hc : c ≤ 9223372036854775807) (hr : Rd w A cs) (hr' : Rd w B ds) (hP : PgRows w Q cs ps) (hP' : PgRows w Q' ds ps) :
    Calls Try.prog 12 #[.slice A n c, .slice B n d] w fun e w' => e = .returned (.bool true) ∧ ∃ q, w' = w.drewN q := by
  have hl := hP.1
  have hl' := hP'.1
  have Hn := hide hn
  go_enter Try.func12, Try.ntmps12
  go_wp2
  go_loopw [5] (fun i wr => ∃ (k q : Nat), k ≤ n ∧ i = .int .i64 k ∧ wr = w.drewN q) (fun i _ => n - (intOf i).toNat)
  case atStart => exact ⟨0, 0, by omega, rfl, rfl⟩
  case round =>
    obtain ⟨k, q, hk, rfl, rfl⟩ := hrel
    by_cases hlt : k < n
    · obtain ⟨p, hp⟩ : ∃ p, ps[k]? = some p := ⟨_, List.getElem?_eq_getElem (by omega)⟩
      obtain ⟨A', m, c', h1, h2, h3, h4, h5, h6, h7, h8⟩ := hP.2 k p hp
      obtain ⟨B', m', d', i1, i2, i3, i4, i5, i6, i7, i8⟩ := hP'.2 k p hp
      obtain ⟨a, rfl, hat⟩ := hr.some_of (xs := cs) (by omega)
      obtain ⟨a', rfl, hat'⟩ := hr'.some_of (xs := ds) (by omega)
      obtain ⟨p1, p2, pd⟩ := p
      simp only at h1 h2 h4 h7 i1 i2 i4 i7
      have y0 := rd3_0 hat h1
      have y1 := rd3_S (i := 0) hat h2
      have y2 := rd3_S (i := 1) hat h3
      have z0 := rd3_0 hat' i1
      have z1 := rd3_S (i := 0) hat' i2
      have z2 := rd3_S (i := 1) hat' i3
      have cv1 : ∀ t, (convert 35 9 (.slice A' m c')).run Try.prog (w.drewN t) = .ok (.string (strOf pd)) (w.drewN t) := fun t => convB c' h4 (h7.drewN t)
      have cv2 : ∀ t, (convert 35 9 (.slice B' m' d')).run Try.prog (w.drewN t) = .ok (.string (strOf pd)) (w.drewN t) := fun t => convB d' i4 (i7.drewN t)
      go_wp2
      go_quiet (fail)
      all_goals
        go_wp2
        go_roundw
        case rel => exact ⟨k + 1, q + nq, by omega, by go_num, rfl⟩
        case measure => simp [intOf]; omega
    · obtain rfl : k = n := by omega
      go_wp2
      go_ret
      exact ⟨rfl, q, rfl⟩
end Go.Proofs.Ytjilkaciopiabaa
