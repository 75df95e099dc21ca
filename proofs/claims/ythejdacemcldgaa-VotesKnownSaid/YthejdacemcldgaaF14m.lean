/- Stage 14: slices.DeleteFunc of ints with the closure of Behind. -/
import Derived.Test.YthejdacemcldgaaF14k
namespace Go.Proofs.Ythejdacemcldgaa
set_option maxRecDepth 20000
open Go.RowKit Go.Px
set_option linter.unusedVariables false
set_option maxHeartbeats 1600000 in
theorem idx14_any {A : Option Addr} {n c : Nat} {ms : List Int} {p : Int → Bool} {b1 b2 : Nat} {w : World} (hn : ms.length = n) (h63 : n ≤ 1000000) (hr : Rd w A (ints ms))
    (HP : ∀ X, Below w.heap.size w X → ∀ v : Int, Calls Try.prog 40 #[.int .i64 v, .pointer (some ⟨b1, 0, none⟩), .pointer (some ⟨b2, 0, none⟩)] X fun e w' => e = .returned (.bool (p v)) ∧ Below X.heap.size X w') :
    Calls Try.prog 62 #[.slice A n c, .func (.func 40) #[] #[.pointer (some ⟨b1, 0, none⟩), .pointer (some ⟨b2, 0, none⟩)]] w fun e w' => ∃ r : Int, e = .returned (.int .i64 r) ∧ ((r = -1 ∧ ∀ j, j < n → p (ms.getD j 0) = false) ∨ ∃ i : Nat, r = (i : Int) ∧ i < n ∧ (∀ j, j < i → p (ms.getD j 0) = false) ∧ p (ms.getD i 0) = true) ∧ Below w.heap.size w w' := by
  have Hn := hide hn
  have HH := hide HP
  clear hn HP
  have eg : ∀ args w, (callFunc 40 args).run Try.prog w = .ok (.enter 40 args) w := enters_of Try.func40 (by kernel_rfl) rfl
  go_enter Try.func62, Try.ntmps62
  go_wp2_with fail
  go_loopw [8] (fun s8 W => ∃ k : Nat, s8 = .int .i64 (k : Int) ∧ k ≤ n ∧ Hid (∀ j, j < k → p (ms.getD j 0) = false) ∧ Below w.heap.size w W) (fun s _ => n - (intOf s).toNat)
  case atStart => exact ⟨0, rfl, Nat.zero_le _, hide (fun j hj => absurd hj (by omega)), Below.refl _ _⟩
  case round =>
    obtain ⟨k, rfl, hk, HK, hbw⟩ := hrel
    by_cases hlt : k < n
    · have hkl : k < ms.length := by rw [Hn.out]; exact hlt
      obtain ⟨a, rfl, hc⟩ := (hr.below hbw) k _ (ints_get hkl)
      obtain ⟨x, hx⟩ : ∃ x, ms[k] = x := ⟨_, rfl⟩
      rw [hx] at hc
      have Hx := hide (show ms.getD k 0 = x by rw [intD_at hkl, hx])
      have HC := hide (HH.out wr hbw x)
      clear hx hkl
      go_wp2_with fail
      go_fit HC.out
      rintro e w1 ⟨rfl, hb1⟩
      have hb2 := hbw.trans (hb1.mono hbw.size)
      cases hpx : p x with
      | true =>
        have HR := hide (show p (ms.getD k 0) = true by rw [Hx.out]; exact hpx)
        clear hpx
        go_wp2
        go_ret
        exact ⟨_, rfl, .inr ⟨k, rfl, hlt, HK.out, HR.out⟩, hb2⟩
      | false =>
        have HR := hide (show ∀ j, j < k + 1 → p (ms.getD j 0) = false from fun j hj => by
          by_cases hjk : j = k
          · subst hjk; rw [Hx.out]; exact hpx
          · exact HK.out j (by omega))
        clear hpx
        go_wp2
        go_roundw
        case rel => exact ⟨k + 1, by go_num, by omega, HR, hb2⟩
        case measure => simp [intOf]; omega
    · have HR := hide (show ∀ j, j < n → p (ms.getD j 0) = false from fun j hj => HK.out j (by omega))
      clear HK
      go_wp2
      go_ret
      exact ⟨_, rfl, .inl ⟨rfl, HR.out⟩, hbw⟩
end Go.Proofs.Ythejdacemcldgaa
