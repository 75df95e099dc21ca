/- Texts joined (shake.py). -/
import Derived.Test.YtlcbelmbonaooaaK74
namespace Go.Proofs.Ytlcbelmbonaooaa
set_option maxRecDepth 20000
open Go.RowKit Go.Px
set_option linter.unusedVariables false
@[go_sem] theorem eqnil_ints (w : World) (A : Option Addr) (n c n' c' : Nat) : (binOp .eql 22 (.slice A n c) (.slice none n' c')).run Try.prog w = .ok (.bool A.isNone) w := Lib.run_eql_slice_nil w _ _ A n c n' c' Try.underlying22
theorem iclone_any (A : Option Addr) (n c : Nat) (ms : List Int) (w : World) (hn : ms.length = n) (h8 : n ≤ 1099511627776) (hc : Rd w A (ints ms)) :
    Calls Try.prog 70 #[.slice A n c] w fun e w' => ∃ v, e = .returned v ∧ w'.ownsRow w.heap.size 3 1 v n (ints ms) ∧ Below w.heap.size w w' := by
  have Hn := hide hn
  clear hn
  rcases A with _ | a
  · have hb : ms = [] := by
      rcases ms with _ | ⟨b, r⟩
      · rfl
      · obtain ⟨a, ha, _⟩ := hc 0 _ rfl; cases ha
    subst hb
    have h0 := Hn.out
    simp only [List.length_nil] at h0
    subst h0
    go_enter Try.func70, Try.ntmps70
    go_wp2_with fail
    go_ret
    exact ⟨_, rfl, World.ownsRow_nil _ _ _ _, Below.refl _ _⟩
  · go_enter Try.func70, Try.ntmps70
    go_wp2_with (first | (with_reducible refine stop_append rfl ?_) | (with_reducible refine stop_copy rfl ?_) | (with_reducible refine stop_make rfl ?_))
    refine (Grow.empty w 3 1).append rfl rfl tInts rfl rfl (by rw [ints_length, Hn.out]; omega) (hc.alloc _) (ints_one _) (by omega) (by omega) ?_
    intro v' w1 hG _
    go_wp2
    go_ret
    refine ⟨_, rfl, by simpa using hG.owns, hG.emptyAll⟩
end Go.Proofs.Ytlcbelmbonaooaa
