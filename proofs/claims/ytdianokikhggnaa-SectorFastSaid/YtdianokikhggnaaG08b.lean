/- Laws 8: both disks; begin. -/
import Derived.Test.YtdianokikhggnaaG08a
import Derived.Test.YtdianokikhggnaaF08n
import Derived.OwnWalk
namespace Go.Proofs.Ytdianokikhggnaa
set_option maxRecDepth 20000
open Go.RowKit Go.Px Go.Maps
set_option linter.unusedVariables false
section
variable {w w' : World} {t f lm bm t2 f2 : Nat} {cs : List Value} {d : Dk}
/-- What neither disk keeps for itself. -/
def Free (t f lm bm t2 f2 : Nat) (b : Nat) : Prop := ¬ OwnB t f lm bm b ∧ ¬ ROwn t2 f2 b
/-- Both disks, which hold the same. -/
structure Both (w : World) (t f lm bm t2 f2 : Nat) (d : Dk) : Prop where
  a : DIs w (Free t f lm bm t2 f2) t f lm bm d
  b : ∃ cs, RDIs w (Free t f lm bm t2 f2) t2 f2 cs d
  n1 : ¬ OwnB t f lm bm t2
  n2 : ¬ OwnB t f lm bm f2
theorem Both.below (h : Both w t f lm bm t2 f2 d) (hb : Below w.heap.size w w') : Both w' t f lm bm t2 f2 d := by
  obtain ⟨cs, hc⟩ := h.b
  exact ⟨h.a.below hb, ⟨cs, hc.below hb⟩, h.n1, h.n2⟩
theorem Both.new (h : Both w t f lm bm t2 f2 d) : ∀ b, w.heap.size ≤ b → Free t f lm bm t2 f2 b := fun b hb => by
  obtain ⟨cs, hc⟩ := h.b
  have := hc.lts
  have := h.a.lts
  exact ⟨fun hx => by rcases hx with h | h | h | h <;> omega, fun hx => by rcases hx with h | h <;> omega⟩
def clampI (m n : Int) : Int := if 64 < n ∧ n ≤ m then 64 else n
theorem both_new {w w1 w2 : World} {N S f2 : Nat} {cs : List Value} (hN1 : N ≤ 64) (hS1 : S ≤ 64) (hD : DIs w1 (fun _ => False) (w.heap.size + 3) w.heap.size (w.heap.size + 1) (w.heap.size + 2) (Dk.new N S)) (hz : w1.heap.size = w.heap.size + 4) (hb : Below w.heap.size w w1) (hR : RDIs w2 (fun b => w1.heap.size + 1 ≤ b ∧ b ≠ f2) w1.heap.size f2 cs (Dk.new N S)) (hf : w1.heap.size + 1 ≤ f2) (hb2 : Below w1.heap.size w1 w2) :
    Both w2 (w.heap.size + 3) w.heap.size (w.heap.size + 1) (w.heap.size + 2) w1.heap.size f2 (Dk.new N S) ∧ (∀ b, ¬ Free (w.heap.size + 3) w.heap.size (w.heap.size + 1) (w.heap.size + 2) w1.heap.size f2 b → w.heap.size ≤ b) ∧ Below w.heap.size w w2 := by
  have ho : ∀ x, OwnB (w.heap.size + 3) w.heap.size (w.heap.size + 1) (w.heap.size + 2) x → w.heap.size ≤ x ∧ x < w1.heap.size := fun x hx => by rcases hx with h | h | h | h <;> omega
  refine ⟨⟨?_, ⟨cs, ?_⟩, fun hx => by have := ho _ hx; omega, fun hx => by have := ho _ hx; omega⟩, fun b hb => ?_, hb.trans (hb2.mono (by omega))⟩
  · refine (hD.below hb2).mono (fun b hb => hb.elim) (fun b hb => ⟨fun e => hb.1 (.inl e), fun e => hb.1 (.inr (.inl e)), fun e => hb.1 (.inr (.inr (.inl e))), fun e => hb.1 (.inr (.inr (.inr e)))⟩)
  · refine hR.mono (fun b hb => ⟨fun hx => by have := ho _ hx; omega, fun hx => by rcases hx with h | h <;> omega⟩) (fun b hb => ⟨fun e => hb.2 (.inl e), fun e => hb.2 (.inr e)⟩)
  · rcases Classical.em (OwnB (w.heap.size + 3) w.heap.size (w.heap.size + 1) (w.heap.size + 2) b) with h | h
    · exact (ho _ h).1
    · rcases Classical.em (ROwn w1.heap.size f2 b) with h' | h'
      · rcases h' with h' | h' <;> omega
      · exact absurd ⟨h, h'⟩ hb
set_option maxHeartbeats 1600000 in
theorem begin08_ok (w : World) (n s : Int) (h1 : 1 ≤ n) (h2 : n ≤ 65536) (h3 : 1 ≤ s) (h4 : s ≤ 8192) :
    Calls Try.prog 9 #[.int .i64 n, .int .i64 s] w fun e w' => ∃ t f lm bm t2 f2 N S, e = .returned (.tuple #[.pointer (some ⟨t, 0, none⟩), .pointer (some ⟨t2, 0, none⟩), .bool true]) ∧ Both w' t f lm bm t2 f2 (Dk.new N S) ∧ N ≤ 64 ∧ S ≤ 64 ∧ (∀ b, ¬ Free t f lm bm t2 f2 b → w.heap.size ≤ b) ∧ Below w.heap.size w w' := by
  obtain ⟨N, hN⟩ : ∃ N : Nat, (if 64 < n then 64 else n) = (N : Int) := ⟨(if 64 < n then 64 else n).toNat, by split <;> omega⟩
  obtain ⟨S, hS⟩ : ∃ S : Nat, (if 64 < s then 64 else s) = (S : Int) := ⟨(if 64 < s then 64 else s).toNat, by split <;> omega⟩
  have hN1 : 1 ≤ N ∧ N ≤ 64 := by split at hN <;> omega
  have hS1 : 1 ≤ S ∧ S ≤ 64 := by split at hS <;> omega
  have HN := hide (new08_ok w N S (by omega) (by omega) (by omega) (by omega))
  have HR := hide (fun W => rnew08_ok W N S (by omega) (by omega) (by omega) (by omega))
  have q2 : decide (n ≤ 65536) = true := decide_eq_true h2
  have q4 : decide (s ≤ 8192) = true := decide_eq_true h4
  by_cases g1 : 64 < n <;> by_cases g2 : 64 < s
  all_goals
    first
      | have q1 : decide ((64 : Int) < n) = true := decide_eq_true g1
      | have q1 : decide ((64 : Int) < n) = false := decide_eq_false g1
    first
      | have q3 : decide ((64 : Int) < s) = true := decide_eq_true g2
      | have q3 : decide ((64 : Int) < s) = false := decide_eq_false g2
    first
      | rw [if_pos g1] at hN
      | rw [if_neg g1] at hN
    first
      | rw [if_pos g2] at hS
      | rw [if_neg g2] at hS
    rw [← hN, ← hS] at HN HR
    clear g1 g2 hN hS
    go_enter Try.func9, Try.ntmps9
    go_wp2_with fail
    go_fit HN.out
    rintro e w1 ⟨rfl, hD, hz, hb⟩
    obtain ⟨t, ht⟩ : ∃ t, w.heap.size + 3 = t := ⟨_, rfl⟩
    have HP := hide (fun w2 f2 cs => both_new (w2 := w2) (f2 := f2) (cs := cs) hN1.2 hS1.2 hD hz hb)
    rw [ht] at HP ⊢
    have HR1 := HR.out w1
    obtain ⟨t2, ht2⟩ : ∃ t2, w1.heap.size = t2 := ⟨_, rfl⟩
    rw [ht2] at HP HR1
    have HR1 := hide HR1
    clear hD hb hz ht HR
    go_wp2_with fail
    go_fit HR1.out
    rintro e2 w2 ⟨f2, cs, rfl, hR, hf, hb2⟩
    have HF := hide (HP.out w2 f2 cs hR hf hb2)
    clear hR hb2 HR1 HP
    go_wp2
    refine bodyPost_ret (results_tmp3 rfl _ _ _) rfl ?_
    exact ⟨_, _, _, _, _, _, N, S, rfl, HF.out.1, hN1.2, hS1.2, HF.out.2.1, HF.out.2.2⟩
set_option maxHeartbeats 1600000 in
theorem begin08_bad (w : World) (n s : Int) (hn : ¬ (1 ≤ n ∧ n ≤ 65536 ∧ 1 ≤ s ∧ s ≤ 8192)) :
    Calls Try.prog 9 #[.int .i64 n, .int .i64 s] w fun e w' => e = .returned (.tuple #[.pointer none, .pointer none, .bool true]) ∧ w = w' := by
  rcases (show (64 < n ∧ n ≤ 65536) ∨ n ≤ 64 ∨ 65536 < n by omega) with ⟨a1, a2⟩ | a1 | a1
  · rcases (show (64 < s ∧ s ≤ 8192) ∨ s ≤ 64 ∨ 8192 < s by omega) with ⟨b1, b2⟩ | b1 | b1
    · exfalso; omega
    · have HN := hide (new08_bad w 64 s (by omega))
      have HR := hide (rnew08_bad w 64 s (by omega))
      have q1 : decide ((64 : Int) < n) = true := decide_eq_true (by omega)
      have q2 : decide (n ≤ 65536) = true := decide_eq_true (by omega)
      have q3 : decide ((64 : Int) < s) = false := decide_eq_false (by omega)
      clear hn
      go_enter Try.func9, Try.ntmps9
      go_wp2_with fail
      go_fit HN.out
      rintro e w1 ⟨rfl, rfl⟩
      go_wp2_with fail
      go_fit HR.out
      rintro e2 w2 ⟨rfl, rfl⟩
      go_wp2
      refine bodyPost_ret (results_tmp3 rfl _ _ _) rfl ?_
      exact ⟨rfl, rfl⟩
    · have HN := hide (new08_bad w 64 s (by omega))
      have HR := hide (rnew08_bad w 64 s (by omega))
      have q1 : decide ((64 : Int) < n) = true := decide_eq_true (by omega)
      have q2 : decide (n ≤ 65536) = true := decide_eq_true (by omega)
      have q3 : decide ((64 : Int) < s) = true := decide_eq_true (by omega)
      have q4 : decide (s ≤ 8192) = false := decide_eq_false (by omega)
      clear hn
      go_enter Try.func9, Try.ntmps9
      go_wp2_with fail
      go_fit HN.out
      rintro e w1 ⟨rfl, rfl⟩
      go_wp2_with fail
      go_fit HR.out
      rintro e2 w2 ⟨rfl, rfl⟩
      go_wp2
      refine bodyPost_ret (results_tmp3 rfl _ _ _) rfl ?_
      exact ⟨rfl, rfl⟩
  · rcases (show (64 < s ∧ s ≤ 8192) ∨ s ≤ 64 ∨ 8192 < s by omega) with ⟨b1, b2⟩ | b1 | b1
    · have HN := hide (new08_bad w n 64 (by omega))
      have HR := hide (rnew08_bad w n 64 (by omega))
      have q1 : decide ((64 : Int) < n) = false := decide_eq_false (by omega)
      have q3 : decide ((64 : Int) < s) = true := decide_eq_true (by omega)
      have q4 : decide (s ≤ 8192) = true := decide_eq_true (by omega)
      clear hn
      go_enter Try.func9, Try.ntmps9
      go_wp2_with fail
      go_fit HN.out
      rintro e w1 ⟨rfl, rfl⟩
      go_wp2_with fail
      go_fit HR.out
      rintro e2 w2 ⟨rfl, rfl⟩
      go_wp2
      refine bodyPost_ret (results_tmp3 rfl _ _ _) rfl ?_
      exact ⟨rfl, rfl⟩
    · have HN := hide (new08_bad w n s (by omega))
      have HR := hide (rnew08_bad w n s (by omega))
      have q1 : decide ((64 : Int) < n) = false := decide_eq_false (by omega)
      have q3 : decide ((64 : Int) < s) = false := decide_eq_false (by omega)
      clear hn
      go_enter Try.func9, Try.ntmps9
      go_wp2_with fail
      go_fit HN.out
      rintro e w1 ⟨rfl, rfl⟩
      go_wp2_with fail
      go_fit HR.out
      rintro e2 w2 ⟨rfl, rfl⟩
      go_wp2
      refine bodyPost_ret (results_tmp3 rfl _ _ _) rfl ?_
      exact ⟨rfl, rfl⟩
    · have HN := hide (new08_bad w n s (by omega))
      have HR := hide (rnew08_bad w n s (by omega))
      have q1 : decide ((64 : Int) < n) = false := decide_eq_false (by omega)
      have q3 : decide ((64 : Int) < s) = true := decide_eq_true (by omega)
      have q4 : decide (s ≤ 8192) = false := decide_eq_false (by omega)
      clear hn
      go_enter Try.func9, Try.ntmps9
      go_wp2_with fail
      go_fit HN.out
      rintro e w1 ⟨rfl, rfl⟩
      go_wp2_with fail
      go_fit HR.out
      rintro e2 w2 ⟨rfl, rfl⟩
      go_wp2
      refine bodyPost_ret (results_tmp3 rfl _ _ _) rfl ?_
      exact ⟨rfl, rfl⟩
  · rcases (show (64 < s ∧ s ≤ 8192) ∨ s ≤ 64 ∨ 8192 < s by omega) with ⟨b1, b2⟩ | b1 | b1
    · have HN := hide (new08_bad w n 64 (by omega))
      have HR := hide (rnew08_bad w n 64 (by omega))
      have q1 : decide ((64 : Int) < n) = true := decide_eq_true (by omega)
      have q2 : decide (n ≤ 65536) = false := decide_eq_false (by omega)
      have q3 : decide ((64 : Int) < s) = true := decide_eq_true (by omega)
      have q4 : decide (s ≤ 8192) = true := decide_eq_true (by omega)
      clear hn
      go_enter Try.func9, Try.ntmps9
      go_wp2_with fail
      go_fit HN.out
      rintro e w1 ⟨rfl, rfl⟩
      go_wp2_with fail
      go_fit HR.out
      rintro e2 w2 ⟨rfl, rfl⟩
      go_wp2
      refine bodyPost_ret (results_tmp3 rfl _ _ _) rfl ?_
      exact ⟨rfl, rfl⟩
    · have HN := hide (new08_bad w n s (by omega))
      have HR := hide (rnew08_bad w n s (by omega))
      have q1 : decide ((64 : Int) < n) = true := decide_eq_true (by omega)
      have q2 : decide (n ≤ 65536) = false := decide_eq_false (by omega)
      have q3 : decide ((64 : Int) < s) = false := decide_eq_false (by omega)
      clear hn
      go_enter Try.func9, Try.ntmps9
      go_wp2_with fail
      go_fit HN.out
      rintro e w1 ⟨rfl, rfl⟩
      go_wp2_with fail
      go_fit HR.out
      rintro e2 w2 ⟨rfl, rfl⟩
      go_wp2
      refine bodyPost_ret (results_tmp3 rfl _ _ _) rfl ?_
      exact ⟨rfl, rfl⟩
    · have HN := hide (new08_bad w n s (by omega))
      have HR := hide (rnew08_bad w n s (by omega))
      have q1 : decide ((64 : Int) < n) = true := decide_eq_true (by omega)
      have q2 : decide (n ≤ 65536) = false := decide_eq_false (by omega)
      have q3 : decide ((64 : Int) < s) = true := decide_eq_true (by omega)
      have q4 : decide (s ≤ 8192) = false := decide_eq_false (by omega)
      clear hn
      go_enter Try.func9, Try.ntmps9
      go_wp2_with fail
      go_fit HN.out
      rintro e w1 ⟨rfl, rfl⟩
      go_wp2_with fail
      go_fit HR.out
      rintro e2 w2 ⟨rfl, rfl⟩
      go_wp2
      refine bodyPost_ret (results_tmp3 rfl _ _ _) rfl ?_
      exact ⟨rfl, rfl⟩
end
end Go.Proofs.Ytdianokikhggnaa
