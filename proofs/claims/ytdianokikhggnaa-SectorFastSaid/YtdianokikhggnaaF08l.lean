/- Package sector: New, Crash. -/
import Derived.Test.YtdianokikhggnaaF08k
namespace Go.Proofs.Ytdianokikhggnaa
set_option maxRecDepth 20000
open Go.RowKit Go.Px Go.Maps
set_option linter.unusedVariables false
section
variable {w : World} {Q : Nat → Prop} {t f lm bm : Nat} {d : Dk}
def Dk.new (n s : Nat) : Dk := ⟨s, List.replicate n (List.replicate s 0), fun _ => none, fun _ => false, -1⟩
theorem Dk.new_ok {n s : Nat} (h1 : 1 ≤ n) (h2 : n ≤ 65536) (h3 : 1 ≤ s) (h4 : s ≤ 8192) : (Dk.new n s).Ok :=
  ⟨h3, h4, by simp [Dk.new]; omega, by simp [Dk.new]; omega, fun b hb => by rw [List.eq_of_mem_replicate hb]; simp [Dk.new], fun i b h => (by cases h), fun i h => (by cases h), by show (-1 : Int) ≤ -1; omega, by show (-1 : Int) ≤ _; omega⟩
set_option maxHeartbeats 800000 in
theorem new08_ok (w : World) (n s : Nat) (h1 : 1 ≤ n) (h2 : n ≤ 65536) (h3 : 1 ≤ s) (h4 : s ≤ 8192) :
    Calls Try.prog 24 #[.int .i64 (n : Int), .int .i64 (s : Int)] w fun e w' => e = .returned (.tuple #[.pointer (some ⟨w.heap.size + 3, 0, none⟩), .int .i64 0]) ∧ DIs w' (fun _ => False) (w.heap.size + 3) w.heap.size (w.heap.size + 1) (w.heap.size + 2) (Dk.new n s) ∧ w'.heap.size = w.heap.size + 4 ∧ Below w.heap.size w w' := by
  have hmm := @run_makeMap Try.prog
  have hm1 := fun W => run_mkB (P := Try.prog) (t := 55) (e := 29) (z := .slice none 0 0) (bytes := 24) Try.underlying55 (by kernel_rfl) rfl (N := n) (by omega) (by omega) W
  have q1 : decide ((n : Int) < 1) = false := decide_eq_false (by omega)
  have q2 : decide ((65536 : Int) < (n : Int)) = false := decide_eq_false (by omega)
  have q3 : decide ((s : Int) < 1) = false := decide_eq_false (by omega)
  have q4 : decide ((8192 : Int) < (s : Int)) = false := decide_eq_false (by omega)
  go_enter Try.func24, Try.ntmps24
  go_wp2
  refine bodyPost_ret (results_tmp2 rfl _ _ _) rfl ?_
  obtain ⟨w1, hw1⟩ : ∃ y, w.alloc (.cells (Array.replicate n (.slice none 0 0)) 29) = y := ⟨_, rfl⟩
  rw [hw1]
  have z1 : w1.heap.size = w.heap.size + 1 := by rw [← hw1]; simp
  have B1 : Blk w1 w.heap.size (List.replicate n (.slice none 0 0)) 29 := by
    rw [← hw1, show Array.replicate n (Value.slice none 0 0) = (List.replicate n (Value.slice none 0 0)).toArray by simp]
    exact Blk.new w _ _
  have b1 : Below w.heap.size w w1 := by rw [← hw1]; exact (Below.refl _ _).alloc (Nat.le_refl _) _
  have M1 := World.ownsMap_made w1 Try.prog 3 rdS
  obtain ⟨w2, hw2⟩ : ∃ y, w1.alloc (.map #[] 0) = y := ⟨_, rfl⟩
  rw [hw2] at M1 ⊢
  have z2 : w2.heap.size = w.heap.size + 2 := by rw [← hw2]; simp [z1]
  have b2 : Below w1.heap.size w1 w2 := by rw [← hw2]; exact (Below.refl _ _).alloc (Nat.le_refl _) _
  have M2 := World.ownsMap_made w2 Try.prog 3 (unitElem (H := Value))
  obtain ⟨w3, hw3⟩ : ∃ y, w2.alloc (.map #[] 0) = y := ⟨_, rfl⟩
  rw [hw3] at M2 ⊢
  have z3 : w3.heap.size = w.heap.size + 3 := by rw [← hw3]; simp [z2]
  have b3 : Below w2.heap.size w2 w3 := by rw [← hw3]; exact (Below.refl _ _).alloc (Nat.le_refl _) _
  rw [z1] at M1
  rw [z2] at M2
  have z3' : w3.heap.size = w.heap.size + 3 := z3
  obtain ⟨w4, hw4⟩ : ∃ y, w3.alloc (.cells #[.int .i64 (s : Int), .slice (some ⟨w.heap.size, 0, none⟩) n n, .map (some (w.heap.size + 1)), .map (some (w.heap.size + 1 + 1)), .int .i64 (-1)] 59) = y := ⟨_, rfl⟩
  have B4 : Blk w4 (w.heap.size + 3) [.int .i64 (s : Int), .slice (some ⟨w.heap.size, 0, none⟩) n n, .map (some (w.heap.size + 1)), .map (some (w.heap.size + 2)), .int .i64 (-1)] 59 := by
    rw [← hw4, ← z3]; exact Blk.new w3 _ _
  have b4 : Below w3.heap.size w3 w4 := by rw [← hw4]; exact (Below.refl _ _).alloc (Nat.le_refl _) _
  have z4 : w4.heap.size = w.heap.size + 4 := by rw [← hw4]; simp [z3]
  rw [hw4]
  have b04 : Below w.heap.size w w4 := ((b1.trans (b2.mono (by omega))).trans (b3.mono (by omega))).trans (b4.mono (by omega))
  have b14 : Below w1.heap.size w1 w4 := (b2.trans (b3.mono (by omega))).trans (b4.mono (by omega))
  have f24 : Fr (fun _ => False) w2 w4 := Fr.of_below (b3.trans (b4.mono (by omega)))
  have f34 : Fr (fun _ => False) w3 w4 := Fr.of_below b4
  refine ⟨rfl, ⟨⟨n, ?_, ?_, ?_⟩, ⟨_, B1.below b14, ?_, fun i b hb => ?_⟩, ⟨_, own_tight (own_fr M1 f24 (fun h => h)), fun i => rfl⟩, ⟨_, own_tight (own_fr M2 f34 (fun h => h)), fun i => rfl⟩, Dk.new_ok h1 h2 h3 h4, ⟨by omega, by omega, by omega, by omega, by omega, by omega⟩, fun b hb => hb.elim⟩, z4, b04⟩
  · have e : (Dk.new n s).fast.length = n := by simp [Dk.new]
    rw [e]; exact B4
  · simp [Dk.new]
  · omega
  · simp [Dk.new]
  · have hb' : (List.replicate n (List.replicate s (0 : UInt8)))[i]? = some b := hb
    obtain ⟨hi, hbi⟩ := List.getElem?_eq_some_iff.1 hb'
    rw [List.getElem_replicate] at hbi
    rw [List.length_replicate] at hi
    subst hbi
    exact ⟨.slice none 0 0, by rw [List.getElem?_replicate, if_pos hi], none, 0, 0, rfl, Nat.le_refl _, by omega, .inl ⟨rfl, rfl, rfl, by simp⟩⟩
theorem new08_bad (w : World) (n s : Int) (hn : ¬ (1 ≤ n ∧ n ≤ 65536 ∧ 1 ≤ s ∧ s ≤ 8192)) :
    Calls Try.prog 24 #[.int .i64 n, .int .i64 s] w fun e w' => e = .returned (.tuple #[.pointer none, .int .i64 80]) ∧ w = w' := by
  rcases (show n < 1 ∨ (1 ≤ n ∧ 65536 < n) ∨ (1 ≤ n ∧ n ≤ 65536 ∧ s < 1) ∨ (1 ≤ n ∧ n ≤ 65536 ∧ 1 ≤ s ∧ 8192 < s) by omega) with h1 | ⟨h1, h2⟩ | ⟨h1, h2, h3⟩ | ⟨h1, h2, h3, h4⟩
  · have q1 : decide (n < 1) = true := decide_eq_true h1
    clear hn
    go_enter Try.func24, Try.ntmps24
    go_wp2
    refine bodyPost_ret (results_tmp2 rfl _ _ _) rfl ?_
    exact ⟨rfl, rfl⟩
  · have q1 : decide (n < 1) = false := decide_eq_false (by omega)
    have q2 : decide ((65536 : Int) < n) = true := decide_eq_true h2
    clear hn
    go_enter Try.func24, Try.ntmps24
    go_wp2
    refine bodyPost_ret (results_tmp2 rfl _ _ _) rfl ?_
    exact ⟨rfl, rfl⟩
  · have q1 : decide (n < 1) = false := decide_eq_false (by omega)
    have q2 : decide ((65536 : Int) < n) = false := decide_eq_false (by omega)
    have q3 : decide (s < 1) = true := decide_eq_true h3
    clear hn
    go_enter Try.func24, Try.ntmps24
    go_wp2
    refine bodyPost_ret (results_tmp2 rfl _ _ _) rfl ?_
    exact ⟨rfl, rfl⟩
  · have q1 : decide (n < 1) = false := decide_eq_false (by omega)
    have q2 : decide ((65536 : Int) < n) = false := decide_eq_false (by omega)
    have q3 : decide (s < 1) = false := decide_eq_false (by omega)
    have q4 : decide ((8192 : Int) < s) = true := decide_eq_true h4
    clear hn
    go_enter Try.func24, Try.ntmps24
    go_wp2
    refine bodyPost_ret (results_tmp2 rfl _ _ _) rfl ?_
    exact ⟨rfl, rfl⟩
end
end Go.Proofs.Ytdianokikhggnaa
