/- Package sector: a disk that nobody made. -/
import Derived.Test.YtdianokikhggnaaF08n
namespace Go.Proofs.Ytdianokikhggnaa
set_option maxRecDepth 20000
open Go.RowKit Go.Px Go.Maps
set_option linter.unusedVariables false
/-- It says of itself that nobody made it. -/
def NoDk (p : Value) (w : World) : Prop := Calls Try.prog 35 #[p] w fun e w' => e = .returned (.bool false) ∧ w = w'
section
variable {w : World} {p : Value}
theorem no_read (h : NoDk p w) (i n : Int) : Calls Try.prog 18 #[p, .int .i64 i, .int .i64 n] w fun e w' => e = .returned (.tuple #[.slice none 0 0, .int .i64 4]) ∧ w = w' := by
  unfold NoDk at h
  have H := hide h
  go_enter Try.func18, Try.ntmps18
  go_wp2_with fail
  go_fit H.out
  rintro x w1 ⟨rfl, rfl⟩
  go_wp2
  refine bodyPost_ret (results_tmp2 rfl _ _ _) rfl ?_
  exact ⟨rfl, rfl⟩
theorem no_shape (h : NoDk p w)  : Calls Try.prog 21 #[p] w fun e w' => e = .returned (.tuple #[.int .i64 0, .int .i64 0]) ∧ w = w' := by
  unfold NoDk at h
  have H := hide h
  go_enter Try.func21, Try.ntmps21
  go_wp2_with fail
  go_fit H.out
  rintro x w1 ⟨rfl, rfl⟩
  go_wp2
  refine bodyPost_ret (results_tmp2 rfl _ _ _) rfl ?_
  exact ⟨rfl, rfl⟩
theorem no_write (h : NoDk p w) (i : Int) (A : Option Addr) (n c : Nat) : Calls Try.prog 15 #[p, .int .i64 i, .slice A n c] w fun e w' => e = .returned (.int .i64 4) ∧ w = w' := by
  unfold NoDk at h
  have H := hide h
  go_enter Try.func15, Try.ntmps15
  go_wp2_with fail
  go_fit H.out
  rintro x w1 ⟨rfl, rfl⟩
  go_wp2
  go_ret
  exact ⟨rfl, rfl⟩
theorem no_barrier (h : NoDk p w)  : Calls Try.prog 13 #[p] w fun e w' => e = .returned (.int .i64 4) ∧ w = w' := by
  unfold NoDk at h
  have H := hide h
  go_enter Try.func13, Try.ntmps13
  go_wp2_with fail
  go_fit H.out
  rintro x w1 ⟨rfl, rfl⟩
  go_wp2
  go_ret
  exact ⟨rfl, rfl⟩
theorem no_spoil (h : NoDk p w) (i : Int) (A : Option Addr) (n c : Nat) : Calls Try.prog 22 #[p, .int .i64 i, .slice A n c] w fun e w' => e = .returned (.int .i64 4) ∧ w = w' := by
  unfold NoDk at h
  have H := hide h
  go_enter Try.func22, Try.ntmps22
  go_wp2_with fail
  go_fit H.out
  rintro x w1 ⟨rfl, rfl⟩
  go_wp2
  go_ret
  exact ⟨rfl, rfl⟩
theorem no_bad (h : NoDk p w) (i : Int) : Calls Try.prog 23 #[p, .int .i64 i] w fun e w' => e = .returned (.int .i64 4) ∧ w = w' := by
  unfold NoDk at h
  have H := hide h
  go_enter Try.func23, Try.ntmps23
  go_wp2_with fail
  go_fit H.out
  rintro x w1 ⟨rfl, rfl⟩
  go_wp2
  go_ret
  exact ⟨rfl, rfl⟩
theorem no_fuse (h : NoDk p w) (n : Int) : Calls Try.prog 12 #[p, .int .i64 n] w fun e w' => e = .returned (.int .i64 4) ∧ w = w' := by
  unfold NoDk at h
  have H := hide h
  go_enter Try.func12, Try.ntmps12
  go_wp2_with fail
  go_fit H.out
  rintro x w1 ⟨rfl, rfl⟩
  go_wp2
  go_ret
  exact ⟨rfl, rfl⟩
theorem no_copy (h : NoDk p w)  : Calls Try.prog 14 #[p] w fun e w' => e = .returned (.pointer none) ∧ w = w' := by
  unfold NoDk at h
  have H := hide h
  go_enter Try.func14, Try.ntmps14
  go_wp2_with fail
  go_fit H.out
  rintro x w1 ⟨rfl, rfl⟩
  go_wp2
  go_ret
  exact ⟨rfl, rfl⟩
theorem no_loose (h : NoDk p w)  : Calls Try.prog 16 #[p] w fun e w' => e = .returned (.slice none 0 0) ∧ w = w' := by
  unfold NoDk at h
  have H := hide h
  go_enter Try.func16, Try.ntmps16
  go_wp2_with fail
  go_fit H.out
  rintro x w1 ⟨rfl, rfl⟩
  go_wp2
  go_ret
  exact ⟨rfl, rfl⟩
theorem no_crash (h : ∀ W, Below w.heap.size w W → NoDk p W) (K : Option Addr) (kn kc : Nat) (torn cut : Int) : Calls Try.prog 17 #[p, .agg #[.slice K kn kc, .int .i64 torn, .int .i64 cut]] w fun e w' => e = .returned (.int .i64 4) ∧ Below w.heap.size w w' := by
  have hb : Below w.heap.size w (w.alloc (.cells #[.slice K kn kc, .int .i64 torn, .int .i64 cut] 32)) := (Below.refl _ _).alloc (Nat.le_refl _) _
  have h2 := h _ hb
  unfold NoDk at h2
  have H := hide h2
  go_enter Try.func17, Try.ntmps17
  go_wp2_with fail
  go_fit H.out
  rintro x w1 ⟨rfl, rfl⟩
  go_wp2
  go_ret
  exact ⟨rfl, hb⟩
end
end Go.Proofs.Ytdianokikhggnaa
