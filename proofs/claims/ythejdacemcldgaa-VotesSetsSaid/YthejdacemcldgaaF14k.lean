/- Stage 14: the closure of Behind. -/
import Derived.Test.YthejdacemcldgaaF14j
namespace Go.Proofs.Ythejdacemcldgaa
set_option maxRecDepth 20000
open Go.RowKit Go.Px
set_option linter.unusedVariables false
/-- Has a node told a number, or more? -/
def toldB (l : List (Int × Int)) (num v : Int) : Bool := (numA l v).2 && decide (num ≤ (numA l v).1)
set_option maxHeartbeats 800000 in
theorem behind1_any (A : Option Addr) (n c : Nat) (l : List (Int × Int)) (v num : Int) (b1 b2 : Nat) (w : World) (hn : l.length = n) (h63 : n ≤ 1000000) (hr : Rd w A (acs l)) (c1 : w.cell? ⟨b1, 0, none⟩ = some (.slice A n c)) (c2 : w.cell? ⟨b2, 0, none⟩ = some (.int .i64 num)) :
    Calls Try.prog 40 #[.int .i64 v, .pointer (some ⟨b1, 0, none⟩), .pointer (some ⟨b2, 0, none⟩)] w fun e w' => e = .returned (.bool (toldB l num v)) ∧ Below w.heap.size w w' := by
  have HN := hide (num_any A n c l v w hn (by omega) hr)
  have C2 := hide (fun (X : World) (hX : Below w.heap.size w X) => below_cell14 hX c2)
  clear hn hr
  go_enter Try.func40, Try.ntmps40
  go_wp2_with fail
  go_fit HN.out
  rintro e w1 ⟨rfl, hb1⟩
  have c3 := C2.out w1 hb1
  obtain ⟨m, hm⟩ : ∃ y, (numA l v).1 = y := ⟨_, rfl⟩
  obtain ⟨f, hf⟩ : ∃ y, (numA l v).2 = y := ⟨_, rfl⟩
  have HT := hide (show toldB l num v = (f && decide (num ≤ m)) by unfold toldB; rw [hm, hf])
  rw [hm, hf]
  clear hm hf
  cases f with
  | false =>
    go_wp2
    go_ret
    exact ⟨by rw [HT.out]; rfl, hb1⟩
  | true =>
    have HT2 := hide (show toldB l num v = decide (num ≤ m) by rw [HT.out]; rfl)
    clear HT
    go_wp2
    go_ret
    exact ⟨by rw [HT2.out]; rfl, hb1⟩
end Go.Proofs.Ythejdacemcldgaa
