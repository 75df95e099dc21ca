/- Proofs: the program's Prove of any tree and place. -/
import Derived.Test.YtcpnobhdogpfiaaDoorF25y
import Derived.Test.YtcpnobhdogpfiaaDoorF25j
import Derived.Deep.DeepFit
namespace Go.Proofs.YtcpnobhdogpfiaaDoor
set_option maxRecDepth 20000
open Go.RowKit Go.Px
set_option linter.unusedVariables false
/-- The place and the rows that Prove tells. -/
def pvI (ls : List (List Nat)) (i : Int) : Int := if plE ls i = 0 then i else 0
def pvR (ls : List (List Nat)) (i : Int) : List (List Nat) := if plE ls i = 0 then provD ls i.toNat else []
theorem prove_any (A : Option Addr) (n c : Nat) (ls : List (List Nat)) (i : Int) (w : World) {Q : Nat → Prop} (hT : tyTree.Is w Q ls [.slice A n c]) (ht : Tab w) :
    Calls Tryd.prog 33 #[.agg #[.slice A n c], .int .i64 i] w fun e w' => ∃ B K C, e = .returned (.tuple #[.agg #[.int .i64 (pvI ls i), .slice B K C], .int .i64 (plE ls i)]) ∧ tyTree.Is w' (fun b => w.heap.size ≤ b) (pvR ls i) [.slice B K C] ∧ Below w.heap.size w w' := by
  rcases plE_cases' ls i with ⟨hok, h⟩ | ⟨l, r, rfl, hok, hi, h⟩ | ⟨l, r, hlr, hok, ⟨h0, h1⟩, h⟩
  · have e1 : pvI ls i = 0 := by unfold pvI; rw [h]; rfl
    have e2 : pvR ls i = [] := by unfold pvR; rw [h]; rfl
    rw [e1, e2, h]
    refine (prove_no A n c ls i w hT ht (.inl rfl) h).mono ?_
    rintro e w' ⟨rfl, hb⟩
    exact ⟨none, 0, 0, rfl, tree_nil, hb⟩
  · have e1 : pvI (l :: r) i = 0 := by unfold pvI; rw [h]; rfl
    have e2 : pvR (l :: r) i = [] := by unfold pvR; rw [h]; rfl
    rw [e1, e2, h]
    refine (prove_no A n c (l :: r) i w hT ht (.inr rfl) h).mono ?_
    rintro e w' ⟨rfl, hb⟩
    exact ⟨none, 0, 0, rfl, tree_nil, hb⟩
  · obtain ⟨k, rfl⟩ : ∃ k : Nat, i = (k : Int) := ⟨i.toNat, by omega⟩
    obtain ⟨l', hl', h2, h3⟩ := okT_cases hok
    have hll : l = l' := by
      obtain ⟨r', hr'⟩ := treeD_head l'
      rw [hlr, hr'] at hl'
      injection hl'
    subst hll
    subst hl'
    have e1 : pvI (treeD l) (k : Int) = k := by unfold pvI; rw [h]; rfl
    have e2 : pvR (treeD l) (k : Int) = provD (treeD l) k := by unfold pvR; rw [h]; rfl
    rw [e1, e2, h]
    refine (prove_yes A n c l k w hT ht h3 (by omega) h).mono ?_
    rintro e w' ⟨B, K, C, rfl, hP, hb⟩
    exact ⟨B, K, C, rfl, proof_tree hP, hb⟩
end Go.Proofs.YtcpnobhdogpfiaaDoor
