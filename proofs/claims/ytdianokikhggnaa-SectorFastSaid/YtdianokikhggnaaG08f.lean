/- Laws 8: step of any call. -/
import Derived.Test.YtdianokikhggnaaG08e
import Derived.Test.YtdianokikhggnaaTy8
import Derived.Test.YtdianokikhggnaaRws
namespace Go.Proofs.Ytdianokikhggnaa
set_option maxRecDepth 20000
open Go.RowKit Go.Px Go.Maps
set_option linter.unusedVariables false
section
variable {w w' w1 w2 : World} {t f lm bm t2 f2 : Nat} {cs cs' : List Value} {d d' : Dk}
set_option maxHeartbeats 800000 in
theorem step08_any (h : Both w t f lm bm t2 f2 d) {Q : Nat → Prop} {o : Op08D} {cs : List Value} (hI : tyOp08.Is w Q o cs) (hQ : ∀ b, Q b → Free t f lm bm t2 f2 b) :
    Calls Try.prog 10 #[.pointer (some ⟨t, 0, none⟩), .pointer (some ⟨t2, 0, none⟩), .agg cs.toArray] w fun e w' => e = .returned (.bool true) ∧ (∃ d', Both w' t f lm bm t2 f2 d') ∧ Fr (Six t f lm bm t2 f2) w w' := by
  obtain ⟨kd, i, n, b, bA, bn, bc, ke, kA, kn, kc, kv, torn, cut, rfl, rfl, hk1, hk2, hi1, hi2, hn1, hn2, hb1, hb2, hb3, hb4, hb5, hc1, hc2, hc3, hc4, hc5, hc6, ht1, ht2, hu1, hu2⟩ := Op08_out hI
  obtain rfl := blsrows hc6
  have hB : bys b ≠ [] → ∀ a, bA = some a → Free t f lm bm t2 f2 a.block := fun hne a ha => hQ _ (hb5 (fun e => hne (by rw [e]; rfl)) a ha)
  have hK : bls ke ≠ [] → ∀ a, kA = some a → Free t f lm bm t2 f2 a.block := fun hne a ha => hQ _ (hc5 (fun e => hne (by rw [e]; rfl)) a ha)
  rcases (show kd = 1 ∨ kd = 2 ∨ kd = 3 ∨ kd = 4 ∨ kd = 5 ∨ kd = 6 ∨ kd = 8 ∨ (kd ≠ 1 ∧ kd ≠ 2 ∧ kd ≠ 3 ∧ kd ≠ 4 ∧ kd ≠ 5 ∧ kd ≠ 6 ∧ kd ≠ 8) by omega) with rfl | rfl | rfl | rfl | rfl | rfl | rfl | hkd
  · exact (step08_1 h i n torn cut bA kA bn bc kn kc hi1 hi2 hn1 hn2).mono (fun e w' h => ⟨h.1, ⟨_, h.2.1⟩, h.2.2⟩)
  · exact (step08_2 h i n torn cut bA kA bn bc kn kc b hi1 hi2 hb1 hb2 hb3 hb4 hB).mono (fun e w' h => ⟨h.1, ⟨_, h.2.1⟩, h.2.2⟩)
  · exact (step08_3 h i n torn cut bA kA bn bc kn kc).mono (fun e w' h => ⟨h.1, ⟨_, h.2.1⟩, h.2.2⟩)
  · exact (step08_4 h i n torn cut bA kA bn bc kn kc ke hu1 hu2 hc1 (by omega) hc4 hK).mono (fun e w' h => ⟨h.1, ⟨_, h.2.1⟩, h.2.2⟩)
  · exact (step08_5 h i n torn cut bA kA bn bc kn kc b hi1 hi2 hb1 hb2 hb3 hb4 hB).mono (fun e w' h => ⟨h.1, ⟨_, h.2.1⟩, h.2.2⟩)
  · exact (step08_6 h i n torn cut bA kA bn bc kn kc hi1 hi2).mono (fun e w' h => ⟨h.1, ⟨_, h.2.1⟩, h.2.2⟩)
  · exact (step08_8 h i n torn cut bA kA bn bc kn kc hn2).mono (fun e w' h => ⟨h.1, ⟨_, h.2.1⟩, h.2.2⟩)
  · exact (step08_7 h i n torn cut bA kA bn bc kn kc kd hkd).mono (fun e w' h => ⟨h.1, ⟨_, h.2.1⟩, h.2.2⟩)
/-- What both may write lies where nothing was. -/
theorem six_lo {B : Nat} (hfree : ∀ b, ¬ Free t f lm bm t2 f2 b → B ≤ b) : ∀ k, Six t f lm bm t2 f2 k → B ≤ k := fun k hk => hfree k (fun hx => by
  rcases hk with hk | hk
  · exact hx.1 hk
  · exact hx.2 hk)
theorem free_lo {B : Nat} (hfree : ∀ b, ¬ Free t f lm bm t2 f2 b → B ≤ b) : ∀ b, b < B → Free t f lm bm t2 f2 b := fun b hb => Classical.byContradiction fun hx => by
  have := hfree b hx
  omega
end
end Go.Proofs.Ytdianokikhggnaa
