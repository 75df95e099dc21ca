/- Stage 14: slices.SortFunc of acknowledgements, with Ack's own order. -/
import Derived.Test.YthejdacemcldgaaF14c
import Derived.Test.YthejdacemcldgaaS14
namespace Go.Proofs.Ythejdacemcldgaa
set_option maxRecDepth 20000
open Go.RowKit Go.Px Go.Shelf Go.Lib Go.Sort
set_option linter.unusedVariables false
def encA (x : Int × Int) : List Value := [.int .i64 x.1, .int .i64 x.2]
theorem encA_length (x : Int × Int) : (encA x).length = 2 := rfl
theorem acs_flat (l : List (Int × Int)) : acs l = l.flatMap encA := by
  induction l with
  | nil => rfl
  | cons p l ih => rw [List.flatMap_cons, ← ih]; rfl
theorem ackC_lt (x y : Int × Int) : ackC x y < 0 ↔ (x.1 < y.1 ∨ (x.1 = y.1 ∧ y.2 < x.2)) := by
  unfold ackC
  split
  · rename_i h; simp [h]
  · rename_i h
    split <;> simp [h]
theorem swoA : SWO (ltOf ackC) where
  irrefl x := by
    have h := ackC_lt x x
    unfold ltOf
    simp only [decide_eq_false_iff_not, h]; omega
  trans x y z h1 h2 := by
    unfold ltOf at *
    simp only [decide_eq_true_eq, ackC_lt] at *; omega
  ntrans x y z h1 h2 := by
    unfold ltOf at *
    simp only [decide_eq_false_iff_not, ackC_lt] at *; omega
theorem closA_any (x y : Int × Int) (W : World) : Calls Try.prog 26 #[.agg (encA x).toArray, .agg (encA y).toArray] W fun e w' => e = .returned (.int .i64 (ackC x y)) ∧ ∃ q os', w' = grow (W.drewN q) os' := by
  obtain ⟨a, b⟩ := x
  obtain ⟨x, y⟩ := y
  unfold encA
  by_cases h1 : a < x
  · have q1 : decide (a < x) = true := decide_eq_true h1
    have HC := hide (show ackC (a, b) (x, y) = -1 from if_pos (.inl h1))
    go_enter Try.func26, Try.ntmps26
    go_wp2
    go_ret
    exact ⟨by rw [HC.out]; rfl, 0, _, by rw [alloc_eq_grow, alloc_eq_grow, grow_grow]; rfl⟩
  · have q1 : decide (a < x) = false := decide_eq_false h1
    by_cases h2 : a = x
    · subst h2
      by_cases h3 : y < b
      · have q3 : decide (y < b) = true := decide_eq_true h3
        have HC := hide (show ackC (a, b) (a, y) = -1 from if_pos (.inr ⟨rfl, h3⟩))
        go_enter Try.func26, Try.ntmps26
        go_wp2
        go_ret
        exact ⟨by rw [HC.out]; rfl, 0, _, by rw [alloc_eq_grow, alloc_eq_grow, grow_grow]; rfl⟩
      · have q3 : decide (y < b) = false := decide_eq_false h3
        by_cases h4 : b = y
        · subst h4
          have HC := hide (show ackC (a, b) (a, b) = 0 by unfold ackC; simp)
          go_enter Try.func26, Try.ntmps26
          go_wp2
          go_ret
          exact ⟨by rw [HC.out]; rfl, 0, _, by rw [alloc_eq_grow, alloc_eq_grow, grow_grow]; rfl⟩
        · have q4 : (b == y) = false := beq_false_of_ne h4
          have HC := hide (show ackC (a, b) (a, y) = 1 by unfold ackC; simp [h3, h4])
          go_enter Try.func26, Try.ntmps26
          go_wp2
          go_ret
          exact ⟨by rw [HC.out]; rfl, 0, _, by rw [alloc_eq_grow, alloc_eq_grow, grow_grow]; rfl⟩
    · have q2 : (a == x) = false := beq_false_of_ne h2
      have HC := hide (show ackC (a, b) (x, y) = 1 by unfold ackC; simp [h1, h2])
      go_enter Try.func26, Try.ntmps26
      go_wp2
      go_ret
      exact ⟨by rw [HC.out]; rfl, 0, _, by rw [alloc_eq_grow, alloc_eq_grow, grow_grow]; rfl⟩
theorem flatA_length (ds : List (Int × Int)) : (ds.flatMap encA).length = 2 * ds.length := by rw [← acs_flat, acs_length]
theorem flatA_get (ds : List (Int × Int)) (t : Nat) (h : t < 2 * ds.length) : (ds.flatMap encA)[t]? = some ((encA (ds.toArray[t / 2]!))[t % 2]!) := by
  have h1 : t / 2 < ds.length := by omega
  rw [getElem!_pos ds.toArray (t / 2) (by simpa using h1), ← acs_flat]
  rcases (show t % 2 = 0 ∨ t % 2 = 1 by omega) with h2 | h2
  · rw [h2]
    have h0 := acs_get0 h1
    rw [show 2 * (t / 2) = t by omega] at h0
    rw [h0]; simp [encA]
  · rw [h2]
    have h0 := acs_get1 h1
    rw [show 2 * (t / 2) + 1 = t by omega] at h0
    rw [h0]; simp [encA]
theorem addr_add14 (g m : Nat) : (⟨g, 0, none⟩ : Addr).add m = ⟨g, m, none⟩ := by unfold Addr.add; split <;> simp_all
theorem own_holdsA {w : World} {base e n c blk : Nat} {ds : List (Int × Int)} (h : w.ownsRow base e 2 (.slice (some ⟨blk, 0, none⟩) n c) n (ds.flatMap encA)) : HoldsK encA 2 w blk 0 ds.toArray := fun t ht => by
  rw [size_flatK] at ht
  have ht' : t < 2 * ds.length := by simp at ht; omega
  have h1 := h.cells (g := blk) rfl t _ (flatA_get ds t ht')
  rw [addr_add14] at h1
  rw [Nat.zero_add, get_flatK _ _ _ _ ht]
  exact ⟨h1, h.frozenAt t⟩
theorem rd_holdsA {w : World} {blk : Nat} {es : List (Int × Int)} (h : HoldsK encA 2 w blk 0 es.toArray) : Rd w (some ⟨blk, 0, none⟩) (es.flatMap encA) := fun t u hu => by
  have ht : t < 2 * es.length := by rw [← flatA_length]; exact (List.getElem?_eq_some_iff.1 hu).1
  have ht' : t < es.toArray.size * 2 := by simp; omega
  have h1 := (h t (by rw [size_flatK]; exact ht')).1
  rw [Nat.zero_add, get_flatK _ _ _ _ ht'] at h1
  rw [flatA_get es t ht] at hu
  injection hu with hu
  refine ⟨_, rfl, ?_⟩
  rw [addr_add14, h1, ← hu]; rfl
theorem grown_sortA {w : World} {blk : Nat} (n : Nat) (d : Array (Int × Int)) (os : Array Obj) : w.grownBy (sortWorldK encA 2 w blk 0 n d os) (some blk) :=
  ⟨rfl, rfl, rfl, by unfold sortWorldK; rw [size_grow]; unfold putRowK; rw [size_putRow]; exact Nat.le_add_right _ _, fun k hk hne => by
    unfold sortWorldK
    rw [heap_grow_old _ _ (by unfold putRowK; rw [size_putRow]; exact hk)]
    show ((Sort.ahead w n).heap.modify blk _)[k]? = _
    rw [Array.getElem?_modify, if_neg (fun e => hne (by rw [e]))]; rfl⟩
theorem cmpA (blk off size : Nat) (w : World) : CmpLays Try.prog 26 #[] encA 2 ackC blk off size w := fun _ _ _ _ x y => closA_any x y _
theorem sortA_any {w : World} {base n c blk : Nat} {ds : List (Int × Int)} (h : w.ownsRow base 44 2 (.slice (some ⟨blk, 0, none⟩) n c) n (acs ds)) (hn : ds.length = n) (hblk : blk < w.heap.size) (h12 : n ≤ 4096) :
    Calls Try.prog 25 #[.slice (some ⟨blk, 0, none⟩) n c, .func (.func 26) #[] #[]] w fun e w' => e = .returned (.tuple #[]) ∧ ∃ es : List (Int × Int), es.Perm ds ∧ es.Pairwise (fun x y => ¬ (y.1 < x.1 ∨ (y.1 = x.1 ∧ x.2 < y.2))) ∧ Rd w' (some ⟨blk, 0, none⟩) (acs es) ∧ w.grownBy w' (some blk) := by
  rw [acs_flat] at h
  have eg : ∀ args w, (callFunc 26 args).run Try.prog w = .ok (.enter 26 args) w := enters_of Try.func26 (by kernel_rfl) rfl
  have hsz : ds.toArray.size = n := by simpa using hn
  have hcon := AnyQ.slices_SortFunc Try.sortAck 2 Try.isAgg44 Try.sizeOf44 encA (fun _ => rfl) (fun x v hv => by simp [encA] at hv; rcases hv with rfl | rfl <;> rfl) ackC swoA 26 #[] blk 0 c ds.toArray w eg (cmpA blk 0 _ w) (own_holdsA h) hblk (by omega)
  rw [hsz] at hcon
  refine (show Calls Try.prog 25 _ _ _ from hcon).mono ?_
  rintro e w' ⟨rfl, d', n', os, hp, hs, rfl⟩
  have hsz' : d'.size = ds.length := by rw [hp.1]; simp
  have hperm : d'.toList.Perm ds := by
    have := hp.2.2
    rw [Array.extract_eq_self_of_le (by omega), Array.extract_eq_self_of_le (by simp; omega)] at this
    simpa using this
  refine ⟨rfl, d'.toList, hperm, ?_, ?_, grown_sortA _ _ _⟩
  · rw [List.pairwise_iff_getElem]
    intro i j hi hj hij hlt
    have hi' : i < d'.size := by simpa using hi
    have hj' : j < d'.size := by simpa using hj
    have := hs i j (Nat.zero_le _) hij (by omega)
    rw [getElem!_pos d' j hj', getElem!_pos d' i hi'] at this
    unfold ltOf at this
    simp only [decide_eq_false_iff_not, ackC_lt] at this
    simp only [Array.getElem_toList] at hlt
    exact this hlt
  · rw [acs_flat]
    refine rd_holdsA ?_
    rw [show d'.toList.toArray = d' by simp]
    exact holdsK_grow encA 2 _ os blk 0 d' (by unfold putRowK; rw [size_putRow]; exact hblk) (holdsK_putRowK encA 2 (Sort.ahead w n') blk 0 ds.toArray d' (holdsK_ahead encA 2 w n' blk 0 _ (own_holdsA h)) (by simp [hsz']))
end Go.Proofs.Ythejdacemcldgaa
