/- Stage 14: votes.Add. -/
import Derived.Test.YthejdacemcldgaaF14d
import Derived.Test.YthejdacemcldgaaS14b
import Derived.Test.YthejdacemcldgaaICl
namespace Go.Proofs.Ythejdacemcldgaa
set_option maxRecDepth 20000
open Go.RowKit Go.Px Go.Shelf Go.Lib
open Go.Sort hiding Below
set_option linter.unusedVariables false
theorem below_put14 {B : Nat} {w W : World} (h : Below B w W) {blk : Nat} (hb : B ≤ blk) (n off : Nat) (d : Array Int) : Below B w (putRow (Value.int .i64) (Sort.ahead W n) blk off d) :=
  ⟨h.os, h.tape, h.output, by rw [size_putRow]; exact h.size, fun k hk => by
    rw [← h.block k hk]
    show ((Sort.ahead W n).heap.modify blk _)[k]? = _
    rw [Array.getElem?_modify, if_neg (by omega)]; rfl⟩
theorem below_grow14 {B : Nat} {w W : World} (h : Below B w W) (hB : B ≤ w.heap.size) (os : Array Obj) : Below B w (grow W os) :=
  ⟨h.os, h.tape, h.output, by rw [size_grow]; have := h.size; omega, fun k hk => by
    rw [heap_grow_old _ _ (by have := h.size; omega)]; exact h.block k hk⟩
theorem rd_holds14 {w : World} {blk off : Nat} {l : List Int} (h : Holds (Value.int .i64) w blk off l.toArray) : Rd w (some ⟨blk, off, none⟩) (ints l) := fun j u hu => by
  have hj : j < l.length := by
    have := (List.getElem?_eq_some_iff.1 hu).1
    simpa [ints] using this
  have := (h j (by simpa using hj)).1
  refine ⟨_, rfl, ?_⟩
  rw [ints_get hj] at hu
  injection hu with hu
  subst hu
  have e : (⟨blk, off, none⟩ : Addr).add j = ⟨blk, off + j, none⟩ := by unfold Addr.add; split <;> simp_all
  rw [e, this]
  simp [getElem!_pos, hj]
theorem own_holdsI {w : World} {base n c blk : Nat} {zs : List Int} (h : w.ownsRow base 3 1 (.slice (some ⟨blk, 0, none⟩) n c) n (ints zs)) : Holds (Value.int .i64) w blk 0 zs.toArray := fun t ht => by
  have ht' : t < zs.length := by simpa using ht
  have h1 := h.cells (g := blk) rfl t _ (ints_get ht')
  rw [addr_add14] at h1
  rw [Nat.zero_add, getElem!_pos zs.toArray t ht]
  exact ⟨by simpa using h1, h.frozenAt t⟩
/-- What is sorted and has each once. -/
theorem compact_set (zs : List Int) : Asc (Lib.compact (zs.mergeSort fun x y => decide (x ≤ y))) ∧ (∀ x, x ∈ Lib.compact (zs.mergeSort fun x y => decide (x ≤ y)) ↔ x ∈ zs) ∧ (Lib.compact (zs.mergeSort fun x y => decide (x ≤ y))).length ≤ zs.length := by
  obtain ⟨d, hd⟩ : ∃ d, (zs.mergeSort fun x y => decide (x ≤ y)) = d := ⟨_, rfl⟩
  have hperm : d.Perm zs := by rw [← hd]; exact List.mergeSort_perm _ _
  have hs : d.Pairwise (· ≤ ·) := by
    have := List.pairwise_mergeSort (le := fun x y : Int => decide (x ≤ y)) (by intro a b c; simp; omega) (by intro a b; simp; omega) zs
    rw [hd] at this
    simpa using this
  rw [hd]
  obtain ⟨hc1, hc2⟩ := compact_sorted d.toArray (fun i j hij hj => by
    have hj' : j < d.length := by simpa using hj
    rw [getElem!_pos d.toArray i (by simp; omega), getElem!_pos d.toArray j hj]
    simpa using List.pairwise_iff_getElem.1 hs i j (by omega) hj' hij) d.toArray.size (Nat.le_refl _)
  have hcl : Lib.compact d = compactUpTo d.toArray d.toArray.size := rfl
  refine ⟨by rw [hcl]; exact hc1, fun x => ?_, ?_⟩
  · rw [hcl, hc2, ← hperm.mem_iff]
    constructor
    · rintro ⟨j, hj, rfl⟩; rw [getElem!_pos d.toArray j hj]; simp
    · intro hx
      obtain ⟨j, hj, rfl⟩ := List.getElem_of_mem hx
      exact ⟨j, by simpa using hj, by rw [getElem!_pos d.toArray j (by simpa using hj)]; simp⟩
  · have := Lib.compact_length_le d
    rw [hperm.length_eq] at this
    exact this
set_option maxHeartbeats 1600000 in
theorem madd_any (A : Option Addr) (n c : Nat) (l : List Int) (v : Int) (w : World) (hn : l.length = n) (h63 : n ≤ 100000) (hr : Rd w A (ints l)) :
    Calls Try.prog 10 #[.slice A n c, .int .i64 v] w fun e w' => ∃ (o : List Int) (B : Option Addr) (d : Nat), e = .returned (.slice B o.length d) ∧ Rd w' B (ints o) ∧ AddOf l v o ∧ o.length ≤ n + 1 ∧ o.length ≤ d ∧ d ≤ maxLen ∧ Below w.heap.size w w' := by
  have HC := hide (iclone_any A n c l w hn (by omega) hr)
  have Hn := hide hn
  clear hn
  go_enter Try.func10, Try.ntmps10
  go_wp2_with fail
  go_fit HC.out
  rintro e w1 ⟨u, rfl, hO1, hb1⟩
  go_wp2_with (first | (with_reducible refine stop_append rfl ?_) | (with_reducible refine stop_copy rfl ?_) | (with_reducible refine stop_make rfl ?_))
  refine (Grow.start hO1 hb1.size).push rfl rfl rfl tInts rfl rfl rfl (by omega) (by omega) ?_
  intro v2 w2 hG2 _
  have hO2 := hG2.owns
  rw [show ints l ++ [.int .i64 v] = ints (l ++ [v]) from by rw [ints_append]; rfl] at hO2
  have hb2 : Below w.heap.size w w2 := hb1.grown hG2.grown hb1.size (fun g hg => (own14_lt hO1 g hg).1)
  obtain ⟨g, c2, rfl, hwg, hc2, hcm2⟩ : ∃ g c2, v2 = .slice (some ⟨g, 0, none⟩) (n + 1) c2 ∧ w.heap.size ≤ g ∧ n + 1 ≤ c2 ∧ c2 ≤ maxLen := by
    rcases hO2.2 with ⟨_, h2⟩ | ⟨g, cap, cur, rfl, hb, hg, h1, h2, _⟩
    · exact absurd h2 (by omega)
    · exact ⟨g, cap, rfl, hb, h1, h2⟩
  have hgs := (own14_lt hO2 g rfl).2
  have hzl : (l ++ [v]).length = n + 1 := by rw [List.length_append, Hn.out]; rfl
  have hH2 := own_holdsI hO2
  have hS := Try.slices_Sort_int g 0 c2 (l ++ [v]) w2 hH2 hgs (by omega)
  obtain ⟨hca, hcm, hcl⟩ := compact_set (l ++ [v])
  obtain ⟨zs, hzs⟩ : ∃ y, ((l ++ [v]).mergeSort fun x y => decide (x ≤ y)) = y := ⟨_, rfl⟩
  have hzsl : zs.length = n + 1 := by rw [← hzs, List.length_mergeSort, hzl]
  rw [hzs] at hS hca hcm hcl
  rw [hzl] at hS hcl
  have HS := hide hS
  have HH2 := hide hH2
  have HA := hide (show AddOf l v (Lib.compact zs) from ⟨hca, fun x => by rw [hcm]; simp⟩)
  clear hS hca hcm hzs hzl hO1 hO2 hG2 hH2
  go_wp2_with fail
  refine HS.out.mono ?_
  rintro e w3 ⟨rfl, m, os, rfl⟩
  have hH3 : Holds (Value.int .i64) (grow (putRow (Value.int .i64) (Sort.ahead w2 m) g 0 zs.toArray) os) g 0 zs.toArray :=
    holds_grow _ _ _ _ _ _ (by rw [size_putRow]; exact hgs) (holds_putRow _ _ _ _ (l ++ [v]).toArray zs.toArray (holds_ahead _ _ _ _ _ _ HH2.out) (by simp [hzsl, Hn.out]))
  have hb3 : Below w.heap.size w (grow (putRow (Value.int .i64) (Sort.ahead w2 m) g 0 zs.toArray) os) := below_grow14 (below_put14 hb2 hwg m 0 _) (Nat.le_refl _) os
  obtain ⟨W, hW⟩ : ∃ y, grow (putRow (Value.int .i64) (Sort.ahead w2 m) g 0 zs.toArray) os = y := ⟨_, rfl⟩
  rw [hW] at hH3 hb3
  have hC := Try.slices_Compact_int g 0 c2 zs W hH3 (by unfold maxLen at hcm2; omega) (by omega)
  rw [hzsl] at hC
  obtain ⟨o, ho⟩ : ∃ y, Lib.compact zs = y := ⟨_, rfl⟩
  rw [ho] at hC HA hcl
  have HC2 := hide hC
  have HH3 := hide hH3
  have Hzsl := hide hzsl
  have HW := hide hW
  clear hC hH3 hzsl hW ho
  go_wp2_with fail
  rw [HW.out]
  refine HC2.out.mono ?_
  rintro e w4 ⟨rfl, q, rfl⟩
  go_wp2
  go_ret
  refine ⟨o, _, _, rfl, ?_, HA.out, hcl, by omega, hcm2, below_put14 hb3 hwg q 0 _⟩
  have h2 : Holds (Value.int .i64) (putRow (Value.int .i64) (Sort.ahead W q) g 0 (o ++ List.replicate (n + 1 - o.length) 0).toArray) g 0 (o ++ List.replicate (n + 1 - o.length) 0).toArray :=
    holds_putRow _ _ _ _ zs.toArray _ (holds_ahead _ _ _ _ _ _ HH3.out) (by simp [Hzsl.out]; omega)
  have h3 := rd_holds14 h2
  rw [ints_append] at h3
  have h4 := h3.take o.length
  rwa [List.take_left' (ints_length o)] at h4
end Go.Proofs.Ythejdacemcldgaa
