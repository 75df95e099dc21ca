/- Stage 14, mathematics of Commit: the numbers that are told, in order; the one that a quorum has. -/
import Derived.Test.YthejdacemcldgaaF14g
namespace Go.Proofs.Ythejdacemcldgaa
set_option maxRecDepth 20000
open Go.RowKit Go.Px
set_option linter.unusedVariables false
/-- A node has told 't' or more. -/
def hasT (l : List (Int × Int)) (t : Int) (x : Int) : Bool := (numA l x).2 && decide (t ≤ (numA l x).1)
/-- 'b' is committed: the greatest number that at least a quorum has, or 0. -/
def CmIs (ms : List Int) (l : List (Int × Int)) (b : Int) : Prop := 0 ≤ b ∧ ∃ o, SetOf ms o ∧ ∀ t, 1 ≤ t → (t ≤ b ↔ ms.length / 2 + 1 ≤ o.countP (hasT l t))
theorem SetOf.uniq {l a b : List Int} (ha : SetOf l a) (hb : SetOf l b) : a = b := asc_ext ha.1 hb.1 (fun x => by rw [ha.2, hb.2])
theorem CmIs.uniq {ms : List Int} {l : List (Int × Int)} {a b : Int} (ha : CmIs ms l a) (hb : CmIs ms l b) : a = b := by
  obtain ⟨a0, o, ho, h1⟩ := ha
  obtain ⟨b0, o', ho', h2⟩ := hb
  have := SetOf.uniq ho ho'
  subst this
  rcases Int.lt_trichotomy a b with h | h | h
  · have := (h1 b (by omega)).2 ((h2 b (by omega)).1 (Int.le_refl _)); omega
  · exact h
  · have := (h2 a (by omega)).2 ((h1 a (by omega)).1 (Int.le_refl _)); omega
theorem CmIs.grows {ms : List Int} {l l' : List (Int × Int)} {a b : Int} (ha : CmIs ms l a) (hb : CmIs ms l' b) (h : ∀ x, (numA l x).2 = true → (numA l' x).2 = true ∧ (numA l x).1 ≤ (numA l' x).1) : a ≤ b := by
  obtain ⟨a0, o, ho, h1⟩ := ha
  obtain ⟨b0, o', ho', h2⟩ := hb
  have := SetOf.uniq ho ho'
  subst this
  by_cases h0 : 1 ≤ a
  · refine (h2 a h0).2 (Nat.le_trans ((h1 a h0).1 (Int.le_refl _)) (List.countP_mono_left fun x _ hx => ?_))
    unfold hasT at hx ⊢
    rw [Bool.and_eq_true, decide_eq_true_eq] at hx ⊢
    obtain ⟨i1, i2⟩ := h x hx.1
    exact ⟨i1, by omega⟩
  · omega
theorem mem_ack {L : List (Int × Int)} {v : Int} : (∃ a ∈ L, a.1 = v) ↔ v ∈ L.map Prod.fst := by simp
theorem numA_iff {L : List (Int × Int)} {v : Int} : (numA L v).2 = true ↔ ∃ a ∈ L, a.1 = v := by
  constructor
  · intro h
    refine Classical.byContradiction fun hn => ?_
    have h0 : ∀ (M : List (Int × Int)) (s : Int × Bool), (∀ a ∈ M, a.1 ≠ v) → M.foldl (nstep v) s = s := by
      intro M
      induction M with
      | nil => intro s _; rfl
      | cons a M ih =>
        intro s hM
        rw [List.foldl_cons, show nstep v s a = s from if_neg (fun h' => hM a (List.mem_cons_self ..) h'.1)]
        exact ih s fun b hb => hM b (List.mem_cons_of_mem _ hb)
    have := h0 L (0, false) (fun a ha he => hn ⟨a, ha, he⟩)
    unfold numA at h
    rw [this] at h
    cases h
  · exact fun h => (numA_max h).1
/-- Acknowledgements with one more tell as much at least. -/
theorem ack_more {l o : List (Int × Int)} {v m : Int} (h : AckOf (l ++ [(v, m)]) o) : ∀ x, (numA l x).2 = true → (numA o x).2 = true ∧ (numA l x).1 ≤ (numA o x).1 := by
  intro x hx
  obtain ⟨a, ha, hax⟩ := numA_iff.1 hx
  have hmx : x ∈ o.map Prod.fst := (h.2.1 x).2 (mem_ack.1 ⟨a, List.mem_append_left _ ha, hax⟩)
  obtain ⟨p, hp, hpx⟩ := mem_ack.2 hmx
  obtain ⟨i1, i2, i3⟩ := numA_max ⟨p, hp, hpx⟩
  have h4 := h.2.2 p hp
  rw [hpx] at h4
  obtain ⟨j1, j2, j3⟩ := numA_max (L := l ++ [(v, m)]) (v := x) ⟨a, List.mem_append_left _ ha, hax⟩
  obtain ⟨k1, k2, k3⟩ := numA_max (L := l) (v := x) ⟨a, ha, hax⟩
  refine ⟨i1, ?_⟩
  have e1 := i3 p hp hpx
  have e2 := j3 (x, (numA l x).1) (List.mem_append_left _ k2) rfl
  dsimp only at e2
  omega
/-- What is told, node by node. -/
def toldS (l : List (Int × Int)) (o : List Int) : List Int := o.filterMap fun x => if (numA l x).2 = true then some (numA l x).1 else none
theorem toldS_count (l : List (Int × Int)) (o : List Int) (t : Int) : (toldS l o).countP (fun x => decide (t ≤ x)) = o.countP (hasT l t) := by
  unfold toldS
  induction o with
  | nil => rfl
  | cons x o ih =>
    rw [List.filterMap_cons, List.countP_cons]
    unfold hasT at ih ⊢
    cases h : (numA l x).2 with
    | true => simp only [if_true, Bool.true_and, List.countP_cons, ih]
    | false => simp [ih]
theorem toldS_yes {l : List (Int × Int)} {o : List Int} {k : Nat} (h : k < o.length) (hb : (numA l o[k]).2 = true) : toldS l (o.take (k + 1)) = toldS l (o.take k) ++ [(numA l o[k]).1] := by
  unfold toldS
  rw [List.take_succ_eq_append_getElem h, List.filterMap_append, List.filterMap_cons, if_pos hb]; rfl
theorem toldS_no {l : List (Int × Int)} {o : List Int} {k : Nat} (h : k < o.length) (hb : (numA l o[k]).2 = false) : toldS l (o.take (k + 1)) = toldS l (o.take k) := by
  unfold toldS
  rw [List.take_succ_eq_append_getElem h, List.filterMap_append, List.filterMap_cons, hb]; simp
theorem toldS_len (l : List (Int × Int)) (o : List Int) : (toldS l o).length ≤ o.length := List.length_filterMap_le _ _
/-- In a row that goes up, the one at (length - q) is the greatest that q have. -/
theorem sorted_count {d : List Int} (hs : d.Pairwise (· ≤ ·)) {q : Nat} (h1 : 1 ≤ q) (hq : q ≤ d.length) (t : Int) : t ≤ d.getD (d.length - q) 0 ↔ q ≤ d.countP (fun x => decide (t ≤ x)) := by
  have hk : d.length - q < d.length := by omega
  obtain ⟨k, hkk⟩ : ∃ k, d.length - q = k := ⟨_, rfl⟩
  rw [hkk] at hk ⊢
  rw [intD_at hk]
  constructor
  · intro ht
    have h2 : (d.drop k).countP (fun x => decide (t ≤ x)) = (d.drop k).length := by
      rw [List.countP_eq_length]
      intro x hx
      obtain ⟨j, hj, rfl⟩ := List.getElem_of_mem hx
      rw [List.getElem_drop]
      rw [List.length_drop] at hj
      rw [decide_eq_true_eq]
      rcases Nat.eq_zero_or_pos j with rfl | hj0
      · simpa using ht
      · have := List.pairwise_iff_getElem.1 hs k (k + j) hk (by omega) (by omega)
        omega
    have h3 : d.countP (fun x => decide (t ≤ x)) = (d.take k).countP (fun x => decide (t ≤ x)) + (d.drop k).countP (fun x => decide (t ≤ x)) := by
      rw [← List.countP_append, List.take_append_drop]
    rw [List.length_drop] at h2
    omega
  · intro hc
    refine Classical.byContradiction fun hn => ?_
    have h2 : (d.take (k + 1)).countP (fun x => decide (t ≤ x)) = 0 := by
      rw [List.countP_eq_zero]
      intro x hx
      obtain ⟨j, hj, rfl⟩ := List.getElem_of_mem hx
      rw [List.getElem_take]
      rw [List.length_take] at hj
      rw [decide_eq_true_eq]
      rcases Nat.lt_or_ge j k with hjk | hjk
      · have := List.pairwise_iff_getElem.1 hs j k (by omega) hk hjk
        omega
      · have : j = k := by omega
        subst this
        omega
    have h3 : d.countP (fun x => decide (t ≤ x)) = (d.take (k + 1)).countP (fun x => decide (t ≤ x)) + (d.drop (k + 1)).countP (fun x => decide (t ≤ x)) := by
      rw [← List.countP_append, List.take_append_drop]
    have h4 := List.countP_le_length (l := d.drop (k + 1)) (p := fun x => decide (t ≤ x))
    rw [List.length_drop] at h4
    omega
theorem mergeSort_up (zs : List Int) : (zs.mergeSort fun x y => decide (x ≤ y)).Pairwise (· ≤ ·) := by
  have := List.pairwise_mergeSort (le := fun x y : Int => decide (x ≤ y)) (by intro a b c; simp; omega) (by intro a b; simp; omega) zs
  simpa using this
theorem cm_few {ms o : List Int} {l : List (Int × Int)} (ho : SetOf ms o) (hq : (toldS l o).length < ms.length / 2 + 1) : CmIs ms l 0 :=
  ⟨Int.le_refl _, o, ho, fun t ht => ⟨fun h => by omega, fun h => by
    rw [← toldS_count] at h
    have := List.countP_le_length (l := toldS l o) (p := fun x => decide (t ≤ x))
    omega⟩⟩
theorem cm_many {ms o : List Int} {l : List (Int × Int)} (ho : SetOf ms o) {zs : List Int} (hz : ((toldS l o).mergeSort fun x y => decide (x ≤ y)) = zs) {k : Nat} (hk : k < zs.length) (hq : ms.length / 2 + 1 + k = zs.length) : CmIs ms l (max (zs[k]) 0) := by
  have hp : zs.Perm (toldS l o) := by rw [← hz]; exact List.mergeSort_perm _ _
  have hs : zs.Pairwise (· ≤ ·) := by rw [← hz]; exact mergeSort_up _
  refine ⟨by omega, o, ho, fun t ht => ?_⟩
  rw [← toldS_count, ← hp.countP_eq, ← sorted_count hs (by omega) (by omega) t, show zs.length - (ms.length / 2 + 1) = k by omega, intD_at hk]
  omega
theorem cm_nil (l : List (Int × Int)) (b : Int) (h : CmIs [] l b) : b = 0 := by
  obtain ⟨h0, o, ho, h1⟩ := h
  have : o = [] := List.eq_nil_iff_forall_not_mem.2 fun x hx => by have := (ho.2 x).1 hx; cases this
  subst this
  by_cases hb : 1 ≤ b
  · have := (h1 b hb).1 (Int.le_refl _)
    simp at this
  · omega
/-- Of a quorum one has told what is committed. -/
theorem cm_known {e : Int} {ms nodes : List Int} {l : List (Int × Int)} {b : Int} (hg : grpOk e ms = true) (hc : CmIs ms l b) (hb : b ≠ 0) (hr : reachB ms nodes = true) : ∃ k, ∃ h : k < nodes.length, (numA l nodes[k]).2 = true ∧ b ≤ (numA l nodes[k]).1 ∧ inB ms nodes[k] = true := by
  obtain ⟨b0, o, ho, h1⟩ := hc
  have hms := (asc_of_nodes (grpOk_nodes hg)).1
  have hom : o = ms := asc_ext ho.1 hms ho.2
  subst hom
  have h2 := (h1 b (by omega)).1 (Int.le_refl _)
  unfold reachB reachN among at hr
  rw [decide_eq_true_eq] at hr
  have h3 : (o.map (hasT l b)).count true = o.countP (hasT l b) := by
    rw [List.count, List.countP_map]
    congr 1
    funext x
    simp
  obtain ⟨m, hm, i1, i2⟩ := count_two (fun m => inB nodes m) (hasT l b) o (by rw [h3]; omega)
  unfold inB at i1
  rw [decide_eq_true_eq] at i1
  obtain ⟨k, hk, hkm⟩ := List.getElem_of_mem i1
  unfold hasT at i2
  rw [Bool.and_eq_true, decide_eq_true_eq] at i2
  exact ⟨k, hk, by rw [hkm]; exact i2.1, by rw [hkm]; exact i2.2, by rw [hkm]; unfold inB; exact decide_eq_true hm⟩
end Go.Proofs.Ythejdacemcldgaa
