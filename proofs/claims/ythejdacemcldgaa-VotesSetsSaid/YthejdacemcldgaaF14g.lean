/- Stage 14: what is sorted and compacted is what Ack asks for; slices.Clone of acknowledgements. -/
import Derived.Test.YthejdacemcldgaaF14f
namespace Go.Proofs.Ythejdacemcldgaa
set_option maxRecDepth 20000
open Go.RowKit Go.Px
set_option linter.unusedVariables false
/-- numA: a node's greatest number, where it has told one. -/
theorem numA_spec (v : Int) : ∀ (L : List (Int × Int)) (s : Int × Bool), (s.2 = true → ∀ r : Int × Bool, r = L.foldl (nstep v) s → r.2 = true ∧ s.1 ≤ r.1 ∧ (r.1 = s.1 ∨ (v, r.1) ∈ L) ∧ ∀ a ∈ L, a.1 = v → a.2 ≤ r.1)
    ∧ (s.2 = false → ∀ r : Int × Bool, r = L.foldl (nstep v) s → (∃ a ∈ L, a.1 = v) → r.2 = true ∧ (v, r.1) ∈ L ∧ ∀ a ∈ L, a.1 = v → a.2 ≤ r.1)
  | [], s => ⟨fun h r hr => by subst hr; exact ⟨h, Int.le_refl _, .inl rfl, fun a ha => by cases ha⟩, fun h r hr ⟨a, ha, _⟩ => by cases ha⟩
  | a :: L, s => by
    obtain ⟨i1, i2⟩ := numA_spec v L (nstep v s a)
    constructor
    · intro h r hr
      rw [List.foldl_cons] at hr
      by_cases hc : a.1 = v ∧ (s.2 = false ∨ s.1 < a.2)
      · have hs : nstep v s a = (a.2, true) := if_pos hc
        rw [hs] at i1 hr
        obtain ⟨h1, h2, h3, h4⟩ := i1 rfl r hr
        dsimp only at h2 h3
        have hlt : s.1 < a.2 := by rcases hc.2 with h' | h'; rw [h] at h'; cases h'; exact h'
        refine ⟨h1, by omega, .inr ?_, fun b hb hbv => ?_⟩
        · rcases h3 with h3 | h3
          · rw [h3, ← hc.1]; exact List.mem_cons_self ..
          · exact List.mem_cons_of_mem _ h3
        · rcases List.mem_cons.1 hb with rfl | hb
          · exact h2
          · exact h4 b hb hbv
      · have hs : nstep v s a = s := if_neg hc
        rw [hs] at i1 hr
        obtain ⟨h1, h2, h3, h4⟩ := i1 h r hr
        refine ⟨h1, h2, h3.imp id (List.mem_cons_of_mem _), fun b hb hbv => ?_⟩
        rcases List.mem_cons.1 hb with rfl | hb
        · have : ¬ s.1 < b.2 := fun h' => hc ⟨hbv, .inr h'⟩
          omega
        · exact h4 b hb hbv
    · intro h r hr hex
      rw [List.foldl_cons] at hr
      by_cases hc : a.1 = v
      · have hs : nstep v s a = (a.2, true) := if_pos ⟨hc, .inl h⟩
        rw [hs] at i1 hr
        obtain ⟨h1, h2, h3, h4⟩ := i1 rfl r hr
        dsimp only at h2 h3
        refine ⟨h1, ?_, fun b hb hbv => ?_⟩
        · rcases h3 with h3 | h3
          · rw [h3, ← hc]; exact List.mem_cons_self ..
          · exact List.mem_cons_of_mem _ h3
        · rcases List.mem_cons.1 hb with rfl | hb
          · exact h2
          · exact h4 b hb hbv
      · have hs : nstep v s a = s := if_neg (fun h' => hc h'.1)
        rw [hs] at i2 hr
        obtain ⟨b, hb, hbv⟩ := hex
        have hb' : b ∈ L := by rcases List.mem_cons.1 hb with rfl | hb; exact absurd hbv hc; exact hb
        obtain ⟨h1, h2, h3⟩ := i2 h r hr ⟨b, hb', hbv⟩
        refine ⟨h1, List.mem_cons_of_mem _ h2, fun d hd hdv => ?_⟩
        rcases List.mem_cons.1 hd with rfl | hd
        · exact absurd hdv hc
        · exact h3 d hd hdv
theorem numA_max {L : List (Int × Int)} {v : Int} (h : ∃ a ∈ L, a.1 = v) : (numA L v).2 = true ∧ (v, (numA L v).1) ∈ L ∧ ∀ a ∈ L, a.1 = v → a.2 ≤ (numA L v).1 :=
  (numA_spec v L (0, false)).2 rfl _ rfl h
theorem numA_none {L : List (Int × Int)} {v : Int} (h : ∀ a ∈ L, a.1 ≠ v) : numA L v = (0, false) := by
  unfold numA
  have : ∀ (L : List (Int × Int)) (s : Int × Bool), (∀ a ∈ L, a.1 ≠ v) → L.foldl (nstep v) s = s := by
    intro L
    induction L with
    | nil => intro s _; rfl
    | cons a L ih =>
      intro s h
      rw [List.foldl_cons, show nstep v s a = s from if_neg (fun h' => h a (List.mem_cons_self ..) h'.1)]
      exact ih s (fun b hb => h b (List.mem_cons_of_mem _ hb))
  exact this L _ h
/-- The first of each run of a node's. -/
def cfU (d : List (Int × Int)) : Nat → List (Int × Int)
  | 0 => []
  | i + 1 => if i = 0 ∨ (d.getD i (0, 0)).1 ≠ (d.getD (i - 1) (0, 0)).1 then cfU d i ++ [d.getD i (0, 0)] else cfU d i
theorem cfU_len (d : List (Int × Int)) : ∀ i, (cfU d i).length ≤ i
  | 0 => Nat.le_refl _
  | i + 1 => by
    have := cfU_len d i
    unfold cfU
    split
    · rw [List.length_append]; simp; omega
    · omega
def Srt (d : List (Int × Int)) : Prop := d.Pairwise (fun x y => ¬ (y.1 < x.1 ∨ (y.1 = x.1 ∧ x.2 < y.2)))
theorem getD_at {d : List (Int × Int)} {i : Nat} (h : i < d.length) : d.getD i (0, 0) = d[i] := by simp [List.getD_eq_getElem?_getD, List.getElem?_eq_getElem h]
/-- Up to a place: in order, just the nodes that are there, and each is the greatest of its node. -/
theorem cfU_inv {d : List (Int × Int)} (hs : Srt d) : ∀ i, i ≤ d.length → Asc ((cfU d i).map Prod.fst) ∧ (∀ p ∈ cfU d i, p ∈ d.take i ∧ ∀ a ∈ d, a.1 = p.1 → a.2 ≤ p.2) ∧ (∀ a ∈ d.take i, ∃ p ∈ cfU d i, p.1 = a.1)
  | 0, _ => ⟨List.Pairwise.nil, (fun p hp => by cases hp), (fun a ha => by simp at ha)⟩
  | i + 1, h => by
    obtain ⟨h1, h2, h3⟩ := cfU_inv hs i (by omega)
    have hi : i < d.length := by omega
    have hw := List.pairwise_iff_getElem.1 hs
    have hle : ∀ j k, (hj : j < d.length) → (hk : k < d.length) → j < k → d[j].1 ≤ d[k].1 := fun j k hj hk hjk => by have := hw j k hj hk hjk; omega
    have htk : d.take (i + 1) = d.take i ++ [d[i]] := List.take_succ_eq_append_getElem hi
    unfold cfU
    by_cases hc : i = 0 ∨ (d.getD i (0, 0)).1 ≠ (d.getD (i - 1) (0, 0)).1
    · rw [if_pos hc, getD_at hi, htk]
      have hlt : ∀ a ∈ d.take i, a.1 < d[i].1 := fun a ha => by
        obtain ⟨j, hj, rfl⟩ := List.mem_iff_getElem.1 ha
        rw [List.length_take] at hj
        rw [List.getElem_take]
        rcases hc with hc | hc
        · omega
        · rw [getD_at hi, getD_at (show i - 1 < d.length by omega)] at hc
          have e2 := hle (i - 1) i (by omega) hi (by omega)
          by_cases hji : j = i - 1
          · subst hji; omega
          · have e1 := hle j (i - 1) (by omega) (by omega) (by omega)
            omega
      refine ⟨?_, fun p hp => ?_, fun a ha => ?_⟩
      · rw [List.map_append]
        unfold Asc
        rw [List.pairwise_append]
        refine ⟨h1, by simp, fun x hx y hy => ?_⟩
        simp only [List.map_cons, List.map_nil, List.mem_singleton] at hy
        subst hy
        obtain ⟨p, hp, rfl⟩ := List.mem_map.1 hx
        exact hlt p (h2 p hp).1
      · rw [List.mem_append, List.mem_singleton] at hp
        rcases hp with hp | rfl
        · exact ⟨List.mem_append_left _ (h2 p hp).1, (h2 p hp).2⟩
        · refine ⟨List.mem_append_right _ (List.mem_singleton.2 rfl), fun a ha hap => ?_⟩
          obtain ⟨j, hj, rfl⟩ := List.mem_iff_getElem.1 ha
          rcases Nat.lt_trichotomy j i with hji | hji | hji
          · have := hlt d[j] (by rw [List.mem_iff_getElem]; exact ⟨j, by rw [List.length_take]; omega, by rw [List.getElem_take]⟩)
            omega
          · subst hji; exact Int.le_refl _
          · have := hw i j hi hj hji; omega
      · rw [List.mem_append, List.mem_singleton] at ha
        rcases ha with ha | rfl
        · obtain ⟨p, hp, e⟩ := h3 a ha
          exact ⟨p, List.mem_append_left _ hp, e⟩
        · exact ⟨d[i], by simp, rfl⟩
    · rw [if_neg hc, htk]
      refine ⟨h1, fun p hp => ⟨List.mem_append_left _ (h2 p hp).1, (h2 p hp).2⟩, fun a ha => ?_⟩
      rw [List.mem_append, List.mem_singleton] at ha
      rcases ha with ha | rfl
      · exact h3 a ha
      · have hi0 : i ≠ 0 := fun e => hc (.inl e)
        have he : d[i].1 = d[i - 1].1 := by
          apply Classical.byContradiction
          intro hne
          exact hc (.inr (by rw [getD_at hi, getD_at (show i - 1 < d.length by omega)]; exact hne))
        obtain ⟨p, hp, e⟩ := h3 d[i - 1] (by rw [List.mem_iff_getElem]; exact ⟨i - 1, by rw [List.length_take]; omega, by rw [List.getElem_take]⟩)
        exact ⟨p, hp, by rw [e, he]⟩
/-- What is sorted and compacted is what Ack asks for. -/
theorem cfU_ack {L d : List (Int × Int)} (hp : d.Perm L) (hs : Srt d) : AckOf L (cfU d d.length) := by
  obtain ⟨h1, h2, h3⟩ := cfU_inv hs d.length (Nat.le_refl _)
  rw [List.take_length] at h3
  refine ⟨h1, fun x => ?_, fun p hpc => ?_⟩
  · constructor
    · intro hx
      obtain ⟨p, hpc, rfl⟩ := List.mem_map.1 hx
      have := (h2 p hpc).1
      rw [List.take_length] at this
      exact List.mem_map.2 ⟨p, hp.mem_iff.1 this, rfl⟩
    · intro hx
      obtain ⟨a, ha, rfl⟩ := List.mem_map.1 hx
      obtain ⟨p, hpc, e⟩ := h3 a (hp.mem_iff.2 ha)
      exact List.mem_map.2 ⟨p, hpc, e⟩
  · obtain ⟨hin, hmax⟩ := h2 p hpc
    rw [List.take_length] at hin
    obtain ⟨_, e2, e3⟩ := numA_max (L := L) (v := p.1) ⟨p, hp.mem_iff.1 hin, rfl⟩
    have a1 := e3 p (hp.mem_iff.1 hin) rfl
    have a2 := hmax _ (hp.mem_iff.2 e2) rfl
    dsimp only at a2
    omega
@[go_sem] theorem eqnil_acks (w : World) (A : Option Addr) (n c n' c' : Nat) : (binOp .eql 23 (.slice A n c) (.slice none n' c')).run Try.prog w = .ok (.bool A.isNone) w := Lib.run_eql_slice_nil w _ _ A n c n' c' Try.underlying23
theorem aclone_any (A : Option Addr) (n c : Nat) (l : List (Int × Int)) (w : World) (hn : l.length = n) (h8 : n ≤ 1000000) (hc : Rd w A (acs l)) :
    Calls Try.prog 24 #[.slice A n c] w fun e w' => ∃ v, e = .returned v ∧ w'.ownsRow w.heap.size 44 2 v n (acs l) ∧ Below w.heap.size w w' := by
  have Hn := hide hn
  clear hn
  rcases A with _ | a
  · have hb : l = [] := by
      rcases l with _ | ⟨b, r⟩
      · rfl
      · obtain ⟨a, ha, _⟩ := hc 0 _ rfl; cases ha
    subst hb
    have h0 := Hn.out
    simp only [List.length_nil] at h0
    subst h0
    go_enter Try.func24, Try.ntmps24
    go_wp2_with fail
    go_ret
    exact ⟨_, rfl, World.ownsRow_nil _ _ _ _, Below.refl _ _⟩
  · go_enter Try.func24, Try.ntmps24
    go_wp2_with (first | (with_reducible refine stop_append rfl ?_) | (with_reducible refine stop_copy rfl ?_) | (with_reducible refine stop_make rfl ?_))
    refine (Grow.empty w 44 2).append rfl rfl tAcks rfl rfl (by rw [acs_length, Hn.out, Nat.mul_comm]) (hc.alloc _) (acs_one _) (by omega) (by omega) ?_
    intro v' w1 hG _
    go_wp2
    go_ret
    refine ⟨_, rfl, by simpa using hG.owns, hG.emptyAll⟩
end Go.Proofs.Ythejdacemcldgaa
