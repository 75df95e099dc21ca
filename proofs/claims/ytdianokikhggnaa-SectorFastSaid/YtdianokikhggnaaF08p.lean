/- The document's disk in memory. -/
import Derived.Test.YtdianokikhggnaaF08l
namespace Go.Proofs.Ytdianokikhggnaa
set_option maxRecDepth 20000
open Go.RowKit Go.Px Go.Maps
set_option linter.unusedVariables false
/-- A sector's four cells. -/
def RSec (w : World) (Q : Nat → Prop) (cs : List Value) (i : Nat) (fast : List UInt8) (loose : Option (List UInt8)) (bad : Bool) : Prop :=
  ∃ A n c B m e, cs[i * 4]? = some (.slice A n c) ∧ cs[i * 4 + 1]? = some (.bool loose.isSome) ∧ cs[i * 4 + 2]? = some (.slice B m e) ∧ cs[i * 4 + 3]? = some (.bool bad) ∧
    fast.length = n ∧ n ≤ c ∧ c ≤ 9223372036854775807 ∧ Rd w A (bys fast) ∧ (∀ a, A = some a → Q a.block) ∧ m ≤ e ∧ e ≤ 9223372036854775807 ∧ ∀ b, loose = some b → b.length = m ∧ Rd w B (bys b) ∧ ∀ a, B = some a → Q a.block
/-- The document's disk at block t, its row of sectors at f. -/
structure RDIs (w : World) (Q : Nat → Prop) (t f : Nat) (cs : List Value) (d : Dk) : Prop where
  blk : ∃ c, Blk w t [.int .i64 (d.size : Int), .slice (some ⟨f, 0, none⟩) d.fast.length c, .bool (decide (0 ≤ d.fuse)), .int .i64 (max d.fuse 0)] 47 ∧ d.fast.length ≤ c ∧ c ≤ 9223372036854775807
  row : Blk w f cs 86
  len : d.fast.length * 4 ≤ cs.length
  sec : ∀ (i : Nat) (hi : i < d.fast.length), RSec w Q cs i d.fast[i] (d.loose (i : Int)) (d.bad (i : Int))
  ok : d.Ok
  ne : t ≠ f
  out : ∀ b, Q b → b ≠ t ∧ b ≠ f
def ROwn (t f : Nat) (b : Nat) : Prop := b = t ∨ b = f
section
variable {w w' : World} {Q Q' X : Nat → Prop} {t f : Nat} {cs cs' : List Value} {d d' : Dk}
theorem RSec.keep {i : Nat} {fast : List UInt8} {loose : Option (List UInt8)} {bad : Bool} (h : RSec w Q cs i fast loose bad) (hk : ∀ A xs, Rd w A xs → (∀ a, A = some a → Q a.block) → Rd w' A xs) (hQ : ∀ b, Q b → Q' b) : RSec w' Q' cs i fast loose bad := by
  obtain ⟨A, n, c, B, m, e, h1, h2, h3, h4, h5, h6, h7, h8, h9, h10, h11, h12⟩ := h
  exact ⟨A, n, c, B, m, e, h1, h2, h3, h4, h5, h6, h7, hk _ _ h8 h9, fun a ha => hQ _ (h9 a ha), h10, h11, fun b hb => ⟨(h12 b hb).1, hk _ _ (h12 b hb).2.1 (h12 b hb).2.2, fun a ha => hQ _ ((h12 b hb).2.2 a ha)⟩⟩
theorem RSec.cells {i : Nat} {fast : List UInt8} {loose : Option (List UInt8)} {bad : Bool} (h : RSec w Q cs i fast loose bad) (hc : ∀ k, k < 4 → cs'[i * 4 + k]? = cs[i * 4 + k]?) : RSec w Q cs' i fast loose bad := by
  obtain ⟨A, n, c, B, m, e, h1, h2, h3, h4, r⟩ := h
  exact ⟨A, n, c, B, m, e, by rw [← h1]; exact hc 0 (by omega), by rw [← h2]; exact hc 1 (by omega), by rw [← h3]; exact hc 2 (by omega), by rw [← h4]; exact hc 3 (by omega), r⟩
theorem RDIs.frQ (h : RDIs w Q t f cs d) (hf : Fr X w w') (ht : ¬ X t) (hff : ¬ X f) (hq : ∀ b, Q b → ¬ X b) (hQ : ∀ b, Q b → Q' b) (hout : ∀ b, Q' b → b ≠ t ∧ b ≠ f) : RDIs w' Q' t f cs d := by
  have hk : ∀ A xs, Rd w A xs → (∀ a, A = some a → Q a.block) → Rd w' A xs := fun A xs hr hA => hr.fr hf (fun _ a ha => hq _ (hA a ha))
  obtain ⟨⟨c, b1, b2⟩, h2, h3, h4, h5, h6, h7⟩ := h
  exact ⟨⟨c, b1.fr hf ht, b2⟩, h2.fr hf hff, h3, fun i hi => (h4 i hi).keep hk hQ, h5, h6, hout⟩
theorem RDIs.fr (h : RDIs w Q t f cs d) (hf : Fr X w w') (ht : ¬ X t) (hff : ¬ X f) (hq : ∀ b, Q b → ¬ X b) : RDIs w' Q t f cs d := h.frQ hf ht hff hq (fun _ h => h) h.out
theorem RDIs.below (h : RDIs w Q t f cs d) (hb : Below w.heap.size w w') : RDIs w' Q t f cs d := h.fr (X := fun _ => False) (Fr.of_below hb) (fun h => h) (fun h => h) (fun _ _ h => h)
theorem RDIs.mono (h : RDIs w Q t f cs d) (hQ : ∀ b, Q b → Q' b) (hout : ∀ b, Q' b → b ≠ t ∧ b ≠ f) : RDIs w Q' t f cs d := h.frQ (X := fun _ => False) (Fr.refl _ _) (fun h => h) (fun h => h) (fun _ _ h => h) hQ hout
theorem RDIs.lts (h : RDIs w Q t f cs d) : t < w.heap.size ∧ f < w.heap.size := by
  obtain ⟨⟨c, b1, _⟩, h2, _⟩ := h
  exact ⟨b1.lt, h2.lt⟩
/-- One sector laid anew. -/
theorem RDIs.upd (h : RDIs w Q t f cs d) {i : Nat} (hi : i < d.fast.length) (hB : Blk w' f cs' 86) (hF : Fr (fun x => x = f) w w') (hl : cs'.length = cs.length) (ho : ∀ j, j < i * 4 ∨ i * 4 + 4 ≤ j → cs'[j]? = cs[j]?)
    (hs : ∀ hi' : i < d'.fast.length, RSec w' Q cs' i d'.fast[i] (d'.loose (i : Int)) (d'.bad (i : Int))) (h1 : d'.size = d.size) (h2 : d'.fast.length = d.fast.length) (h3 : d'.fuse = d.fuse) (h4 : ∀ j, j ≠ i → d'.fast[j]? = d.fast[j]?) (h5 : ∀ x, x ≠ (i : Int) → d'.loose x = d.loose x) (h6 : ∀ x, x ≠ (i : Int) → d'.bad x = d.bad x) (ok' : d'.Ok) : RDIs w' Q t f cs' d' := by
  have hk : ∀ A xs, Rd w A xs → (∀ a, A = some a → Q a.block) → Rd w' A xs := fun A xs hr hA => hr.fr hF (fun _ a ha e => (h.out _ (hA a ha)).2 e)
  obtain ⟨⟨c, b1, b2⟩, g2, g3, g4, g5, g6, g7⟩ := h
  refine ⟨⟨c, by rw [h1, h2, h3]; exact b1.fr hF g6, by rw [h2]; exact b2⟩, hB, by rw [h2, hl]; exact g3, fun j hj => ?_, ok', g6, g7⟩
  by_cases hji : j = i
  · subst hji; exact hs hj
  · have hj' : j < d.fast.length := by omega
    have e := h4 j hji
    rw [List.getElem?_eq_getElem hj, List.getElem?_eq_getElem hj'] at e
    injection e with e
    rw [e, h5 _ (by omega), h6 _ (by omega)]
    exact ((g4 j hj').keep hk (fun _ h => h)).cells (fun k hk4 => ho _ (by omega))
/-- The fuse laid anew. -/
theorem RDIs.put_fuse (h : RDIs w Q t f cs d) {z : Int} (h1 : -1 ≤ z) (h2 : z ≤ 9223372036854775807) {b0 : Bool} {n : Int} (hb : b0 = decide (0 ≤ z)) (hn : n = max z 0) : RDIs ((w.setCell ⟨t, 2, none⟩ (.bool b0)).setCell ⟨t, 3, none⟩ (.int .i64 n)) Q t f cs { d with fuse := z } ∧ Fr (fun x => x = t) w ((w.setCell ⟨t, 2, none⟩ (.bool b0)).setCell ⟨t, 3, none⟩ (.int .i64 n)) := by
  subst hb hn
  have hF : Fr (fun x => x = t) w ((w.setCell ⟨t, 2, none⟩ (.bool (decide (0 ≤ z)))).setCell ⟨t, 3, none⟩ (.int .i64 (max z 0))) := (Fr.set (X := fun x => x = t) w ⟨t, 2, none⟩ _ rfl).trans (Fr.set (X := fun x => x = t) _ ⟨t, 3, none⟩ _ rfl)
  have hk : ∀ A xs, Rd w A xs → (∀ a, A = some a → Q a.block) → Rd ((w.setCell ⟨t, 2, none⟩ (.bool (decide (0 ≤ z)))).setCell ⟨t, 3, none⟩ (.int .i64 (max z 0))) A xs := fun A xs hr hA => hr.fr hF (fun _ a ha e => (h.out _ (hA a ha)).1 e)
  refine ⟨?_, hF⟩
  obtain ⟨⟨c, b1, b2⟩, g2, g3, g4, g5, g6, g7⟩ := h
  exact ⟨⟨c, (b1.set 2 _).set 3 _, b2⟩, g2.fr hF (fun e => g6 e.symm), g3, fun i hi => (g4 i hi).keep hk (fun _ h => h), ⟨g5.s1, g5.s2, g5.n1, g5.n2, g5.fl, g5.lo, g5.ba, h1, h2⟩, g6, g7⟩
theorem RDIs.put_left (h : RDIs w Q t f cs d) {z : Int} (h0 : 0 ≤ d.fuse) (h1 : 0 ≤ z) (h2 : z ≤ 9223372036854775807) : RDIs (w.setCell ⟨t, 3, none⟩ (.int .i64 z)) Q t f cs { d with fuse := z } ∧ Fr (fun x => x = t) w (w.setCell ⟨t, 3, none⟩ (.int .i64 z)) := by
  have hF : Fr (fun x => x = t) w (w.setCell ⟨t, 3, none⟩ (.int .i64 z)) := Fr.set w ⟨t, 3, none⟩ _ rfl
  have hk : ∀ A xs, Rd w A xs → (∀ a, A = some a → Q a.block) → Rd (w.setCell ⟨t, 3, none⟩ (.int .i64 z)) A xs := fun A xs hr hA => hr.fr hF (fun _ a ha e => (h.out _ (hA a ha)).1 e)
  refine ⟨?_, hF⟩
  obtain ⟨⟨c, b1, b2⟩, g2, g3, g4, g5, g6, g7⟩ := h
  have e1 : decide (0 ≤ z) = decide (0 ≤ d.fuse) := by rw [decide_eq_true h1, decide_eq_true h0]
  have e2 : max z 0 = z := by omega
  refine ⟨⟨c, ?_, b2⟩, g2.fr hF (fun e => g6 e.symm), g3, fun i hi => (g4 i hi).keep hk (fun _ h => h), ⟨g5.s1, g5.s2, g5.n1, g5.n2, g5.fl, g5.lo, g5.ba, by show -1 ≤ z; omega, h2⟩, g6, g7⟩
  show Blk _ t [_, _, .bool (decide (0 ≤ z)), .int .i64 (max z 0)] _
  rw [e1, e2]; exact b1.set 3 _
theorem rpower08_any (h : RDIs w Q t f cs d) : Calls Try.prog 47 #[.pointer (some ⟨t, 0, none⟩)] w fun e w' => e = .returned (.bool (decide (d.burnE = 0))) ∧ RDIs w' Q t f cs d.burnt ∧ Fr (fun x => x = t) w w' ∧ w'.heap.size = w.heap.size := by
  obtain ⟨c, b1, _⟩ := h.blk
  have x2 := b1.cell (j := 2) rfl
  have x3 := b1.cell (j := 3) rfl
  have f3 := b1.frozen 3
  have k1 := h.ok.f1
  have k2 := h.ok.f2
  have HP := hide (fun h0 h1 => h.put_left (z := d.fuse - 1) h0 h1 (by omega))
  have H := hide h
  have hbe : d.burnE = if d.fuse = 0 then 82 else 0 := rfl
  have hbt : d.burnt = if 0 < d.fuse then { d with fuse := d.fuse - 1 } else d := rfl
  rw [hbe, hbt]
  obtain ⟨z, hz⟩ : ∃ z, d.fuse = z := ⟨_, rfl⟩
  rw [hz] at x2 x3 k1 k2 HP ⊢
  clear h b1 hbe hbt
  rcases (show z = -1 ∨ z = 0 ∨ 0 < z by omega) with rfl | rfl | hp
  · go_enter Try.func47, Try.ntmps47
    go_wp2
    go_ret
    exact ⟨rfl, H.out, Fr.refl _ _, rfl⟩
  · go_enter Try.func47, Try.ntmps47
    go_wp2
    go_ret
    exact ⟨rfl, H.out, Fr.refl _ _, rfl⟩
  · rw [if_neg (show z ≠ 0 by omega), if_pos hp]
    have q2 : decide ((0 : Int) ≤ z) = true := decide_eq_true (by omega)
    have hm : max z 0 = z := by omega
    rw [q2] at x2
    rw [hm] at x3
    have q0 : (z == 0) = false := by simp; omega
    have hw : IntKind.i64.wrap (z - 1) = z - 1 := by rw [IntKind.wrap_i64]; omega
    obtain ⟨y, hy⟩ : ∃ y, z - 1 = y := ⟨_, rfl⟩
    rw [hy] at hw HP ⊢
    have HPo := hide (HP.out (by omega) (by omega))
    clear HP hm q2 hz
    go_enter Try.func47, Try.ntmps47
    go_wp2
    go_ret
    exact ⟨rfl, HPo.out.1, HPo.out.2, by simp⟩
theorem rfuse08_any (h : RDIs w Q t f cs d) (n : Int) (hn : n ≤ 9223372036854775807) : Calls Try.prog 32 #[.pointer (some ⟨t, 0, none⟩), .int .i64 n] w fun e w' => e = .returned (.tuple #[]) ∧ RDIs w' Q t f cs { d with fuse := fuseI n } ∧ Fr (fun x => x = t) w w' ∧ w'.heap.size = w.heap.size := by
  obtain ⟨c, b1, _⟩ := h.blk
  have x2 := b1.cell (j := 2) rfl
  have x3 := b1.cell (j := 3) rfl
  have f2 := b1.frozen 2
  have f3 := b1.frozen 3
  have hz1 : -1 ≤ fuseI n := by unfold fuseI; split <;> omega
  have hz2 : fuseI n ≤ 9223372036854775807 := by unfold fuseI; split <;> omega
  have e1 : decide (0 ≤ n) = decide (0 ≤ fuseI n) := by
    unfold fuseI; split
    · rfl
    · rw [decide_eq_false (by omega)]; rfl
  have e2 : max n 0 = max (fuseI n) 0 := by unfold fuseI; split <;> omega
  have HP := hide (h.put_fuse hz1 hz2 e1 e2)
  have x3' : ∀ u, (w.setCell ⟨t, 2, none⟩ u).cell? ⟨t, 3, none⟩ = some (.int .i64 (max d.fuse 0)) := fun u => (b1.set 2 u).cell (j := 3) rfl
  have f3' : ∀ u, (w.setCell ⟨t, 2, none⟩ u).frozen? ⟨t, 3, none⟩ = false := fun u => (b1.set 2 u).frozen 3
  clear h b1 e1 e2 hz1 hz2
  go_enter Try.func32, Try.ntmps32
  go_wp2
  refine bodyPost_end (results_none rfl _ _ _) rfl ?_
  exact ⟨rfl, HP.out.1, HP.out.2, by simp⟩
end
end Go.Proofs.Ytdianokikhggnaa
