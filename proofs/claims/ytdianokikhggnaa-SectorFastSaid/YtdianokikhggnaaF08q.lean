/- The document's disk: Bad, Loose, Same. -/
import Derived.Test.YtdianokikhggnaaF08p
import Derived.Test.YtdianokikhggnaaF08h
namespace Go.Proofs.Ytdianokikhggnaa
set_option maxRecDepth 20000
open Go.RowKit Go.Px Go.Maps
set_option linter.unusedVariables false
section
variable {w w' : World} {Q Q' X : Nat → Prop} {t f : Nat} {cs cs' : List Value} {d d' : Dk}
theorem tInts08 : SlT Try.prog 42 3 1 8 := tInts
/-- A sector's cells: as loads see them. -/
theorem RDIs.at_ (h : RDIs w Q t f cs d) {i : Nat} (hi : i < d.fast.length) : ∃ A n c B m e, w.cell? ⟨f, i * 4, none⟩ = some (.slice A n c) ∧ w.cell? ⟨f, i * 4 + 1, none⟩ = some (.bool (d.loose (i : Int)).isSome) ∧ w.cell? ⟨f, i * 4 + 2, none⟩ = some (.slice B m e) ∧ w.cell? ⟨f, i * 4 + 3, none⟩ = some (.bool (d.bad (i : Int))) ∧
    d.fast[i].length = n ∧ n ≤ c ∧ c ≤ 9223372036854775807 ∧ Rd w A (bys d.fast[i]) ∧ (∀ a, A = some a → Q a.block) ∧ m ≤ e ∧ e ≤ 9223372036854775807 ∧ ∀ b, d.loose (i : Int) = some b → b.length = m ∧ Rd w B (bys b) ∧ ∀ a, B = some a → Q a.block := by
  obtain ⟨A, n, c, B, m, e, h1, h2, h3, h4, r⟩ := h.sec i hi
  exact ⟨A, n, c, B, m, e, h.row.cell h1, h.row.cell h2, h.row.cell h3, h.row.cell h4, r⟩
theorem looseL_upto (d : Dk) : ∀ n, ((List.range (n + 1)).map Int.ofNat).filter (fun i => (d.loose i).isSome) = ((List.range n).map Int.ofNat).filter (fun i => (d.loose i).isSome) ++ (if (d.loose (n : Int)).isSome = true then [(n : Int)] else []) := fun n => by
  rw [List.range_succ, List.map_append, List.filter_append]
  congr 1
  show List.filter (fun i => (d.loose i).isSome) [((n : Nat) : Int)] = _
  cases h : (d.loose (n : Int)).isSome <;> simp [h]
set_option maxHeartbeats 1600000 in
theorem rloose08_any (h : RDIs w Q t f cs d) : Calls Try.prog 34 #[.pointer (some ⟨t, 0, none⟩)] w fun e w' => ∃ u, e = .returned u ∧ w'.ownsRow w.heap.size 3 1 u d.looseL.length (ints d.looseL) ∧ Below w.heap.size w w' := by
  obtain ⟨c, b1, _⟩ := h.blk
  have hN := h.ok.n2
  obtain ⟨N, hNe⟩ : ∃ N, d.fast.length = N := ⟨_, rfl⟩
  rw [hNe] at b1 hN
  have hAt : ∀ (W : World), Below w.heap.size w W → ∀ k, k < N → W.cell? ⟨f, k * 4 + 1, none⟩ = some (.bool (d.loose (k : Int)).isSome) := fun W hW k hk => by
    obtain ⟨_, _, _, _, _, _, _, c1, _⟩ := (h.below hW).at_ (i := k) (by omega)
    exact c1
  have HAt := hide hAt
  have HLL := hide (show d.looseL = ((List.range N).map Int.ofNat).filter (fun i => (d.loose i).isSome) from by unfold Dk.looseL; rw [hNe])
  have hup := looseL_upto d
  obtain ⟨G, hG⟩ : ∃ G : Nat → List Int, G = fun n => ((List.range n).map Int.ofNat).filter (fun i => (d.loose i).isSome) := ⟨_, rfl⟩
  have hG1 : ∀ n, G (n + 1) = G n ++ (if (d.loose (n : Int)).isSome = true then [(n : Int)] else []) := by rw [hG]; exact hup
  have hG0 : G 0 = [] := by rw [hG]; rfl
  have hGN : d.looseL = G N := by rw [HLL.out, hG]
  have hGl : ∀ n, (G n).length ≤ n := fun n => by rw [hG]; refine Nat.le_trans (List.length_filter_le _ _) ?_; simp
  rw [hGN]
  have HG1 := hide hG1
  have HG0 := hide hG0
  have HGl := hide hGl
  have B1 := b1
  clear h hNe hAt HLL hup hG hG1 hG0 hGN hGl b1
  go_enter Try.func34, Try.ntmps34
  go_wp2
  go_loopw [3, 4] (fun u s W => ∃ k : Nat, k ≤ N ∧ s = .int .i64 (k : Int) ∧ Grow w (.slice none 0 0) w.heap.size 3 1 W u (G k).length (ints (G k))) (fun _ s _ => N - (RowKit.intOf s).toNat)
  case atStart => exact ⟨0, by omega, rfl, by rw [HG0.out]; exact Grow.nil _ _ _⟩
  case round =>
    obtain ⟨k, hk, rfl, hGr⟩ := hrel
    have hbw := hGr.all
    have y1 := (B1.below hbw).cell (j := 1) rfl
    by_cases hlt : k < N
    · have c1 := HAt.out wr hbw k hlt
      have hg1 := HG1.out k
      have hgl := HGl.out k
      cases hl : (d.loose (k : Int)).isSome with
      | false =>
        rw [hl] at c1 hg1
        have HB := hide (show G (k + 1) = G k by rw [hg1]; simp)
        clear hl hg1
        go_wp2
        go_roundw
        case rel => exact ⟨k + 1, by omega, by go_num, by rw [HB.out]; exact hGr⟩
        case measure => simp [RowKit.intOf]; omega
      | true =>
        rw [hl] at c1 hg1
        have HB := hide (show G (k + 1) = G k ++ [(k : Int)] by rw [hg1]; simp)
        have HB2 := hide (show (G (k + 1)).length = (G k).length + 1 by rw [HB.out]; simp)
        clear hl hg1
        go_wp2_with (first | (with_reducible refine stop_append rfl ?_) | (with_reducible refine stop_copy rfl ?_) | (with_reducible refine stop_make rfl ?_))
        refine hGr.push rfl rfl rfl tInts rfl rfl rfl (by omega) (by omega) ?_
        intro u' w5 hG5 _
        go_wp2
        go_roundw
        case rel => exact ⟨k + 1, by omega, by go_num, by rw [HB2.out, HB.out, ints_append]; exact hG5⟩
        case measure => simp [RowKit.intOf]; omega
    · have hke : k = N := by omega
      subst hke
      go_wp2
      go_ret
      exact ⟨_, rfl, hGr.owns, hbw⟩
end
end Go.Proofs.Ytdianokikhggnaa
