/- plinthref05.Pages, exactly. -/
import Derived.Test.YtjilkaciopiabaaF05v
import Derived.Test.YtjilkaciopiabaaG05c
import Derived.Deep.RegionHeldLaw
namespace Go.Proofs.Ytjilkaciopiabaa
open Go.RowKit Go.Px
set_option linter.unusedVariables false
set_option maxHeartbeats 6400000 in
theorem rpages_any (w : World) (lo rv gb gv cb cv b z N : Nat) (rows sv : List Value) (bs : List UInt8) (vs : List Int) (last : Int) (since : Int) (h : RVolIs w lo rv gb gv cb cv b z N rows sv bs vs last) :
    Calls Try.prog 14 #[.pointer (some ⟨rv, 0, none⟩), .int .i64 since] w fun e w' => ∃ o cs, e = .returned o ∧ w'.ownsRow w.heap.size 62 3 o (pgL z bs vs since b).length cs ∧
      PgRows w' (fun B => w.heap.size ≤ B ∧ B < w'.heap.size ∧ some B ≠ o.ownBlock) cs (pgL z bs vs since b) ∧ Below w.heap.size w w' := by
  obtain ⟨hb1, hb2⟩ := h.hb
  obtain ⟨hz1, hz2⟩ := h.hz
  go_enter Try.func14, Try.ntmps14
  go_wp2
  go_loopw [5, 6] (fun o i wr => ∃ (k : Nat) (cs : List Value), k ≤ b ∧ i = .int .i64 k ∧ wr.ownsRow w.heap.size 62 3 o (pgL z bs vs since k).length cs ∧
      PgRows wr (fun B => w.heap.size ≤ B ∧ B < wr.heap.size ∧ some B ≠ o.ownBlock) cs (pgL z bs vs since k) ∧ Below w.heap.size w wr) (fun _ i _ => b - (intOf i).toNat)
  case atStart => exact ⟨0, [], by omega, rfl, World.ownsRow_nil _ _ _ _, PgRows.nil, Below.refl _ _⟩
  case round =>
    obtain ⟨k, cs, hk, rfl, hown, hP, hbw⟩ := hrel
    have hV := h.below hbw
    have hx2 := hV.blk.cell (j := 2) rfl
    have hszw := hbw.size
    by_cases hlt : k < b
    · have hl : k < vs.length := by rw [h.lv]; exact hlt
      have hx3 := hV.blk.cell (j := 3) rfl
      have yv : (ints vs ++ sv)[k]? = some (.int .i64 (vs.getD k 0)) := by
        rw [List.getElem?_append_left (by rw [ints_length]; exact hl), List.getElem?_eq_getElem (by rw [ints_length]; exact hl)]
        simp [ints, List.getD, List.getElem?_eq_getElem hl]
      have y0 := hV.ver.cell yv
      obtain ⟨y, hy⟩ : ∃ y, vs.getD k 0 = y := ⟨_, rfl⟩
      rw [hy] at y0 yv
      have hcl := pgL_length z bs vs since k
      by_cases h2 : 0 < y
      · by_cases h1 : since < y
        · have hc := hide (show pgL z bs vs since (k + 1) = pgL z bs vs since k ++ [((k : Int), y, segB bs k 1 z)] by
            rw [pgL, if_pos (by unfold pgB; rw [hy]; simp [h1, h2]), hy])
          clear hy
          obtain ⟨L, hL⟩ : ∃ L, pgL z bs vs since k = L := ⟨_, rfl⟩
          rw [hL] at hcl hown hP
          have HL := hide hL
          clear hL
          obtain ⟨A, c, q1, q2, q3, q4', q5⟩ := h.cells k hlt
          have q4 := q4'.below hbw
          have hsl := segB_length (bs := bs) (p := k) (n := 1) h.lb h.hN hlt
          rw [Nat.one_mul] at hsl
          have Hsl := hide hsl
          clear hsl
          have Mk := hide (show ∀ X, Below w.heap.size w X → (Below w.heap.size w X ∧ X.cell? ⟨rv, 2, none⟩ = some (.slice (some ⟨gb, 0, none⟩) b cb) ∧ X.cell? ⟨gb, k, none⟩ = some (.slice A z c) ∧ X.cell? ⟨rv, 3, none⟩ = some (.slice (some ⟨gv, 0, none⟩) b cv) ∧ X.cell? ⟨gv, k, none⟩ = some (.int .i64 y)) from fun X hX =>
            ⟨hX, (h.below hX).blk.cell (j := 2) rfl, Blk.cell (h.row.below hX) q1, (h.below hX).blk.cell (j := 3) rfl, Blk.cell (h.ver.below hX) yv⟩)
          have S0 := Mk.out wr.drew hbw.drew
          have MkA := hide (show ∀ X o, (Below w.heap.size w X ∧ X.cell? ⟨rv, 2, none⟩ = some (.slice (some ⟨gb, 0, none⟩) b cb) ∧ X.cell? ⟨gb, k, none⟩ = some (.slice A z c) ∧ X.cell? ⟨rv, 3, none⟩ = some (.slice (some ⟨gv, 0, none⟩) b cv) ∧ X.cell? ⟨gv, k, none⟩ = some (.int .i64 y)) → (Below w.heap.size w (X.alloc o) ∧ (X.alloc o).cell? ⟨rv, 2, none⟩ = some (.slice (some ⟨gb, 0, none⟩) b cb) ∧ (X.alloc o).cell? ⟨gb, k, none⟩ = some (.slice A z c) ∧ (X.alloc o).cell? ⟨rv, 3, none⟩ = some (.slice (some ⟨gv, 0, none⟩) b cv) ∧ (X.alloc o).cell? ⟨gv, k, none⟩ = some (.int .i64 y)) from fun X o h => Mk.out _ (h.1.alloc h.1.size _))
          have ow : (wr.alloc (.cells #[] 5)).drew.ownsRow wr.heap.size 5 1 (.slice (some ⟨wr.heap.size, 0, none⟩) 0 0) 0 [] := (Grow.empty wr 5 1).drew.owns
          have bA : Below wr.heap.size wr (wr.alloc (.cells #[] 5)).drew := ((Below.refl _ _).alloc (Nat.le_refl _) _).drew
          have hDA : Rd (wr.alloc (.cells #[] 5)).drew A (bys (segB bs k 1 z)) := q4.below bA
          have hL0 : (0 + z) * 1 ≤ 140737488355328 := by omega
          have hL1 : 0 + z ≤ 140737488355328 := by omega
          have hP0 : (L.length + 1) * 40 ≤ 140737488355328 := by omega
          have hP1 : L.length + 1 ≤ 140737488355328 := by omega
          have HOb := hide (show ∀ X, Below wr.heap.size wr X → X.ownsRow w.heap.size 62 3 u5 L.length cs from fun X hX => own_below hown hX)
          have HLe := hide (show ∀ X o, Below wr.heap.size wr X → w.heap.size ≤ (X.alloc o).heap.size from fun X o hX => by have := hX.size; simp; omega)
          have one3 : ∀ (c5 : Nat) (A5 : Option Addr), ∀ u ∈ [Value.int .i64 (k : Int), .int .i64 y, .slice A5 z c5], u.oneCell' = true := by intro c5 A5 u hu; simp at hu; rcases hu with rfl | rfl | rfl <;> rfl
          have hlo := own_lt hown
          go_wp2_with fail
          go_region_held_law (fun W => Below w.heap.size w W ∧ W.cell? ⟨rv, 2, none⟩ = some (.slice (some ⟨gb, 0, none⟩) b cb) ∧ W.cell? ⟨gb, k, none⟩ = some (.slice A z c) ∧ W.cell? ⟨rv, 3, none⟩ = some (.slice (some ⟨gv, 0, none⟩) b cv) ∧ W.cell? ⟨gv, k, none⟩ = some (.int .i64 y)) (first | assumption | exact MkA.out _ _ (by assumption)) (first
            | (refine step_own rfl rfl tBytes (by simp [Act.eval]) ow (by simp [Act.eval]; rfl) (by rw [bys_length, Hsl.out, Nat.mul_one]) hDA (bys_one _) hL0 hL1 (by simp) ?_; intro v' w' ho' hg' _; rw [Nat.zero_add, List.nil_append] at ho'; obtain ⟨A5, c5, rfl, hl5, hc5, hcm5, hr5, ha5⟩ := own_out ho'; have hb5 : Below wr.heap.size wr w' := bA.grown hg' (by simp) (fun g hg => by simp [Value.ownBlock] at hg; omega); have s5 := Mk.out _ (hbw.trans (hb5.mono hszw)))
            | (refine step_own (v := u5) rfl rfl tPages (by simp [Act.eval]) (HOb.out _ (hb5.alloc hb5.size _)) (by simp [Act.eval]; rfl) (m := 1) (news := [.int .i64 k, .int .i64 y, .slice A5 z c5]) rfl (Rd.newN w' [.int .i64 k, .int .i64 y, .slice A5 z c5] _ (0, 0)) (one3 c5 A5) hP0 hP1 (HLe.out _ _ hb5) ?_; intro v6 w6 ho6 hg6 hv6; have hb6 : Below w.heap.size w w6 := (hbw.trans ((hb5.alloc hb5.size _).mono hszw)).grown hg6 (HLe.out _ _ hb5) (fun g hg => (hlo g hg).1); have s6 := Mk.out w6 hb6))
          all_goals
            obtain ⟨w4, hw4⟩ : ∃ x, w'.alloc (.cells #[.int .i64 k, .int .i64 y, .slice A5 z c5] 62) = x := ⟨_, rfl⟩
            have hb54 : Below w'.heap.size w' w4 := by rw [← hw4]; exact (Below.refl _ _).alloc (Nat.le_refl _) _
            have hb4 : Below wr.heap.size wr w4 := hb5.trans (hb54.mono hb5.size)
            have hg6' : w4.grownBy w6 (Value.ownBlock u5) := by rw [← hw4]; exact hg6
            have hv6' : v6.ownBlock = Value.ownBlock u5 ∨ v6.ownBlock = some w4.heap.size := by rw [← hw4]; exact hv6
            have hr4 := hr5.below hb54
            have hsz5 := hb5.size
            have hsz4 : w'.heap.size + 1 = w4.heap.size := by rw [← hw4, World.size_alloc]
            have hsz6 := hg6'.size
            clear hg6 hv6 hw4 s5 s6
            have hne : ∀ B, B < w4.heap.size → some B ≠ Value.ownBlock u5 → some B ≠ v6.ownBlock := fun B hB hB' e => by
              rcases hv6' with e' | e'
              · rw [e'] at e; exact hB' e
              · rw [e'] at e; injection e with e; omega
            have hne3 : ∀ a, A5 = some a → some a.block ≠ Value.ownBlock u5 := fun a ha e => by
              have h1 := hlo _ e.symm
              have h2 := ha5 a ha
              omega
            have hP5 : PgRows w6 (fun B => w.heap.size ≤ B ∧ B < w6.heap.size ∧ some B ≠ v6.ownBlock) (cs ++ [.int .i64 k, .int .i64 y, .slice A5 z c5]) (L ++ [((k : Int), y, segB bs k 1 z)]) :=
              (hP.keep (fun A xs hr hq => (hr.below hb4).grown hg6' (fun a ha => (hq a ha).2.2)) (fun B hB => ⟨hB.1, by have := hB.2.1; omega, hne B (by have := hB.2.1; omega) hB.2.2⟩)).snoc Hsl.out hc5 (by unfold maxLen at hcm5; omega) (hr4.grown hg6' hne3)
                (fun a ha => ⟨by have := ha5 a ha; omega, by have := ha5 a ha; omega, hne _ (by have := ha5 a ha; omega) (hne3 a ha)⟩)
            go_wp2
            go_roundw
            case rel => exact ⟨k + 1, _, by omega, by go_num, by rw [hc.out, HL.out]; simpa using ho6, by rw [hc.out, HL.out]; exact hP5, hb6⟩
            case measure => simp [intOf]; omega
        · have hc := hide (show pgL z bs vs since (k + 1) = pgL z bs vs since k by
            rw [pgL, if_neg (by unfold pgB; rw [hy]; simp; omega)])
          clear hy
          go_wp2
          go_roundw
          case rel => exact ⟨k + 1, cs, by omega, by go_num, by rw [hc.out]; exact hown, by rw [hc.out]; exact hP, hbw⟩
          case measure => simp [intOf]; omega
      · have hc := hide (show pgL z bs vs since (k + 1) = pgL z bs vs since k by
          rw [pgL, if_neg (by unfold pgB; rw [hy]; simp; omega)])
        clear hy
        go_wp2
        go_roundw
        case rel => exact ⟨k + 1, cs, by omega, by go_num, by rw [hc.out]; exact hown, by rw [hc.out]; exact hP, hbw⟩
        case measure => simp [intOf]; omega
    · obtain rfl : k = b := by omega
      obtain ⟨A, c, rfl, _, _, _, _, _⟩ := own_out hown
      go_wp2
      go_ret
      exact ⟨_, cs, rfl, hown, hP, hbw⟩
end Go.Proofs.Ytjilkaciopiabaa
