/- Pages in memory; volume.Pages with what they hold. -/
import Derived.Test.YtjilkaciopiabaaDoorF05h
namespace Go.Proofs.YtjilkaciopiabaaDoor
open Go.RowKit Go.Px
set_option linter.unusedVariables false
theorem own_lt {w : World} {base e size n : Nat} {v : Value} {xs : List Value} (h : w.ownsRow base e size v n xs) : ∀ g, v.ownBlock = some g → base ≤ g ∧ g < w.heap.size := by
  intro g hg
  rcases h.2 with ⟨rfl, _⟩ | ⟨g', cap, cur, rfl, hbg, hgg, _⟩
  · simp [Value.ownBlock] at hg
  · simp [Value.ownBlock] at hg
    subst hg
    exact ⟨hbg, (Array.getElem?_eq_some_iff.1 hgg).1⟩
/-- The cells of a page (its place, its version, its data), at place j of a row of pages; Q: which blocks its data may lie in. -/
def PgAt (w : World) (Q : Nat → Prop) (cs : List Value) (j : Nat) (p : Int × Int × List UInt8) : Prop :=
  ∃ A n c, cs[3 * j]? = some (.int .i64 p.1) ∧ cs[3 * j + 1]? = some (.int .i64 p.2.1) ∧ cs[3 * j + 2]? = some (.slice A n c) ∧ p.2.2.length = n ∧ n ≤ c ∧ c ≤ 9223372036854775807 ∧ Rd w A (bys p.2.2) ∧ ∀ a, A = some a → Q a.block
def PgRows (w : World) (Q : Nat → Prop) (cs : List Value) (ps : List (Int × Int × List UInt8)) : Prop := cs.length = 3 * ps.length ∧ ∀ j p, ps[j]? = some p → PgAt w Q cs j p
theorem PgRows.nil {w : World} {Q : Nat → Prop} : PgRows w Q [] [] := ⟨rfl, fun j p h => by simp at h⟩
theorem PgRows.keep {w w' : World} {Q Q' : Nat → Prop} {cs : List Value} {ps : List (Int × Int × List UInt8)} (h : PgRows w Q cs ps) (hk : ∀ A xs, Rd w A xs → (∀ a, A = some a → Q a.block) → Rd w' A xs) (hQ : ∀ B, Q B → Q' B) : PgRows w' Q' cs ps :=
  ⟨h.1, fun j p hp => by obtain ⟨A, n, c, h1, h2, h3, h4, h5, h6, h7, h8⟩ := h.2 j p hp; exact ⟨A, n, c, h1, h2, h3, h4, h5, h6, hk _ _ h7 h8, fun a ha => hQ _ (h8 a ha)⟩⟩
theorem PgRows.below {w w' : World} {Q : Nat → Prop} {cs : List Value} {ps : List (Int × Int × List UInt8)} (h : PgRows w Q cs ps) (hb : Below w.heap.size w w') : PgRows w' Q cs ps := h.keep (fun A xs hr _ => hr.below hb) (fun _ h => h)
theorem PgRows.snoc {w : World} {Q : Nat → Prop} {cs : List Value} {ps : List (Int × Int × List UInt8)} (h : PgRows w Q cs ps) {i v : Int} {A : Option Addr} {n c : Nat} {d : List UInt8} (hn : d.length = n) (hc : n ≤ c) (h63 : c ≤ 9223372036854775807) (hr : Rd w A (bys d)) (hq : ∀ a, A = some a → Q a.block) :
    PgRows w Q (cs ++ [.int .i64 i, .int .i64 v, .slice A n c]) (ps ++ [(i, v, d)]) := by
  have hl := h.1
  refine ⟨by simp [hl]; omega, fun j p hp => ?_⟩
  by_cases hlt : j < ps.length
  · rw [List.getElem?_append_left hlt] at hp
    obtain ⟨A', n', c', h1, h2, h3, h4⟩ := h.2 j p hp
    exact ⟨A', n', c', by rw [List.getElem?_append_left (by omega)]; exact h1, by rw [List.getElem?_append_left (by omega)]; exact h2, by rw [List.getElem?_append_left (by omega)]; exact h3, h4⟩
  · have hj : j = ps.length := by
      have := (List.getElem?_eq_some_iff.1 hp).1
      simp at this; omega
    subst hj
    simp at hp
    subst hp
    refine ⟨A, n, c, ?_, ?_, ?_, hn, hc, h63, hr, hq⟩
    · rw [← hl]; simp
    · rw [← hl, List.getElem?_append_right (by omega), show cs.length + 1 - cs.length = 1 by omega]; rfl
    · rw [← hl, List.getElem?_append_right (by omega), show cs.length + 2 - cs.length = 2 by omega]; rfl
/-- The pages that were changed since a number, of the first blocks. -/
def pgL (z : Nat) (bs : List UInt8) (vs : List Int) (since : Int) : Nat → List (Int × Int × List UInt8)
  | 0 => []
  | k + 1 => if pgB vs since k = true then pgL z bs vs since k ++ [((k : Int), vs.getD k 0, segB bs k 1 z)] else pgL z bs vs since k
theorem pgL_length (z : Nat) (bs : List UInt8) (vs : List Int) (since : Int) : ∀ k, (pgL z bs vs since k).length ≤ k
  | 0 => Nat.le_refl _
  | k + 1 => by have := pgL_length z bs vs since k; unfold pgL; split <;> simp <;> omega
set_option maxHeartbeats 3200000 in
theorem pages_any (w : World) (v r s b z N : Nat) (bs : List UInt8) (vs : List Int) (last : Int) (since : Int) (h : VolIs w v r s b z N bs vs last) :
    Calls Tryd.prog 15 #[.pointer (some ⟨v, 0, none⟩), .int .i64 since] w fun e w' => ∃ o cs, e = .returned o ∧ w'.ownsRow w.heap.size 80 3 o (pgL z bs vs since b).length cs ∧
      PgRows w' (fun B => w.heap.size ≤ B ∧ B < w'.heap.size ∧ some B ≠ o.ownBlock) cs (pgL z bs vs since b) ∧ Below w.heap.size w w' := by
  obtain ⟨hb1, hb2⟩ := h.hb
  obtain ⟨hz1, hz2⟩ := h.hz
  have x3 := h.blk.cell (j := 3) rfl
  go_enter Tryd.func15, Tryd.ntmps15
  go_wp2_with fail
  go_fit (made_any w v r s b z N bs vs last h)
  rintro x w1 ⟨rfl, rfl⟩
  go_wp2
  go_loopw [5, 16] (fun o i wr => ∃ (k : Nat) (cs : List Value), k ≤ b ∧ i = .int .i64 k ∧ wr.ownsRow w.heap.size 80 3 o (pgL z bs vs since k).length cs ∧
      PgRows wr (fun B => w.heap.size ≤ B ∧ B < wr.heap.size ∧ some B ≠ o.ownBlock) cs (pgL z bs vs since k) ∧ Below w.heap.size w wr) (fun _ i _ => b - (intOf i).toNat)
  case atStart => exact ⟨0, [], by omega, rfl, World.ownsRow_nil _ _ _ _, PgRows.nil, Below.refl _ _⟩
  case round =>
    obtain ⟨k, cs, hk, rfl, hown, hP, hbw⟩ := hrel
    have hV := h.below hbw
    have hx3 := hV.blk.cell (j := 3) rfl
    have hszw := hbw.size
    by_cases hlt : k < b
    · have hl : k < vs.length := by rw [h.lv]; exact hlt
      have y0 := hV.ver.cell (List.getElem?_eq_getElem (by rw [ints_length]; exact hl) : (ints vs)[k]? = _)
      obtain ⟨y, hy⟩ : ∃ y, vs[k] = y := ⟨_, rfl⟩
      have hyk : (ints vs)[k]'(by rw [ints_length]; exact hl) = .int .i64 y := by simp [ints, hy]
      rw [hyk] at y0
      have hgd : vs.getD k 0 = y := by simp [List.getD, List.getElem?_eq_getElem hl, hy]
      have hcl := pgL_length z bs vs since k
      clear hyk hy
      by_cases h1 : since < y
      · by_cases h2 : 0 < y
        · have hc := hide (show pgL z bs vs since (k + 1) = pgL z bs vs since k ++ [((k : Int), y, segB bs k 1 z)] by
            rw [pgL, if_pos (by unfold pgB; rw [hgd]; simp [h1, h2]), hgd])
          clear hgd
          obtain ⟨L, hL⟩ : ∃ L, pgL z bs vs since k = L := ⟨_, rfl⟩
          rw [hL] at hcl hown hP
          have HL := hide hL
          clear hL
          go_wp2_with fail
          go_fit (blocks_one wr v r s b z N bs vs last k hV hlt)
          rintro x w2 ⟨rfl, q1, rfl⟩
          have hsl := segB_length (bs := bs) (p := k) (n := 1) h.lb h.hN hlt
          rw [Nat.one_mul] at hsl
          go_wp2_with fail
          go_fit (clone_any (some ⟨r, k * z, none⟩) z z (segB bs k 1 z) _ hsl (by omega) ((hV.seg k 1).drewN q1))
          rintro x w3 ⟨u3, rfl, ho3, hb3⟩
          obtain ⟨A3, c3, rfl, _, hc3, hcm3, hr3, ha3⟩ := own_out ho3
          have hszd : (wr.drewN q1).heap.size = wr.heap.size := rfl
          rw [hszd] at hb3 ha3
          have hbw3 : Below wr.heap.size wr w3 := ⟨hb3.os, hb3.tape, hb3.output, hb3.size, hb3.block⟩
          have Hsl := hide hsl
          obtain ⟨w4, hw4⟩ : ∃ w4, w3.alloc (.cells #[.int .i64 k, .int .i64 y, .slice A3 z c3] 80) = w4 := ⟨_, rfl⟩
          have hb34 : Below w3.heap.size w3 w4 := by rw [← hw4]; exact (Below.refl _ _).alloc (Nat.le_refl _) _
          have hb4 : Below wr.heap.size wr w4 := hbw3.trans (hb34.mono hbw3.size)
          have hsz4 : w3.heap.size + 1 = w4.heap.size := by rw [← hw4, World.size_alloc]
          have hown4 := own_below hown hb4
          have hnew : Rd w4 (some ⟨w3.heap.size, 0, none⟩) [.int .i64 k, .int .i64 y, .slice A3 z c3] := by rw [← hw4]; exact Rd.newN w3 [.int .i64 k, .int .i64 y, .slice A3 z c3] _ (0, 0)
          have hr4 := hr3.below hb34
          have hlo := own_lt hown
          have hsz3 := hbw3.size
          clear hsl hszd
          have Hw4 := hide hw4
          clear hw4
          go_wp2_with (first | (with_reducible refine stop_append rfl ?_) | (with_reducible refine stop_copy rfl ?_) | (with_reducible refine stop_make rfl ?_))
          rw [Hw4.out]
          refine go_append (v := u5) rfl rfl tPages rfl hown4 rfl (m := 1) (news := [.int .i64 k, .int .i64 y, .slice A3 z c3]) rfl hnew (by intro u hu; simp at hu; rcases hu with rfl | rfl | rfl <;> rfl) (by omega) (by omega) (by omega) ?_
          intro v5 w5 hown5 hg5 hv5
          have hsz5 := hg5.size
          have hne : ∀ B, B < w4.heap.size → some B ≠ Value.ownBlock u5 → some B ≠ v5.ownBlock := fun B hB hB' e => by
            rcases hv5 with e' | e'
            · rw [e'] at e; exact hB' e
            · rw [e'] at e; injection e with e; omega
          have hne3 : ∀ a, A3 = some a → some a.block ≠ Value.ownBlock u5 := fun a ha e => by
            have h1 := hlo _ e.symm
            have h2 := ha3 a ha
            omega
          have hP5 : PgRows w5 (fun B => w.heap.size ≤ B ∧ B < w5.heap.size ∧ some B ≠ v5.ownBlock) (cs ++ [.int .i64 k, .int .i64 y, .slice A3 z c3]) (L ++ [((k : Int), y, segB bs k 1 z)]) :=
            (hP.keep (fun A xs hr hq => (hr.below hb4).grown hg5 (fun a ha => (hq a ha).2.2)) (fun B hB => ⟨hB.1, by have := hB.2.1; omega, hne B (by have := hB.2.1; omega) hB.2.2⟩)).snoc Hsl.out hc3 (by unfold maxLen at hcm3; omega) (hr4.grown hg5 hne3)
              (fun a ha => ⟨by have := ha3 a ha; omega, by have := ha3 a ha; omega, hne _ (by have := ha3 a ha; omega) (hne3 a ha)⟩)
          have hb5 : Below w.heap.size w w5 := (hbw.trans (hb4.mono hszw)).grown hg5 (by omega) (fun g hg => (hlo g hg).1)
          go_wp2
          go_roundw
          case rel => exact ⟨k + 1, _, by omega, by go_num, by rw [hc.out, HL.out]; simpa using hown5, by rw [hc.out, HL.out]; exact hP5, hb5⟩
          case measure => simp [intOf]; omega
        · have hc := hide (show pgL z bs vs since (k + 1) = pgL z bs vs since k by
            rw [pgL, if_neg (by unfold pgB; rw [hgd]; simp; omega)])
          clear hgd
          go_wp2
          go_roundw
          case rel => exact ⟨k + 1, cs, by omega, by go_num, by rw [hc.out]; exact hown, by rw [hc.out]; exact hP, hbw⟩
          case measure => simp [intOf]; omega
      · have hc := hide (show pgL z bs vs since (k + 1) = pgL z bs vs since k by
          rw [pgL, if_neg (by unfold pgB; rw [hgd]; simp; omega)])
        clear hgd
        go_wp2
        go_roundw
        case rel => exact ⟨k + 1, cs, by omega, by go_num, by rw [hc.out]; exact hown, by rw [hc.out]; exact hP, hbw⟩
        case measure => simp [intOf]; omega
    · obtain rfl : k = b := by omega
      obtain ⟨A, c, rfl, _, _, _, _, _⟩ := own_out hown
      go_wp2
      go_ret
      exact ⟨_, cs, rfl, hown, hP, hbw⟩
end Go.Proofs.YtjilkaciopiabaaDoor
