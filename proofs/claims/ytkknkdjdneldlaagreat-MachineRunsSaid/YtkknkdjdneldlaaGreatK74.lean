/- Texts joined (shake.py). -/
import Derived.Deep.RegionWith
import Derived.IntWalk
import Derived.Deep.RegionHeldLaw
import Derived.Deep.RegionLaw
import Derived.Test.YtkknkdjdneldlaaGreatK71
import Derived.Test.YtkknkdjdneldlaaGreatK72
import Derived.Test.YtkknkdjdneldlaaGreatK73
namespace Go.Proofs.YtkknkdjdneldlaaGreat
set_option maxRecDepth 20000
open Go.RowKit Go.Px
set_option linter.unusedVariables false
theorem bys_zeros (n : Nat) : bys (List.replicate n 0) = List.replicate n (.int .u8 0) := by simp [bys]
theorem ints_zeros (n : Nat) : ints (List.replicate n 0) = List.replicate n (.int .i64 0) := by simp [ints]
end Go.Proofs.YtkknkdjdneldlaaGreat
namespace Go.Proofs.YtkknkdjdneldlaaGreat
set_option maxRecDepth 20000
open Go.RowKit Go.Px
set_option linter.unusedVariables false
theorem tPages : SlT Tryz.prog 24 83 3 40 := slT_mk Tryz.underlying24 (z := .agg #[.int .i64 0, .int .i64 0, .slice none 0 0]) (by kernel_rfl) rfl (by decide)
def pgB (vs : List Int) (since : Int) (i : Nat) : Bool := decide (since < vs.getD i 0) && decide (0 < vs.getD i 0)
end Go.Proofs.YtkknkdjdneldlaaGreat
namespace Go.Proofs.YtkknkdjdneldlaaGreat
set_option maxRecDepth 20000
open Go.RowKit Go.Px
set_option linter.unusedVariables false
/-- The cells of a page (its place, its version, its data), at place j of a row of pages; Q: which blocks its data may lie in. -/
def PgAt (w : World) (Q : Nat → Prop) (cs : List Value) (j : Nat) (p : Int × Int × List UInt8) : Prop :=
  ∃ A n c, cs[3 * j]? = some (.int .i64 p.1) ∧ cs[3 * j + 1]? = some (.int .i64 p.2.1) ∧ cs[3 * j + 2]? = some (.slice A n c) ∧ p.2.2.length = n ∧ n ≤ c ∧ c ≤ 9223372036854775807 ∧ Rd w A (bys p.2.2) ∧ ∀ a, A = some a → Q a.block
def PgRows (w : World) (Q : Nat → Prop) (cs : List Value) (ps : List (Int × Int × List UInt8)) : Prop := cs.length = 3 * ps.length ∧ ∀ j p, ps[j]? = some p → PgAt w Q cs j p
theorem PgRows.nil {w : World} {Q : Nat → Prop} : PgRows w Q [] [] := ⟨rfl, fun j p h => by simp at h⟩
theorem PgRows.keep {w w' : World} {Q Q' : Nat → Prop} {cs : List Value} {ps : List (Int × Int × List UInt8)} (h : PgRows w Q cs ps) (hk : ∀ A xs, Rd w A xs → (∀ a, A = some a → Q a.block) → Rd w' A xs) (hQ : ∀ B, Q B → Q' B) : PgRows w' Q' cs ps :=
  ⟨h.1, fun j p hp => by obtain ⟨A, n, c, h1, h2, h3, h4, h5, h6, h7, h8⟩ := h.2 j p hp; exact ⟨A, n, c, h1, h2, h3, h4, h5, h6, hk _ _ h7 h8, fun a ha => hQ _ (h8 a ha)⟩⟩
theorem PgRows.below {w w' : World} {Q : Nat → Prop} {cs : List Value} {ps : List (Int × Int × List UInt8)} (h : PgRows w Q cs ps) (hb : Below w.heap.size w w') : PgRows w' Q cs ps := h.keep (fun A xs hr _ => hr.below hb) (fun _ h => h)
theorem PgRows.snoc {w : World} {Q : Nat → Prop} {cs : List Value} {ps : List (Int × Int × List UInt8)} (h : PgRows w Q cs ps) {i v : Int} {A : Option Addr} {n c : Nat} {d : List UInt8} (hn : d.length = n) (hc : n ≤ c) (h63 : c ≤ 9223372036854775807) (hr : Rd w A (bys d)) (hq : ∀ a, A = some a → Q a.block) :
    PgRows w Q (cs ++ [.int .i64 i, .int .i64 v, .slice A n c]) (ps ++ [(i, v, d)]) := by
  have hl := h.1
  refine ⟨by simp [hl]; omega, fun j p hp => ?_⟩
  by_cases hlt : j < ps.length
  · rw [List.getElem?_append_left hlt] at hp
    obtain ⟨A', n', c', h1, h2, h3, h4⟩ := h.2 j p hp
    exact ⟨A', n', c', by rw [List.getElem?_append_left (by omega)]; exact h1, by rw [List.getElem?_append_left (by omega)]; exact h2, by rw [List.getElem?_append_left (by omega)]; exact h3, h4⟩
  · have hj : j = ps.length := by
      have := (List.getElem?_eq_some_iff.1 hp).1
      simp at this; omega
    subst hj
    simp at hp
    subst hp
    refine ⟨A, n, c, ?_, ?_, ?_, hn, hc, h63, hr, hq⟩
    · rw [← hl]; simp
    · rw [← hl, List.getElem?_append_right (by omega), show cs.length + 1 - cs.length = 1 by omega]; rfl
    · rw [← hl, List.getElem?_append_right (by omega), show cs.length + 2 - cs.length = 2 by omega]; rfl
/-- The pages that were changed since a number, of the first blocks. -/
def pgL (z : Nat) (bs : List UInt8) (vs : List Int) (since : Int) : Nat → List (Int × Int × List UInt8)
  | 0 => []
  | k + 1 => if pgB vs since k = true then pgL z bs vs since k ++ [((k : Int), vs.getD k 0, segB bs k 1 z)] else pgL z bs vs since k
theorem pgL_length (z : Nat) (bs : List UInt8) (vs : List Int) (since : Int) : ∀ k, (pgL z bs vs since k).length ≤ k
  | 0 => Nat.le_refl _
  | k + 1 => by have := pgL_length z bs vs since k; unfold pgL; split <;> simp <;> omega
set_option maxHeartbeats 3200000 in
theorem pages_any (w : World) (v r s b z N : Nat) (bs : List UInt8) (vs : List Int) (last : Int) (since : Int) (h : VolIs w v r s b z N bs vs last) :
    Calls Tryz.prog 54 #[.pointer (some ⟨v, 0, none⟩), .int .i64 since] w fun e w' => ∃ o cs, e = .returned o ∧ w'.ownsRow w.heap.size 83 3 o (pgL z bs vs since b).length cs ∧
      PgRows w' (fun B => w.heap.size ≤ B ∧ B < w'.heap.size ∧ some B ≠ o.ownBlock) cs (pgL z bs vs since b) ∧ Below w.heap.size w w' := by
  obtain ⟨hb1, hb2⟩ := h.hb
  obtain ⟨hz1, hz2⟩ := h.hz
  have x3 := h.blk.cell (j := 3) rfl
  go_enter Tryz.func54, Tryz.ntmps54
  go_wp2_with fail
  go_fit (made_any w v r s b z N bs vs last h)
  rintro x w1 ⟨rfl, rfl⟩
  go_wp2
  go_loopw [5, 16] (fun o i wr => ∃ (k : Nat) (cs : List Value), k ≤ b ∧ i = .int .i64 k ∧ wr.ownsRow w.heap.size 83 3 o (pgL z bs vs since k).length cs ∧
      PgRows wr (fun B => w.heap.size ≤ B ∧ B < wr.heap.size ∧ some B ≠ o.ownBlock) cs (pgL z bs vs since k) ∧ Below w.heap.size w wr) (fun _ i _ => b - (intOf i).toNat)
  case atStart => exact ⟨0, [], by omega, rfl, World.ownsRow_nil _ _ _ _, PgRows.nil, Below.refl _ _⟩
  case round =>
    obtain ⟨k, cs, hk, rfl, hown, hP, hbw⟩ := hrel
    have hV := h.below hbw
    have hx3 := hV.blk.cell (j := 3) rfl
    have hszw := hbw.size
    by_cases hlt : k < b
    · have hl : k < vs.length := by rw [h.lv]; exact hlt
      have y0 := hV.ver.cell (List.getElem?_eq_getElem (by rw [ints_length]; exact hl) : (ints vs)[k]? = _)
      obtain ⟨y, hy⟩ : ∃ y, vs[k] = y := ⟨_, rfl⟩
      have hyk : (ints vs)[k]'(by rw [ints_length]; exact hl) = .int .i64 y := by simp [ints, hy]
      rw [hyk] at y0
      have hgd : vs.getD k 0 = y := by simp [List.getD, List.getElem?_eq_getElem hl, hy]
      have hcl := pgL_length z bs vs since k
      clear hyk hy
      by_cases h1 : since < y
      · by_cases h2 : 0 < y
        · have hc := hide (show pgL z bs vs since (k + 1) = pgL z bs vs since k ++ [((k : Int), y, segB bs k 1 z)] by
            rw [pgL, if_pos (by unfold pgB; rw [hgd]; simp [h1, h2]), hgd])
          clear hgd
          obtain ⟨L, hL⟩ : ∃ L, pgL z bs vs since k = L := ⟨_, rfl⟩
          rw [hL] at hcl hown hP
          have HL := hide hL
          clear hL
          go_wp2_with fail
          go_fit (blocks_one wr v r s b z N bs vs last k hV hlt)
          rintro x w2 ⟨rfl, q1, rfl⟩
          have hsl := segB_length (bs := bs) (p := k) (n := 1) h.lb h.hN hlt
          rw [Nat.one_mul] at hsl
          go_wp2_with fail
          go_fit (clone_any (some ⟨r, k * z, none⟩) z z (segB bs k 1 z) _ hsl (by omega) ((hV.seg k 1).drewN q1))
          rintro x w3 ⟨u3, rfl, ho3, hb3⟩
          obtain ⟨A3, c3, rfl, _, hc3, hcm3, hr3, ha3⟩ := own_out ho3
          have hszd : (wr.drewN q1).heap.size = wr.heap.size := rfl
          rw [hszd] at hb3 ha3
          have hbw3 : Below wr.heap.size wr w3 := ⟨hb3.os, hb3.tape, hb3.output, hb3.size, hb3.block⟩
          have Hsl := hide hsl
          obtain ⟨w4, hw4⟩ : ∃ w4, w3.alloc (.cells #[.int .i64 k, .int .i64 y, .slice A3 z c3] 83) = w4 := ⟨_, rfl⟩
          have hb34 : Below w3.heap.size w3 w4 := by rw [← hw4]; exact (Below.refl _ _).alloc (Nat.le_refl _) _
          have hb4 : Below wr.heap.size wr w4 := hbw3.trans (hb34.mono hbw3.size)
          have hsz4 : w3.heap.size + 1 = w4.heap.size := by rw [← hw4, World.size_alloc]
          have hown4 := own_below hown hb4
          have hnew : Rd w4 (some ⟨w3.heap.size, 0, none⟩) [.int .i64 k, .int .i64 y, .slice A3 z c3] := by rw [← hw4]; exact Rd.newN w3 [.int .i64 k, .int .i64 y, .slice A3 z c3] _ (0, 0)
          have hr4 := hr3.below hb34
          have hlo := own_lt hown
          have hsz3 := hbw3.size
          clear hsl hszd
          have Hw4 := hide hw4
          clear hw4
          go_wp2_with (first | (with_reducible refine stop_append rfl ?_) | (with_reducible refine stop_copy rfl ?_) | (with_reducible refine stop_make rfl ?_))
          rw [Hw4.out]
          refine go_append (v := u5) rfl rfl tPages rfl hown4 rfl (m := 1) (news := [.int .i64 k, .int .i64 y, .slice A3 z c3]) rfl hnew (by intro u hu; simp at hu; rcases hu with rfl | rfl | rfl <;> rfl) (by omega) (by omega) (by omega) ?_
          intro v5 w5 hown5 hg5 hv5
          have hsz5 := hg5.size
          have hne : ∀ B, B < w4.heap.size → some B ≠ Value.ownBlock u5 → some B ≠ v5.ownBlock := fun B hB hB' e => by
            rcases hv5 with e' | e'
            · rw [e'] at e; exact hB' e
            · rw [e'] at e; injection e with e; omega
          have hne3 : ∀ a, A3 = some a → some a.block ≠ Value.ownBlock u5 := fun a ha e => by
            have h1 := hlo _ e.symm
            have h2 := ha3 a ha
            omega
          have hP5 : PgRows w5 (fun B => w.heap.size ≤ B ∧ B < w5.heap.size ∧ some B ≠ v5.ownBlock) (cs ++ [.int .i64 k, .int .i64 y, .slice A3 z c3]) (L ++ [((k : Int), y, segB bs k 1 z)]) :=
            (hP.keep (fun A xs hr hq => (hr.below hb4).grown hg5 (fun a ha => (hq a ha).2.2)) (fun B hB => ⟨hB.1, by have := hB.2.1; omega, hne B (by have := hB.2.1; omega) hB.2.2⟩)).snoc Hsl.out hc3 (by unfold maxLen at hcm3; omega) (hr4.grown hg5 hne3)
              (fun a ha => ⟨by have := ha3 a ha; omega, by have := ha3 a ha; omega, hne _ (by have := ha3 a ha; omega) (hne3 a ha)⟩)
          have hb5 : Below w.heap.size w w5 := (hbw.trans (hb4.mono hszw)).grown hg5 (by omega) (fun g hg => (hlo g hg).1)
          go_wp2
          go_roundw
          case rel => exact ⟨k + 1, _, by omega, by go_num, by rw [hc.out, HL.out]; simpa using hown5, by rw [hc.out, HL.out]; exact hP5, hb5⟩
          case measure => simp [intOf]; omega
        · have hc := hide (show pgL z bs vs since (k + 1) = pgL z bs vs since k by
            rw [pgL, if_neg (by unfold pgB; rw [hgd]; simp; omega)])
          clear hgd
          go_wp2
          go_roundw
          case rel => exact ⟨k + 1, cs, by omega, by go_num, by rw [hc.out]; exact hown, by rw [hc.out]; exact hP, hbw⟩
          case measure => simp [intOf]; omega
      · have hc := hide (show pgL z bs vs since (k + 1) = pgL z bs vs since k by
          rw [pgL, if_neg (by unfold pgB; rw [hgd]; simp; omega)])
        clear hgd
        go_wp2
        go_roundw
        case rel => exact ⟨k + 1, cs, by omega, by go_num, by rw [hc.out]; exact hown, by rw [hc.out]; exact hP, hbw⟩
        case measure => simp [intOf]; omega
    · obtain rfl : k = b := by omega
      obtain ⟨A, c, rfl, _, _, _, _, _⟩ := own_out hown
      go_wp2
      go_ret
      exact ⟨_, cs, rfl, hown, hP, hbw⟩
end Go.Proofs.YtkknkdjdneldlaaGreat
namespace Go.Proofs.YtkknkdjdneldlaaGreat
set_option maxRecDepth 20000
open Go.RowKit Go.Px
set_option linter.unusedVariables false
def mpA (b z : Int) : Int → List (Int × Int × List UInt8) → Bool
  | _, [] => true
  | ah, p :: r => decide (¬ p.1 ≤ ah ∧ ¬ b ≤ p.1 ∧ serB p.2.1 = true ∧ (p.2.2.length : Int) = z) && mpA b z p.1 r
theorem mpA_yes {b z ah : Int} {p : Int × Int × List UInt8} {r : List (Int × Int × List UInt8)} (h : ¬ p.1 ≤ ah ∧ ¬ b ≤ p.1 ∧ serB p.2.1 = true ∧ (p.2.2.length : Int) = z) : mpA b z ah (p :: r) = mpA b z p.1 r := by
  unfold mpA; rw [decide_eq_true h, Bool.true_and]; cases r <;> rfl
theorem mpA_no {b z ah : Int} {p : Int × Int × List UInt8} {r : List (Int × Int × List UInt8)} (h : ¬ (¬ p.1 ≤ ah ∧ ¬ b ≤ p.1 ∧ serB p.2.1 = true ∧ (p.2.2.length : Int) = z)) : mpA b z ah (p :: r) = false := by
  unfold mpA; rw [decide_eq_false h, Bool.false_and]
theorem rd3_0 {w : World} {a : Addr} {cs : List Value} (hat : ∀ j u, cs[j]? = some u → w.cell? (a.add j) = some u) {k : Nat} {u : Value} (h : cs[3 * k]? = some u) : w.cell? (a.add (k * 3)) = some u := by
  rw [Nat.mul_comm]; exact hat _ _ h
theorem rd3_S {w : World} {a : Addr} {cs : List Value} (hat : ∀ j u, cs[j]? = some u → w.cell? (a.add j) = some u) {k i : Nat} {u : Value} (h : cs[3 * k + (i + 1)]? = some u) : w.cell? ⟨(a.add (k * 3)).block, (a.add (k * 3)).off + (i + 1), none⟩ = some u := by
  have := hat _ _ h
  have e : a.add (3 * k + (i + 1)) = ⟨(a.add (k * 3)).block, (a.add (k * 3)).off + (i + 1), none⟩ := by
    unfold Addr.add
    rw [if_neg (by omega)]
    split
    · rename_i h0
      rw [show 3 * k + (i + 1) = i + 1 by omega]
    · show (⟨a.block, a.off + (3 * k + (i + 1)), none⟩ : Addr) = ⟨a.block, a.off + k * 3 + (i + 1), none⟩
      rw [show a.off + (3 * k + (i + 1)) = a.off + k * 3 + (i + 1) by omega]
  rw [← e]; exact this
set_option maxHeartbeats 3200000 in
theorem mayPages_any (b z : Int) (A : Option Addr) (n c : Nat) (cs : List Value) (ps : List (Int × Int × List UInt8)) (Q : Nat → Prop) (w : World) (hn : ps.length = n) (hnc : n ≤ c) (hc : c ≤ 9223372036854775807) (hr : Rd w A cs) (hP : PgRows w Q cs ps) :
    Calls Tryz.prog 117 #[shp b z, .slice A n c] w fun e w' => e = .returned (.bool (mpA b z (-1) ps)) ∧ Below w.heap.size w w' := by
  obtain ⟨w0, hw0⟩ : ∃ w0, w.alloc (.cells #[.int .i64 b, .int .i64 z] 23) = w0 := ⟨_, rfl⟩
  obtain ⟨g, hg⟩ : ∃ g, w.heap.size = g := ⟨_, rfl⟩
  have hS : Blk w0 g [.int .i64 b, .int .i64 z] 23 := by rw [← hw0, ← hg]; exact Blk.new w [.int .i64 b, .int .i64 z] _
  have hb0 : Below w.heap.size w w0 := by rw [← hw0]; exact (Below.refl _ _).alloc (Nat.le_refl _) _
  have hr0 := hr.below hb0
  have hP0 := hP.below hb0
  have hl := hP.1
  have Hw0 := hide hw0
  go_enter Tryz.func117, Tryz.ntmps117
  go_wp2
  clear hw0
  go_loopw [5, 10] (fun a i wr => ∃ (k : Nat) (ah : Int), k ≤ n ∧ i = .int .i64 k ∧ a = .int .i64 ah ∧ mpA b z (-1) ps = mpA b z ah (ps.drop k) ∧ Below w0.heap.size w0 wr) (fun _ i _ => n - (intOf i).toNat)
  case atStart => exact ⟨0, -1, by omega, rfl, rfl, rfl, Below.refl _ _⟩
  case round =>
    obtain ⟨k, ah, hk, rfl, rfl, hm, hB⟩ := hrel
    have hbx : Below w.heap.size w wr := hb0.trans (hB.mono hb0.size)
    have hbx' : Below g w wr := by rw [← hg]; exact hbx
    by_cases hlt : k < n
    · obtain ⟨p, hp⟩ : ∃ p, ps[k]? = some p := ⟨_, List.getElem?_eq_getElem (by omega)⟩
      obtain ⟨A', m, c', h1, h2, h3, h4, h5, h6, h7, h8⟩ := (hP0.below hB).2 k p hp
      obtain ⟨a, rfl, hat⟩ := (hr0.below hB).some_of (xs := cs) (by omega)
      have y0 := rd3_0 hat h1
      have y1 := rd3_S (i := 0) hat h2
      have y2 := rd3_S (i := 1) hat h3
      have hd : ps.drop k = p :: ps.drop (k + 1) := by
        rw [List.drop_eq_getElem_cons (by omega)]
        rw [List.getElem?_eq_getElem (by omega)] at hp
        injection hp with hp
        rw [hp]
      obtain ⟨p1, p2, pd⟩ := p
      simp only at h1 h2 h4 h7 y0 y1
      rw [hd] at hm
      have x0 := ((hS.below hB).alloc (.cells #[.int .i64 p1, .int .i64 p2, .slice A' m c'] 83)).cell (j := 0) rfl
      have x1 := ((hS.below hB).alloc (.cells #[.int .i64 p1, .int .i64 p2, .slice A' m c'] 83)).cell (j := 1) rfl
      have hsz := hB.size
      have hgl := hS.lt
      by_cases c1 : p1 ≤ ah
      · have hf := hide (hm.trans (mpA_no (fun hh => hh.1 c1)))
        clear hm hd
        go_wp2
        go_ret
        exact ⟨by rw [hf.out]; rfl, by first | exact hbx.alloc (by omega) _ | exact hbx'.alloc (by omega) _⟩
      · by_cases c2 : b ≤ p1
        · have hf := hide (hm.trans (mpA_no (fun hh => hh.2.1 c2)))
          clear hm hd
          go_wp2
          go_ret
          exact ⟨by rw [hf.out]; rfl, by first | exact hbx.alloc (by omega) _ | exact hbx'.alloc (by omega) _⟩
        · go_wp2_with fail
          go_fit (serial_any p2 _)
          cases c3 : serB p2 with
          | false =>
            have hf := hide (hm.trans (mpA_no (fun hh => by have := hh.2.2.1; simp only at this; rw [c3] at this; cases this)))
            clear hm hd c3
            rintro x w1 ⟨rfl, rfl⟩
            go_wp2
            go_ret
            exact ⟨by rw [hf.out]; rfl, by first | exact hbx.alloc (by omega) _ | exact hbx'.alloc (by omega) _⟩
          | true =>
            by_cases c4 : (m : Int) = z
            · have hf := hide (hm.trans (mpA_yes ⟨by show ¬ p1 ≤ ah; omega, by show ¬ b ≤ p1; omega, c3, by show (pd.length : Int) = z; rw [h4]; exact c4⟩))
              clear hm hd c3
              rintro x w1 ⟨rfl, rfl⟩
              go_wp2
              go_roundw
              case rel => exact ⟨k + 1, p1, by omega, by go_num, rfl, hf.out, hB.alloc hB.size _⟩
              case measure => simp [intOf]; omega
            · have hf := hide (hm.trans (mpA_no (fun hh => c4 (by have := hh.2.2.2; simp only at this; rw [h4] at this; exact this))))
              clear hm hd c3
              rintro x w1 ⟨rfl, rfl⟩
              go_wp2
              go_ret
              exact ⟨by rw [hf.out]; rfl, by first | exact hbx.alloc (by omega) _ | exact hbx'.alloc (by omega) _⟩
    · obtain rfl : k = n := by omega
      have hf := hide (hm.trans (by rw [List.drop_eq_nil_of_le (by omega)]; rfl : mpA b z ah (ps.drop k) = true))
      clear hm
      go_wp2
      go_ret
      exact ⟨by rw [hf.out]; rfl, by first | exact hbx | exact hbx'⟩
end Go.Proofs.YtkknkdjdneldlaaGreat
namespace Go.Proofs.YtkknkdjdneldlaaGreat
set_option maxRecDepth 20000
open Go.RowKit Go.Px
set_option linter.unusedVariables false
def layB (z : Nat) (bs : List UInt8) (ps : List (Int × Int × List UInt8)) : List UInt8 := ps.foldl (fun x p => splB x (p.1.toNat * z) p.2.2) bs
def layV (vs : List Int) (ps : List (Int × Int × List UInt8)) : List Int := ps.foldl (fun x p => x.set p.1.toNat p.2.1) vs
def layL (last : Int) (ps : List (Int × Int × List UInt8)) : Int := ps.foldl (fun x p => max x p.2.1) last
theorem take_snoc {α : Type} {l : List α} {k : Nat} {p : α} (h : l[k]? = some p) : l.take (k + 1) = l.take k ++ [p] := by
  rw [List.take_add_one, h]; rfl
/-- A reading of what lies apart from the volume's blocks. -/
theorem Rd.upd {w w' : World} {v r s : Nat} {A : Option Addr} {xs : List Value} (hR : Rd w A xs) (hU : Upd v r s w w') (hA : ∀ a, A = some a → a.block ≠ v ∧ a.block ≠ r ∧ a.block ≠ s) : Rd w' A xs := fun j u hu => by
  obtain ⟨a, rfl, hc⟩ := hR j u hu
  obtain ⟨a1, a2, a3⟩ := hA a rfl
  have hlt : (a.add j).block < w.heap.size := World.block_lt_of_cell? w _ hc
  refine ⟨a, rfl, ?_⟩
  rw [← hc]
  unfold World.cell?
  rw [hU.blk (a.add j).block hlt (by rw [add_block]; exact a1) (by rw [add_block]; exact a2) (by rw [add_block]; exact a3)]
theorem Upd.setS {v r s : Nat} (w : World) (j : Nat) (u : Value) : Upd v r s w (w.setCell ⟨s, j, none⟩ u) := ⟨rfl, rfl, rfl, by simp, fun k _ _ _ h => heap_setCell_other w ⟨s, j, none⟩ k u h⟩
theorem Upd.drew {v r s : Nat} {w w' : World} (h : Upd v r s w w') : Upd v r s w w'.drew := h.trans (Upd.of_below (Below.refl _ _).drew)
/-- Pages that may be laid on a volume of b blocks of z bytes. -/
def Good (b z : Nat) (ps : List (Int × Int × List UInt8)) : Prop := ∀ (j : Nat) (p : Int × Int × List UInt8), ps[j]? = some p → ∃ P : Nat, p.1 = (P : Int) ∧ P < b ∧ p.2.2.length = z ∧ serB p.2.1 = true
theorem good_of_mpA {b z : Nat} : ∀ {ps : List (Int × Int × List UInt8)} {ah : Int}, -1 ≤ ah → mpA b z ah ps = true → Good b z ps
  | [], _, _, _ => fun j p h => by simp at h
  | p :: r, ah, ha, h => by
    by_cases hp : ¬ p.1 ≤ ah ∧ ¬ (b : Int) ≤ p.1 ∧ serB p.2.1 = true ∧ (p.2.2.length : Int) = z
    · rw [mpA_yes hp] at h
      obtain ⟨h1, h2, h3, h4⟩ := hp
      intro j q hq
      cases j with
      | zero =>
        simp at hq
        subst hq
        exact ⟨p.1.toNat, by omega, by omega, by omega, h3⟩
      | succ j => exact good_of_mpA (ah := p.1) (by omega) h j q (by simpa using hq)
    · rw [mpA_no hp] at h; cases h
set_option maxHeartbeats 3200000 in
theorem lay_any (w : World) (v r s b z N : Nat) (bs : List UInt8) (vs : List Int) (last : Int) (A : Option Addr) (n c : Nat) (cs : List Value) (ps : List (Int × Int × List UInt8)) (h : VolIs w v r s b z N bs vs last) (hn : ps.length = n) (hnc : n ≤ c) (hc : c ≤ 9223372036854775807)
    (hr : Rd w A cs) (hA : ∀ a, A = some a → a.block ≠ v ∧ a.block ≠ r ∧ a.block ≠ s) (hP : PgRows w (fun B => B ≠ v ∧ B ≠ r ∧ B ≠ s) cs ps) (hg : Good b z ps) :
    Calls Tryz.prog 120 #[.pointer (some ⟨v, 0, none⟩), .slice A n c] w fun e w' => e = .returned (.tuple #[]) ∧ VolIs w' v r s b z N (layB z bs ps) (layV vs ps) (layL last ps) ∧ Upd v r s w w' := by
  obtain ⟨hb1, hb2⟩ := h.hb
  obtain ⟨hz1, hz2⟩ := h.hz
  have hl := hP.1
  have vlt := h.blk.lt
  have rlt := h.row.lt
  have slt := h.ver.lt
  go_enter Tryz.func120, Tryz.ntmps120
  go_wp2
  go_loopw [8] (fun i wr => ∃ (k : Nat), k ≤ n ∧ i = .int .i64 k ∧ VolIs wr v r s b z N (layB z bs (ps.take k)) (layV vs (ps.take k)) (layL last (ps.take k)) ∧ Upd v r s w wr) (fun i _ => n - (intOf i).toNat)
  case atStart => exact ⟨0, by omega, rfl, h, Upd.of_below (Below.refl _ _)⟩
  case round =>
    obtain ⟨k, hk, rfl, hV, hU⟩ := hrel
    have gsz := hU.size
    by_cases hlt : k < n
    · obtain ⟨p, hp⟩ : ∃ p, ps[k]? = some p := ⟨_, List.getElem?_eq_getElem (by omega)⟩
      obtain ⟨A', m, c', h1, h2, h3, h4, h5, h6, h7, h8⟩ := (hP.keep (w' := wr) (fun A xs hr hq => Rd.upd hr hU hq) (fun _ h => h)).2 k p hp
      obtain ⟨a, rfl, hat⟩ := (Rd.upd hr hU hA).some_of (xs := cs) (by omega)
      obtain ⟨P, e1, hPb, hPz, hser⟩ := hg k p hp
      have y0 := rd3_0 hat h1
      have y1 := rd3_S (i := 0) hat h2
      have y2 := rd3_S (i := 1) hat h3
      have t1 : layB z bs (ps.take (k + 1)) = splB (layB z bs (ps.take k)) (P * z) p.2.2 := by unfold layB; rw [take_snoc hp, List.foldl_append, List.foldl_cons, List.foldl_nil, e1]; rfl
      have t2 : layV vs (ps.take (k + 1)) = (layV vs (ps.take k)).set P p.2.1 := by unfold layV; rw [take_snoc hp, List.foldl_append, List.foldl_cons, List.foldl_nil, e1]; rfl
      have t3 : layL last (ps.take (k + 1)) = max (layL last (ps.take k)) p.2.1 := by unfold layL; rw [take_snoc hp, List.foldl_append, List.foldl_cons, List.foldl_nil]
      obtain ⟨p1, p2, pd⟩ := p
      simp only at e1 h1 h2 h4 h7 y0 y1 hPz t1 t2 t3
      subst e1
      obtain ⟨xb, hxb⟩ : ∃ x, layB z bs (ps.take k) = x := ⟨_, rfl⟩
      obtain ⟨xv, hxv⟩ : ∃ x, layV vs (ps.take k) = x := ⟨_, rfl⟩
      obtain ⟨xl, hxl⟩ : ∃ x, layL last (ps.take k) = x := ⟨_, rfl⟩
      rw [hxb] at t1
      rw [hxv] at t2
      rw [hxl] at t3
      rw [hxb, hxv, hxl] at hV
      have T1 := hide t1
      have T2 := hide t2
      have T3 := hide t3
      clear t1 t2 t3 hxb hxv hxl
      have hmz : m = z := by omega
      obtain ⟨g1, hg1⟩ : ∃ g, wr.heap.size = g := ⟨_, rfl⟩
      obtain ⟨w1, hw1⟩ : ∃ x, wr.alloc (.cells #[.int .i64 P, .int .i64 p2, .slice A' m c'] 83) = x := ⟨_, rfl⟩
      have hB1 : Blk w1 g1 [.int .i64 P, .int .i64 p2, .slice A' m c'] 83 := by rw [← hw1, ← hg1]; exact Blk.new wr [.int .i64 P, .int .i64 p2, .slice A' m c'] _
      have hb01 : Below wr.heap.size wr w1 := by rw [← hw1]; exact (Below.refl _ _).alloc (Nat.le_refl _) _
      have hV1 := hV.below hb01
      have hD1 := h7.below hb01
      have hU1 := hU.trans (Upd.of_below (v := v) (r := r) (s := s) hb01)
      have Hw1 := hide hw1
      have H4 := hide h4
      have Hmz := hide hmz
      have hin : P + 1 ≤ b := hPb
      clear hw1 h4 hmz hPz
      have k0 := hB1.cell (j := 0) rfl
      have k1 := hB1.cell (j := 1) rfl
      have k2 := hB1.cell (j := 2) rfl
      go_wp2_with fail
      rw [Hw1.out]
      go_region_with (first
        | (go_at_call 112; refine (blocks_one _ v r s b z N xb xv xl P (by exact hV1.drewN 1) hin).mono ?_; rintro x w2 ⟨rfl, q1, rfl⟩; have cp := fun ty => copy_one (w := w1.drewN (1 + q1)) (dc := c') (hV1.drewN (1 + q1)) H4.out hD1 Hmz.out hin ty))
      all_goals
        clear cp
        have hpn := mul_le hin h.hN
        rw [Nat.add_mul] at hpn
        have hl' := splB_length (bs := xb) (xs := pd) (off := P * z) (by rw [H4.out, hV.lb]; have := Hmz.out; omega)
        rw [hV.lb] at hl'
        have hV3 := (hV1.drewN (1 + q1)).setRow (splB xb (P * z) pd) hl'
        have G3 : (w1.drewN (1 + q1)).grownBy _ (some r) := setRow_grown (cs := bys (splB xb (P * z) pd))
        have hB3 := blk_grown (show Blk (w1.drewN (1 + q1)) g1 _ _ from hB1) G3 (by omega)
        have hU3 : Upd v r s w ((w1.drewN (1 + q1)).setRow r (bys (splB xb (P * z) pd)).toArray) := hU1.trans ⟨G3.os, G3.tape, G3.output, G3.size, fun q hq _ hqr _ => G3.block q hq (by intro e; injection e with e; exact hqr e)⟩
        obtain ⟨w3, hw3⟩ : ∃ w3, (w1.drewN (1 + q1)).setRow r (bys (splB xb (P * z) pd)).toArray = w3 := ⟨_, rfl⟩
        rw [hw3] at hV3 G3 hB3 hU3
        rw [hw3]
        obtain ⟨xb', hxb'⟩ : ∃ x, splB xb (P * z) pd = x := ⟨_, rfl⟩
        rw [hxb'] at hV3
        rw [hxb'] at T1
        clear k0 k1 k2 hl' hxb' hw3 y0 y1 y2 hpn
        have k0 := hB3.cell (j := 0) rfl
        have k1 := hB3.cell (j := 1) rfl
        have v3 := hV3.blk.cell (j := 3) rfl
        have hlv : P < (ints xv).length := by rw [ints_length, hV3.lv]; omega
        have z0 := hV3.ver.cell (List.getElem?_eq_getElem hlv)
        have z1 := hV3.ver.frozen P
        go_wp2_with fail
        go_region
        have hV4 := (hV3.setVer P p2).drew
        have hB4 := (hB3.apart (show g1 ≠ s by omega) P (.int .i64 p2)).drew
        have hU4 := (hU3.trans (Upd.setS (v := v) (r := r) (s := s) w3 P (.int .i64 p2))).drew
        obtain ⟨w4, hw4⟩ : ∃ w4, (w3.setCell ⟨s, P, none⟩ (.int .i64 p2)).drew = w4 := ⟨_, rfl⟩
        rw [hw4] at hV4 hB4 hU4
        rw [hw4]
        clear k0 k1 v3 z0 z1 hw4
        have k1 := hB4.cell (j := 1) rfl
        have v4 := hV4.blk.cell (j := 4) rfl
        have z4 := hV4.blk.frozen 4
        go_wp2_with fail
        go_region
        have hmx : (if xl < p2 then p2 else xl) = max xl p2 := by split <;> omega
        rw [hmx]
        have hV5 := (hV4.setLast (max xl p2)).drew
        have hU5 := (hU4.set_v 4 (.int .i64 (max xl p2))).drew
        clear hmx k1 v4 z4
        go_wp2
        go_roundw
        case rel => exact ⟨k + 1, by omega, by go_num, by rw [T1.out, T2.out, T3.out]; exact hV5, hU5⟩
        case measure => simp [intOf]; omega
    · obtain rfl : k = n := by omega
      rw [List.take_of_length_le (by omega)] at hV
      go_wp2
      go_end0
      exact ⟨rfl, hV, hU⟩
end Go.Proofs.YtkknkdjdneldlaaGreat
namespace Go.Proofs.YtkknkdjdneldlaaGreat
set_option maxRecDepth 20000
open Go.RowKit Go.Px
set_option linter.unusedVariables false
theorem PgRows.drewN {w : World} {Q : Nat → Prop} {cs : List Value} {ps : List (Int × Int × List UInt8)} (h : PgRows w Q cs ps) (q : Nat) : PgRows (w.drewN q) Q cs ps := h.keep (fun A xs hr _ => hr.drewN q) (fun _ h => h)
set_option maxHeartbeats 3200000 in
theorem samePages_eq (A : Option Addr) (n c : Nat) (cs : List Value) (B : Option Addr) (d : Nat) (ds : List Value) (ps : List (Int × Int × List UInt8)) (Q Q' : Nat → Prop) (w : World) (hn : ps.length = n) (hnc : n ≤ c) (hc : c ≤ 9223372036854775807) (hr : Rd w A cs) (hr' : Rd w B ds) (hP : PgRows w Q cs ps) (hP' : PgRows w Q' ds ps) :
    Calls Tryz.prog 51 #[.slice A n c, .slice B n d] w fun e w' => e = .returned (.bool true) ∧ ∃ q, w' = w.drewN q := by
  have hl := hP.1
  have hl' := hP'.1
  have Hn := hide hn
  go_enter Tryz.func51, Tryz.ntmps51
  go_wp2
  go_loopw [5] (fun i wr => ∃ (k q : Nat), k ≤ n ∧ i = .int .i64 k ∧ wr = w.drewN q) (fun i _ => n - (intOf i).toNat)
  case atStart => exact ⟨0, 0, by omega, rfl, rfl⟩
  case round =>
    obtain ⟨k, q, hk, rfl, rfl⟩ := hrel
    by_cases hlt : k < n
    · obtain ⟨p, hp⟩ : ∃ p, ps[k]? = some p := ⟨_, List.getElem?_eq_getElem (by omega)⟩
      obtain ⟨A', m, c', h1, h2, h3, h4, h5, h6, h7, h8⟩ := hP.2 k p hp
      obtain ⟨B', m', d', i1, i2, i3, i4, i5, i6, i7, i8⟩ := hP'.2 k p hp
      obtain ⟨a, rfl, hat⟩ := hr.some_of (xs := cs) (by omega)
      obtain ⟨a', rfl, hat'⟩ := hr'.some_of (xs := ds) (by omega)
      obtain ⟨p1, p2, pd⟩ := p
      simp only at h1 h2 h4 h7 i1 i2 i4 i7
      have y0 := rd3_0 hat h1
      have y1 := rd3_S (i := 0) hat h2
      have y2 := rd3_S (i := 1) hat h3
      have z0 := rd3_0 hat' i1
      have z1 := rd3_S (i := 0) hat' i2
      have z2 := rd3_S (i := 1) hat' i3
      have cv1 : ∀ t, (convert 38 9 (.slice A' m c')).run Tryz.prog (w.drewN t) = .ok (.string (strOf pd)) (w.drewN t) := fun t => convB c' h4 (h7.drewN t)
      have cv2 : ∀ t, (convert 38 9 (.slice B' m' d')).run Tryz.prog (w.drewN t) = .ok (.string (strOf pd)) (w.drewN t) := fun t => convB d' i4 (i7.drewN t)
      go_wp2
      go_quiet (fail)
      all_goals
        go_wp2
        go_roundw
        case rel => exact ⟨k + 1, q + nq, by omega, by go_num, rfl⟩
        case measure => simp [intOf]; omega
    · obtain rfl : k = n := by omega
      go_wp2
      go_ret
      exact ⟨rfl, q, rfl⟩
end Go.Proofs.YtkknkdjdneldlaaGreat
namespace Go.Proofs.YtkknkdjdneldlaaGreat
set_option maxRecDepth 20000
open Go.RowKit Go.Px
set_option linter.unusedVariables false
theorem tBRows : SlT Tryz.prog 106 38 1 24 := slT_mk Tryz.underlying106 (z := .slice none 0 0) (by kernel_rfl) rfl (by decide)
theorem one_slice (A : Option Addr) (n c : Nat) : ∀ u ∈ [Value.slice A n c], u.oneCell' = true := by intro u hu; simp at hu; subst hu; rfl
theorem one_int (x : Int) : ∀ u ∈ [Value.int .i64 x], u.oneCell' = true := by intro u hu; simp at hu; subst hu; rfl
end Go.Proofs.YtkknkdjdneldlaaGreat
namespace Go.Proofs.YtkknkdjdneldlaaGreat
set_option maxRecDepth 20000
open Go.RowKit Go.Px
set_option linter.unusedVariables false
/-- A volume of plinthref05 at block rv: its rows' slices at block gb, its versions at block gv. -/
structure RVolIs (w : World) (lo rv gb gv cb cv b z N : Nat) (rows sv : List Value) (bs : List UInt8) (vs : List Int) (last : Int) : Prop where
  blk : Blk w rv [.int .i64 b, .int .i64 z, .slice (some ⟨gb, 0, none⟩) b cb, .slice (some ⟨gv, 0, none⟩) b cv, .int .i64 last] 108
  row : Blk w gb rows 38
  ver : Blk w gv (ints vs ++ sv) 3
  cells : ∀ i, i < b → ∃ A c, rows[i]? = some (.slice A z c) ∧ z ≤ c ∧ c ≤ 9223372036854775807 ∧ Rd w A (bys (segB bs i 1 z)) ∧ ∀ a, A = some a → lo ≤ a.block ∧ a.block ≠ rv ∧ a.block ≠ gb ∧ a.block ≠ gv
  hlo : lo ≤ rv ∧ lo ≤ gb ∧ lo ≤ gv
  lb : bs.length = N
  lv : vs.length = b
  hN : b * z = N
  rb : rv ≠ gb
  rg : rv ≠ gv
  bg : gb ≠ gv
  hb : 1 ≤ b ∧ b ≤ 4096
  hz : 1 ≤ z ∧ z ≤ 4096
  hcb : b ≤ cb ∧ cb ≤ 9223372036854775807
  hcv : b ≤ cv ∧ cv ≤ 9223372036854775807
section
variable {w w' : World} {lo rv gb gv cb cv b z N : Nat} {rows sv : List Value} {bs : List UInt8} {vs : List Int} {last : Int}
theorem RVolIs.upd {v r s : Nat} (h : RVolIs w lo rv gb gv cb cv b z N rows sv bs vs last) (hb : Upd v r s w w') (h1 : v < lo ∧ r < lo ∧ s < lo) : RVolIs w' lo rv gb gv cb cv b z N rows sv bs vs last := by
  obtain ⟨l1, l2, l3⟩ := h.hlo
  exact { h with
    blk := (hb.blk _ h.blk.lt (by omega) (by omega) (by omega)).trans h.blk
    row := (hb.blk _ h.row.lt (by omega) (by omega) (by omega)).trans h.row
    ver := (hb.blk _ h.ver.lt (by omega) (by omega) (by omega)).trans h.ver
    cells := fun i hi => by
      obtain ⟨A, c, k1, k2, k3, k4, k5⟩ := h.cells i hi
      exact ⟨A, c, k1, k2, k3, Rd.upd k4 hb (fun a ha => by have := (k5 a ha).1; omega), k5⟩ }
theorem RVolIs.below (h : RVolIs w lo rv gb gv cb cv b z N rows sv bs vs last) (hb : Below w.heap.size w w') : RVolIs w' lo rv gb gv cb cv b z N rows sv bs vs last :=
  { h with
    blk := h.blk.below hb
    row := h.row.below hb
    ver := h.ver.below hb
    cells := fun i hi => by
      obtain ⟨A, c, k1, k2, k3, k4, k5⟩ := h.cells i hi
      exact ⟨A, c, k1, k2, k3, k4.below hb, k5⟩ }
end
theorem segB_snoc (bs : List UInt8) (p k z : Nat) : segB bs p (k + 1) z = segB bs p k z ++ segB bs (p + k) 1 z := by
  unfold segB
  rw [Nat.add_mul, Nat.one_mul, List.take_add, List.drop_drop, ← Nat.add_mul]
theorem segB_zero (bs : List UInt8) (p z : Nat) : segB bs p 0 z = [] := by unfold segB; simp
set_option maxHeartbeats 1600000 in
theorem rread_any (w : World) (lo rv gb gv cb cv b z N : Nat) (rows sv : List Value) (bs : List UInt8) (vs : List Int) (last : Int) (p n : Nat) (h : RVolIs w lo rv gb gv cb cv b z N rows sv bs vs last) (hpn : p + n ≤ b) :
    Calls Tryz.prog 107 #[.pointer (some ⟨rv, 0, none⟩), .int .i64 p, .int .i64 n] w fun e w' => ∃ o, e = .returned o ∧ w'.ownsRow w.heap.size 5 1 o (n * z) (bys (segB bs p n z)) ∧ Below w.heap.size w w' := by
  obtain ⟨hb1, hb2⟩ := h.hb
  obtain ⟨hz1, hz2⟩ := h.hz
  go_enter Tryz.func107, Tryz.ntmps107
  go_wp2
  go_loopw [7, 8] (fun o i wr => ∃ (k : Nat), k ≤ n ∧ i = .int .i64 ((p + k : Nat) : Int) ∧ wr.ownsRow w.heap.size 5 1 o (k * z) (bys (segB bs p k z)) ∧ Below w.heap.size w wr) (fun _ i _ => p + n - (intOf i).toNat)
  case atStart => exact ⟨0, by omega, by simp, by rw [segB_zero, Nat.zero_mul]; exact World.ownsRow_nil _ _ _ _, Below.refl _ _⟩
  case round =>
    obtain ⟨k, hk, rfl, hown, hbw⟩ := hrel
    have hszw := hbw.size
    obtain ⟨q, hq⟩ : ∃ q, p + k = q := ⟨_, rfl⟩
    rw [hq]
    by_cases hlt : k < n
    · have hR := h.below hbw
      have hqb : q < b := by omega
      have hqn : q < p + n := by omega
      obtain ⟨A, c, k1, k2, k3, k4, k5⟩ := hR.cells q hqb
      have x1 := hR.blk.cell (j := 2) rfl
      have y1 := hR.row.cell (j := q) k1
      have hsl := segB_length (bs := bs) (p := q) (n := 1) h.lb h.hN (by omega)
      rw [Nat.one_mul] at hsl
      have hkz : k * z + z = (k + 1) * z := by rw [Nat.add_mul, Nat.one_mul]
      have hkz2 : k * z ≤ 4096 * 4096 := Nat.mul_le_mul (by omega) (by omega)
      have Hs := hide (segB_snoc bs p k z)
      have hlo := own_lt hown
      obtain ⟨M, hM⟩ : ∃ M, k * z = M := ⟨_, rfl⟩
      rw [hM] at hkz hkz2 hown
      have Hkz := hide hkz
      have Hsl := hide hsl
      have Hq := hide hq
      clear hM hkz hsl hq
      go_wp2_with (first | (with_reducible refine stop_append rfl ?_) | (with_reducible refine stop_copy rfl ?_) | (with_reducible refine stop_make rfl ?_))
      refine go_append (v := u7) rfl rfl tBytes rfl hown rfl (m := z) (news := bys (segB bs q 1 z)) (by simp [bys, Hsl.out]) k4 (bys_one _) (by omega) (by omega) (by omega) ?_
      intro v5 w5 hown5 hg5 hv5
      have hb5 : Below w.heap.size w w5 := hbw.grown hg5 (by omega) (fun x hx => (hlo x hx).1)
      go_wp2
      go_roundw
      case rel => exact ⟨k + 1, by omega, by have := Hq.out; go_num, by rw [Hs.out, Hq.out, bys_append, ← Hkz.out]; exact hown5, hb5⟩
      case measure => simp [intOf]; omega
    · obtain rfl : k = n := by omega
      have hqn : ¬ q < p + k := by omega
      go_wp2
      go_ret
      exact ⟨_, rfl, hown, hbw⟩
end Go.Proofs.YtkknkdjdneldlaaGreat
namespace Go.Proofs.YtkknkdjdneldlaaGreat
set_option maxRecDepth 20000
open Go.RowKit Go.Px
set_option linter.unusedVariables false
theorem splB_getD {bs xs : List UInt8} {off : Nat} (h : off + xs.length ≤ bs.length) (j : Nat) : (splB bs off xs).getD j 0 = if off ≤ j ∧ j < off + xs.length then xs.getD (j - off) 0 else bs.getD j 0 := by
  unfold splB
  simp only [List.getD_eq_getElem?_getD]
  have h1 : (bs.take off).length = off := by rw [List.length_take]; omega
  by_cases c1 : j < off
  · rw [if_neg (by omega), List.append_assoc, List.getElem?_append_left (by omega), List.getElem?_take, if_pos c1]
  · by_cases c2 : j < off + xs.length
    · rw [if_pos ⟨by omega, c2⟩, List.getElem?_append_left (by simp [h1]; omega), List.getElem?_append_right (by omega), h1]
    · rw [if_neg (by omega), List.getElem?_append_right (by simp [h1]; omega), List.getElem?_drop]
      congr 2
      simp [h1]; omega
theorem stampL_getD (vs : List Int) (P : Nat) (num : Int) : ∀ M, P + M ≤ vs.length → ∀ i, (stampL vs P num M).getD i 0 = if P ≤ i ∧ i < P + M then num else vs.getD i 0
  | 0, _, i => by unfold stampL; rw [if_neg (by omega)]
  | M + 1, h, i => by
    have ih := stampL_getD vs P num M (by omega) i
    have hl := stampL_length vs P num M
    unfold stampL
    rw [List.getD_eq_getElem?_getD, List.getElem?_set]
    by_cases c : P + M = i
    · rw [if_pos c, if_pos (by omega), if_pos ⟨by omega, by omega⟩]; rfl
    · rw [if_neg c, ← List.getD_eq_getElem?_getD, ih]
      by_cases c1 : P ≤ i ∧ i < P + M
      · rw [if_pos c1, if_pos ⟨c1.1, by omega⟩]
      · rw [if_neg c1, if_neg (by omega)]
/-- What a request makes of a volume: nothing, or a run of blocks written and stamped. -/
theorem do_changes (b z : Nat) (bs : List UInt8) (vs : List Int) (last : Int) (k : Nat) (p n : Int) (ds os : List UInt8) (num : Int) :
    (doBE b z bs last k p n ds os num = bs ∧ doVE b z bs vs last k p n ds os num = vs) ∨
    ∃ P M xs, P + M ≤ b ∧ xs.length = M * z ∧ doBE b z bs last k p n ds os num = splB bs (P * z) xs ∧ doVE b z bs vs last k p n ds os num = stampL vs P num M ∧ serB num = true := by
  unfold doBE doVE
  by_cases hE : doE b z last k p n ds.length os.length num = 0
  · rw [if_pos hE, if_pos hE]
    unfold doB doV
    by_cases hW : doW b z bs k p n ds.length os = true
    · rw [if_pos hW, if_pos hW]
      have hn : serB num = true ∧ ¬ num < last := by
        unfold doE at hE
        split at hE
        · assumption
        · cases hE
      have hf : ftE b z k p n ds.length os.length = 0 := by
        unfold doE at hE
        rw [if_pos hn] at hE
        exact hE
      unfold doW at hW
      simp only [Bool.and_eq_true, decide_eq_true_eq, Bool.or_eq_true] at hW
      obtain ⟨hc, hk⟩ := hW
      obtain ⟨p1, n1, hg⟩ := fit_good hf hc
      refine .inr ⟨p.toNat, doN k n, doP z k n ds, ?_, ?_, rfl, rfl, hn.1⟩
      · unfold doN
        rcases hg with rfl | ⟨rfl, g1, g2, g3⟩ | ⟨hkk, g1, g2, g3, g4⟩
        · rcases hk with (h | h) | ⟨h, _⟩ <;> cases h
        · rw [if_pos rfl]; omega
        · rw [if_neg (by omega)]; omega
      · unfold doN doP
        rcases hg with rfl | ⟨rfl, g1, g2, g3⟩ | ⟨hkk, g1, g2, g3, g4⟩
        · rcases hk with (h | h) | ⟨h, _⟩ <;> cases h
        · show ds.length = 1 * z; omega
        · by_cases h3 : k = 3
          · subst h3; show (List.replicate (n.toNat * z) (0 : UInt8)).length = n.toNat * z; rw [List.length_replicate]
          · have h2 : k = 2 := by
              rcases hk with (h | h) | ⟨h, _⟩
              · exact h
              · exact absurd h h3
              · omega
            have := g4 h2
            rw [if_neg h3, if_neg (by omega)]
            obtain ⟨M, rfl⟩ := Int.eq_ofNat_of_zero_le n1
            have : ((ds.length : Nat) : Int) = ((M * z : Nat) : Int) := by rw [this]; simp
            show ds.length = M * z
            exact Int.ofNat_inj.1 this
    · rw [if_neg hW, if_neg hW]; exact .inl ⟨rfl, rfl⟩
  · rw [if_neg hE, if_neg hE]; exact .inl ⟨rfl, rfl⟩
theorem blk_out {i P M r z : Nat} (hr : r < z) : (P * z ≤ i * z + r ∧ i * z + r < P * z + M * z) ↔ P ≤ i ∧ i < P + M := by
  constructor
  · rintro ⟨h1, h2⟩
    constructor
    · rcases Nat.lt_or_ge i P with h | h
      · have := Nat.mul_le_mul_right z h
        rw [Nat.succ_mul] at this
        omega
      · exact h
    · rcases Nat.lt_or_ge i (P + M) with h | h
      · exact h
      · have := Nat.mul_le_mul_right z h
        rw [Nat.add_mul] at this
        omega
  · rintro ⟨h1, h2⟩
    have a1 := Nat.mul_le_mul_right z h1
    have a2 := Nat.mul_le_mul_right z h2
    rw [Nat.succ_mul, Nat.add_mul] at a2
    omega
/-- Since a number n: each block is as it was, or bears a later version. -/
def Since (b z : Nat) (n : Int) (bs : List UInt8) (vs : List Int) (bs' : List UInt8) (vs' : List Int) : Prop :=
  ∀ i, i < b → (vs'.getD i 0 = vs.getD i 0 ∧ ∀ r, r < z → bs'.getD (i * z + r) 0 = bs.getD (i * z + r) 0) ∨ n < vs'.getD i 0
theorem Since.refl (b z : Nat) (n : Int) (bs : List UInt8) (vs : List Int) : Since b z n bs vs bs vs := fun i hi => .inl ⟨rfl, fun r hr => rfl⟩
theorem Since.step {b z N : Nat} {n : Int} {bs0 : List UInt8} {vs0 : List Int} {bs : List UInt8} {vs : List Int} (h : Since b z n bs0 vs0 bs vs) (hb : bs.length = N) (hv : vs.length = b) (hN : b * z = N) (last : Int) (k : Nat) (p m : Int) (ds os : List UInt8) {num : Int} (hn : n < num) :
    Since b z n bs0 vs0 (doBE b z bs last k p m ds os num) (doVE b z bs vs last k p m ds os num) := by
  rcases do_changes b z bs vs last k p m ds os num with ⟨e1, e2⟩ | ⟨P, M, xs, hPM, hx, e1, e2, _⟩
  · rw [e1, e2]; exact h
  · rw [e1, e2]
    intro i hi
    rw [stampL_getD vs P num M (by omega)]
    by_cases c : P ≤ i ∧ i < P + M
    · rw [if_pos c]; exact .inr hn
    · rw [if_neg c]
      rcases h i hi with ⟨h1, h2⟩ | h1
      · refine .inl ⟨h1, fun r hr => ?_⟩
        have hfit : P * z + xs.length ≤ bs.length := by
          rw [hx, hb, ← hN, ← Nat.add_mul]; exact Nat.mul_le_mul_right z hPM
        rw [splB_getD hfit, hx, if_neg (by rw [blk_out hr]; exact c)]
        exact h2 r hr
      · exact .inr h1
theorem layB_snoc (z : Nat) (bs : List UInt8) (l : List (Int × Int × List UInt8)) (p : Int × Int × List UInt8) : layB z bs (l ++ [p]) = splB (layB z bs l) (p.1.toNat * z) p.2.2 := by unfold layB; rw [List.foldl_append, List.foldl_cons, List.foldl_nil]
theorem layV_snoc (vs : List Int) (l : List (Int × Int × List UInt8)) (p : Int × Int × List UInt8) : layV vs (l ++ [p]) = (layV vs l).set p.1.toNat p.2.1 := by unfold layV; rw [List.foldl_append, List.foldl_cons, List.foldl_nil]
theorem pg_laid {b z N : Nat} {n : Int} {bs bs' : List UInt8} {vs vs' : List Int} (hb : bs.length = N) (hb' : bs'.length = N) (hv : vs.length = b) (hN : b * z = N) : ∀ k, k ≤ b →
    (layB z bs (pgL z bs' vs' n k)).length = N ∧ (layV vs (pgL z bs' vs' n k)).length = b ∧
    (∀ i r, i < b → r < z → (layB z bs (pgL z bs' vs' n k)).getD (i * z + r) 0 = if i < k ∧ pgB vs' n i = true then bs'.getD (i * z + r) 0 else bs.getD (i * z + r) 0) ∧
    ∀ i, i < b → (layV vs (pgL z bs' vs' n k)).getD i 0 = if i < k ∧ pgB vs' n i = true then vs'.getD i 0 else vs.getD i 0
  | 0, _ => ⟨hb, hv, fun i r hi hr => by rw [if_neg (by omega)]; rfl, fun i hi => by rw [if_neg (by omega)]; rfl⟩
  | k + 1, hk => by
    obtain ⟨i1, i2, i3, i4⟩ := pg_laid (n := n) hb hb' hv hN k (by omega) (vs' := vs')
    have hsl : (segB bs' k 1 z).length = 1 * z := segB_length hb' hN (by omega)
    rw [Nat.one_mul] at hsl
    have hkz : k * z + z ≤ N := by
      rw [← hN]
      have := Nat.mul_le_mul_right z hk
      rw [Nat.succ_mul] at this
      exact this
    unfold pgL
    by_cases hp : pgB vs' n k = true
    · rw [if_pos hp, layB_snoc, layV_snoc]
      simp only [Int.toNat_natCast]
      refine ⟨by rw [splB_length (by omega)]; exact i1, by simp [i2], fun i r hi hr => ?_, fun i hi => ?_⟩
      · rw [splB_getD (by omega), hsl]
        have hout := blk_out (i := i) (P := k) (M := 1) hr
        rw [Nat.one_mul] at hout
        by_cases c : i = k
        · subst c
          rw [if_pos (hout.2 ⟨by omega, by omega⟩), if_pos ⟨by omega, hp⟩]
          unfold segB
          rw [List.getD_eq_getElem?_getD, List.getElem?_take, if_pos (by omega), List.getElem?_drop, ← List.getD_eq_getElem?_getD]
          congr 1
          omega
        · rw [if_neg (fun h => by have := hout.1 h; omega), i3 i r hi hr]
          by_cases c2 : i < k ∧ pgB vs' n i = true
          · rw [if_pos c2, if_pos ⟨by omega, c2.2⟩]
          · rw [if_neg c2, if_neg (fun h => c2 ⟨by omega, h.2⟩)]
      · rw [List.getD_eq_getElem?_getD, List.getElem?_set]
        by_cases c : k = i
        · subst c
          rw [if_pos rfl, if_pos (by omega), if_pos ⟨by omega, hp⟩]; rfl
        · rw [if_neg c, ← List.getD_eq_getElem?_getD, i4 i hi]
          by_cases c2 : i < k ∧ pgB vs' n i = true
          · rw [if_pos c2, if_pos ⟨by omega, c2.2⟩]
          · rw [if_neg c2, if_neg (fun h => c2 ⟨by omega, h.2⟩)]
    · rw [if_neg hp]
      refine ⟨i1, i2, fun i r hi hr => ?_, fun i hi => ?_⟩
      · rw [i3 i r hi hr]
        by_cases c2 : i < k ∧ pgB vs' n i = true
        · rw [if_pos c2, if_pos ⟨by omega, c2.2⟩]
        · rw [if_neg c2, if_neg (fun h => c2 ⟨by
            rcases Nat.lt_or_ge i k with h' | h'
            · exact h'
            · have : i = k := by omega
              subst this; exact absurd h.2 hp, h.2⟩)]
      · rw [i4 i hi]
        by_cases c2 : i < k ∧ pgB vs' n i = true
        · rw [if_pos c2, if_pos ⟨by omega, c2.2⟩]
        · rw [if_neg c2, if_neg (fun h => c2 ⟨by
            rcases Nat.lt_or_ge i k with h' | h'
            · exact h'
            · have : i = k := by omega
              subst this; exact absurd h.2 hp, h.2⟩)]
theorem ext_getD {α : Type} {l m : List α} {x : α} (hl : l.length = m.length) (h : ∀ j, j < l.length → l.getD j x = m.getD j x) : l = m := by
  apply List.ext_getElem hl
  intro j h1 h2
  have := h j h1
  rw [List.getD_eq_getElem?_getD, List.getD_eq_getElem?_getD, List.getElem?_eq_getElem h1, List.getElem?_eq_getElem h2] at this
  simpa using this
/-- The pages that were changed since a number make the later volume. -/
theorem pages_later {b z N : Nat} {n : Int} {bs bs' : List UInt8} {vs vs' : List Int} (hz : 1 ≤ z) (hn : 0 ≤ n) (hb : bs.length = N) (hb' : bs'.length = N) (hv : vs.length = b) (hv' : vs'.length = b) (hN : b * z = N) (hs : Since b z n bs vs bs' vs') (hle : ∀ i, i < b → vs.getD i 0 ≤ n) :
    layB z bs (pgL z bs' vs' n b) = bs' ∧ layV vs (pgL z bs' vs' n b) = vs' := by
  obtain ⟨i1, i2, i3, i4⟩ := pg_laid (n := n) (vs' := vs') hb hb' hv hN b (Nat.le_refl _)
  have key : ∀ i, i < b → pgB vs' n i = false → vs'.getD i 0 = vs.getD i 0 ∧ ∀ r, r < z → bs'.getD (i * z + r) 0 = bs.getD (i * z + r) 0 := fun i hi hp => by
    rcases hs i hi with h | h
    · exact h
    · unfold pgB at hp
      rw [decide_eq_true h, decide_eq_true (show 0 < vs'.getD i 0 by omega)] at hp
      cases hp
  constructor
  · apply ext_getD (x := 0) (by rw [i1, hb'])
    intro j hj
    rw [i1, ← hN] at hj
    have hi : j / z < b := Nat.div_lt_of_lt_mul (by rw [Nat.mul_comm]; exact hj)
    have hr : j % z < z := Nat.mod_lt _ (by omega)
    have e : j / z * z + j % z = j := by rw [Nat.mul_comm]; exact Nat.div_add_mod j z
    have := i3 (j / z) (j % z) hi hr
    rw [e] at this
    rw [this]
    by_cases hp : pgB vs' n (j / z) = true
    · rw [if_pos ⟨hi, hp⟩]
    · rw [if_neg (fun h => hp h.2)]
      have := (key _ hi (by simpa using hp)).2 (j % z) hr
      rw [e] at this
      exact this.symm
  · apply ext_getD (x := 0) (by rw [i2, hv'])
    intro j hj
    rw [i2] at hj
    rw [i4 j hj]
    by_cases hp : pgB vs' n j = true
    · rw [if_pos ⟨hj, hp⟩]
    · rw [if_neg (fun h => hp h.2)]
      exact (key _ hj (by simpa using hp)).1.symm
theorem mpA_snoc {b z : Int} {p : Int × Int × List UInt8} (h2 : ¬ b ≤ p.1) (h3 : serB p.2.1 = true) (h4 : (p.2.2.length : Int) = z) : ∀ (l : List (Int × Int × List UInt8)) (ah : Int), ah < p.1 → (∀ q ∈ l, q.1 < p.1) → mpA b z ah l = true → mpA b z ah (l ++ [p]) = true
  | [], ah, ha, _, _ => by rw [List.nil_append, mpA_yes ⟨by omega, h2, h3, h4⟩]; rfl
  | q :: r, ah, ha, hl, h => by
    rw [List.cons_append]
    by_cases hq : ¬ q.1 ≤ ah ∧ ¬ b ≤ q.1 ∧ serB q.2.1 = true ∧ (q.2.2.length : Int) = z
    · rw [mpA_yes hq] at h ⊢
      exact mpA_snoc h2 h3 h4 r q.1 (hl q List.mem_cons_self) (fun x hx => hl x (List.mem_cons_of_mem _ hx)) h
    · rw [mpA_no hq] at h; cases h
theorem pgL_places {z : Nat} {bs : List UInt8} {vs : List Int} {n : Int} : ∀ k, ∀ q ∈ pgL z bs vs n k, q.1 < (k : Int)
  | 0, q, h => by simp [pgL] at h
  | k + 1, q, h => by
    unfold pgL at h
    split at h
    · rcases List.mem_append.1 h with h | h
      · have := pgL_places k q h; omega
      · simp at h; subst h; show (k : Int) < _; omega
    · have := pgL_places k q h; omega
theorem pgL_may {b z N : Nat} {bs : List UInt8} {vs : List Int} {n : Int} (hb : bs.length = N) (hN : b * z = N) (hle : ∀ i, i < b → vs.getD i 0 ≤ 4611686018427387904) : ∀ k, k ≤ b → mpA b z (-1) (pgL z bs vs n k) = true
  | 0, _ => rfl
  | k + 1, hk => by
    unfold pgL
    split
    · rename_i hp
      unfold pgB at hp
      simp only [Bool.and_eq_true, decide_eq_true_eq] at hp
      have hsl : (segB bs k 1 z).length = 1 * z := segB_length hb hN (by omega)
      have := hle k (by omega)
      exact mpA_snoc (by show ¬ (b : Int) ≤ (k : Int); omega) (by unfold serB; simp only [decide_eq_true_eq]; omega) (by show ((segB bs k 1 z).length : Int) = z; rw [hsl]; omega) _ _ (by show (-1 : Int) < k; omega) (pgL_places k) (pgL_may hb hN hle k (by omega))
    · exact pgL_may hb hN hle k (by omega)
end Go.Proofs.YtkknkdjdneldlaaGreat
namespace Go.Proofs.YtkknkdjdneldlaaGreat
set_option maxRecDepth 20000
open Go.RowKit Go.Px
set_option linter.unusedVariables false
theorem splB_snoc {bs xs ys : List UInt8} {o : Nat} (h : o + xs.length + ys.length ≤ bs.length) : splB (splB bs o xs) (o + xs.length) ys = splB bs o (xs ++ ys) := by
  unfold splB
  have h1 : (bs.take o ++ xs).length = o + xs.length := by rw [List.length_append, List.length_take]; omega
  rw [List.take_left' h1, ← List.drop_drop, List.drop_left' h1, List.drop_drop, List.length_append]
  simp only [List.append_assoc]
  congr 4
  omega
theorem seg_spl {bs xs : List UInt8} {b z N q i : Nat} (hl : bs.length = N) (hN : b * z = N) (hq : q < b) (hi : i < b) (hx : xs.length = z) : segB (splB bs (q * z) xs) i 1 z = if i = q then xs else segB bs i 1 z := by
  have hqz : q * z + z ≤ N := by rw [← hN]; have := Nat.mul_le_mul_right z (show q + 1 ≤ b by omega); rw [Nat.add_mul, Nat.one_mul] at this; exact this
  have hiz : i * z + z ≤ N := by rw [← hN]; have := Nat.mul_le_mul_right z (show i + 1 ≤ b by omega); rw [Nat.add_mul, Nat.one_mul] at this; exact this
  have hsl : (splB bs (q * z) xs).length = bs.length := splB_length (by omega)
  have e1 : (segB (splB bs (q * z) xs) i 1 z).length = z := by unfold segB; rw [List.length_take, List.length_drop, hsl, hl, Nat.one_mul]; omega
  have e2 : (segB bs i 1 z).length = z := by unfold segB; rw [List.length_take, List.length_drop, hl, Nat.one_mul]; omega
  have sg : ∀ (l : List UInt8) (j : Nat), j < z → (segB l i 1 z).getD j 0 = l.getD (i * z + j) 0 := by
    intro l j hj
    unfold segB
    simp only [List.getD_eq_getElem?_getD, List.getElem?_take, List.getElem?_drop, Nat.one_mul, if_pos hj]
  refine ext_getD (x := 0) (by split <;> omega) fun j hj => ?_
  rw [e1] at hj
  rw [sg _ _ hj, splB_getD (by omega), hx]
  have hbo := blk_out (i := i) (P := q) (M := 1) hj
  rw [Nat.one_mul] at hbo
  by_cases h : i = q
  · subst h
    rw [if_pos ⟨by omega, by omega⟩, if_pos rfl]
    congr 1; omega
  · rw [if_neg (fun hh => by have := hbo.1 hh; omega), if_neg h, sg _ _ hj]
section
variable {w w' : World} {lo rv gb gv cb cv b z N : Nat} {rows sv : List Value} {bs : List UInt8} {vs : List Int} {last : Int}
theorem RVolIs.setRow (h : RVolIs w lo rv gb gv cb cv b z N rows sv bs vs last) {q : Nat} (hq : q < b) {A : Option Addr} {c : Nat} {xs : List UInt8} (hx : xs.length = z) (hc : z ≤ c ∧ c ≤ 9223372036854775807) (hA : Rd w A (bys xs)) (hf : ∀ a, A = some a → lo ≤ a.block ∧ a.block ≠ rv ∧ a.block ≠ gb ∧ a.block ≠ gv) :
    RVolIs (w.setCell ⟨gb, q, none⟩ (.slice A z c)) lo rv gb gv cb cv b z N (rows.set q (.slice A z c)) sv (splB bs (q * z) xs) vs last := by
  have hU : Upd gb gb gb w (w.setCell ⟨gb, q, none⟩ (.slice A z c)) := Upd.setV w q _
  have hqz : q * z + z ≤ N := by rw [← h.hN]; have := Nat.mul_le_mul_right z (show q + 1 ≤ b by omega); rw [Nat.add_mul, Nat.one_mul] at this; exact this
  have hql : q < rows.length := by obtain ⟨_, _, k1, _⟩ := h.cells q hq; exact (List.getElem?_eq_some_iff.1 k1).1
  exact { h with
    blk := h.blk.apart h.rb q _
    row := h.row.set q _
    ver := h.ver.apart (Ne.symm h.bg) q _
    lb := by rw [splB_length (by rw [hx, h.lb]; omega)]; exact h.lb
    cells := fun i hi => by
      rw [seg_spl h.lb h.hN hq hi hx]
      by_cases e : i = q
      · subst e
        rw [if_pos rfl]
        exact ⟨A, c, by rw [List.getElem?_set_self hql], hc.1, hc.2, Rd.upd hA hU (fun a ha => ⟨(hf a ha).2.2.1, (hf a ha).2.2.1, (hf a ha).2.2.1⟩), hf⟩
      · obtain ⟨A', c', k1, k2, k3, k4, k5⟩ := h.cells i hi
        rw [if_neg e]
        exact ⟨A', c', by rw [List.getElem?_set_ne (Ne.symm e)]; exact k1, k2, k3, Rd.upd k4 hU (fun a ha => ⟨(k5 a ha).2.2.1, (k5 a ha).2.2.1, (k5 a ha).2.2.1⟩), k5⟩ }
theorem RVolIs.setVer (h : RVolIs w lo rv gb gv cb cv b z N rows sv bs vs last) {q : Nat} (hq : q < b) (x : Int) :
    RVolIs (w.setCell ⟨gv, q, none⟩ (.int .i64 x)) lo rv gb gv cb cv b z N rows sv bs (vs.set q x) last := by
  have hU : Upd gv gv gv w (w.setCell ⟨gv, q, none⟩ (.int .i64 x)) := Upd.setV w q _
  exact { h with
    blk := h.blk.apart h.rg q _
    row := h.row.apart h.bg q _
    ver := by
      have := h.ver.set q (.int .i64 x)
      rwa [List.set_append_left _ _ (by rw [ints_length, h.lv]; exact hq), ← ints_set] at this
    lv := by rw [List.length_set]; exact h.lv
    cells := fun i hi => by
      obtain ⟨A', c', k1, k2, k3, k4, k5⟩ := h.cells i hi
      exact ⟨A', c', k1, k2, k3, Rd.upd k4 hU (fun a ha => ⟨(k5 a ha).2.2.2, (k5 a ha).2.2.2, (k5 a ha).2.2.2⟩), k5⟩ }
theorem RVolIs.setLast (h : RVolIs w lo rv gb gv cb cv b z N rows sv bs vs last) (x : Int) :
    RVolIs (w.setCell ⟨rv, 4, none⟩ (.int .i64 x)) lo rv gb gv cb cv b z N rows sv bs vs x := by
  have hU : Upd rv rv rv w (w.setCell ⟨rv, 4, none⟩ (.int .i64 x)) := Upd.setV w 4 _
  exact { h with
    blk := h.blk.set 4 (.int .i64 x)
    row := h.row.apart (Ne.symm h.rb) 4 _
    ver := h.ver.apart (Ne.symm h.rg) 4 _
    cells := fun i hi => by
      obtain ⟨A', c', k1, k2, k3, k4, k5⟩ := h.cells i hi
      exact ⟨A', c', k1, k2, k3, Rd.upd k4 hU (fun a ha => ⟨(k5 a ha).2.1, (k5 a ha).2.1, (k5 a ha).2.1⟩), k5⟩ }
end
theorem Upd.setR {v r s : Nat} (w : World) (j : Nat) (u : Value) : Upd v r s w (w.setCell ⟨r, j, none⟩ u) := ⟨rfl, rfl, rfl, by simp, fun k _ _ h _ => heap_setCell_other w ⟨r, j, none⟩ k u h⟩
theorem cutA_block {D : Option Addr} {c k s : Nat} {P : Nat → Prop} (h : ∀ a, D = some a → P a.block) : ∀ a, cutA D c k s = some a → P a.block := by
  intro a ha
  unfold cutA at ha
  split at ha
  · exact h a ha
  · cases D with
    | none => cases ha
    | some x => injection ha with ha; subst ha; show P (x.add (k * s)).block; rw [add_block]; exact h x rfl
def RowsNew (b z B : Nat) (rows rows' : List Value) : Prop := ∀ i A c, i < b → rows'[i]? = some (.slice A z c) → rows[i]? = some (.slice A z c) ∨ ∀ a, A = some a → B ≤ a.block
theorem RowsNew.refl (b z B : Nat) (rows : List Value) : RowsNew b z B rows rows := fun i A c hi h => .inl h
theorem RowsNew.mono {b z B B' : Nat} {rows rows' : List Value} (h : RowsNew b z B rows rows') (hB : B' ≤ B) : RowsNew b z B' rows rows' := fun i A c hi h' => (h i A c hi h').imp id (fun h2 a ha => Nat.le_trans hB (h2 a ha))
theorem RowsNew.set {b z B : Nat} {rows rows' : List Value} (h : RowsNew b z B rows rows') {q : Nat} {A : Option Addr} {c : Nat} (hA : ∀ a, A = some a → B ≤ a.block) : RowsNew b z B rows (rows'.set q (.slice A z c)) := by
  intro i A' c' hi h'
  by_cases e : q = i
  · subst e
    by_cases hl : q < rows'.length
    · rw [List.getElem?_set_self hl] at h'
      injection h' with h'
      injection h' with e1 e2 e3
      subst e1
      exact .inr hA
    · rw [List.set_eq_of_length_le (by omega)] at h'
      exact h q A' c' hi h'
  · rw [List.getElem?_set_ne e] at h'
    exact h i A' c' hi h'
set_option maxHeartbeats 6400000 in
theorem rwrite_any (w : World) (lo rv gb gv cb cv b z N : Nat) (rows sv : List Value) (bs : List UInt8) (vs : List Int) (last : Int) (p n : Nat) (D : Option Addr) (d dc : Nat) (ds : List UInt8) (num : Int) (h : RVolIs w lo rv gb gv cb cv b z N rows sv bs vs last) (hpn : p + n ≤ b)
    (hd : ds.length = d) (hdn : d = n * z) (hdc : d ≤ dc) (hdm : dc ≤ 9223372036854775807) (hD : Rd w D (bys ds)) (hDq : ∀ a, D = some a → a.block ≠ rv ∧ a.block ≠ gb ∧ a.block ≠ gv) :
    Calls Tryz.prog 108 #[.pointer (some ⟨rv, 0, none⟩), .int .i64 p, .slice D d dc, .int .i64 num] w fun e w' => e = .returned (.tuple #[]) ∧ (∃ rows', RVolIs w' lo rv gb gv cb cv b z N rows' sv (splB bs (p * z) ds) (stampL vs p num n) last ∧ RowsNew b z w.heap.size rows rows') ∧ Upd rv gb gv w w' := by
  obtain ⟨hb1, hb2⟩ := h.hb
  obtain ⟨hz1, hz2⟩ := h.hz
  have HD := hide hDq
  have Hd := hide hd
  have hd0 : ds.drop (0 * z) = ds := by rw [Nat.zero_mul]; rfl
  have ht0 : splB bs (p * z) (ds.take (0 * z)) = bs := by unfold splB; simp
  have H0 := hide (And.intro hd0 ht0)
  clear hd0 ht0 hDq hd
  go_enter Tryz.func108, Tryz.ntmps108
  go_wp2
  go_loopw [1, 2] (fun i dv wr => ∃ (j : Nat) (D' : Option Addr) (M c' : Nat) (rows' : List Value), j ≤ n ∧ i = .int .i64 ((p + j : Nat) : Int) ∧ dv = .slice D' M c' ∧ M = (n - j) * z ∧ M ≤ c' ∧ c' ≤ 9223372036854775807 ∧ Rd wr D' (bys (ds.drop (j * z))) ∧ (∀ a, D' = some a → a.block ≠ rv ∧ a.block ≠ gb ∧ a.block ≠ gv) ∧
      RVolIs wr lo rv gb gv cb cv b z N rows' sv (splB bs (p * z) (ds.take (j * z))) (stampL vs p num j) last ∧ Upd rv gb gv w wr ∧ RowsNew b z w.heap.size rows rows') (fun i _ _ => p + n - (intOf i).toNat)
  case atStart => exact ⟨0, D, d, dc, rows, by omega, by simp, rfl, by simpa using hdn, hdc, hdm, by rw [H0.out.1]; exact hD, HD.out, by rw [H0.out.2]; exact h, Upd.of_below (Below.refl _ _), fun i A c hi h => .inl h⟩
  case round =>
    obtain ⟨j, D', M, c', rows', hj, rfl, rfl, hM, hMc, hcm, hDr, hDq, hR, hU, hRN⟩ := hrel
    obtain ⟨q, hq⟩ : ∃ q, p + j = q := ⟨_, rfl⟩
    rw [hq]
    by_cases hlt : j < n
    · have hqb : q < b := by omega
      obtain ⟨zM, hzM⟩ : ∃ x, (n - (j + 1)) * z = x := ⟨_, rfl⟩
      have hMz : M = zM + z := by rw [hM, ← hzM, show n - j = n - (j + 1) + 1 by omega, Nat.add_mul, Nat.one_mul]
      have hx0 := hR.blk.cell (j := 1) rfl
      have hsegl : ((ds.drop (j * z)).take z).length = z := by
        rw [List.length_take, List.length_drop, Hd.out, hdn]
        have : (j + 1) * z ≤ n * z := Nat.mul_le_mul_right _ (by omega)
        rw [Nat.add_mul, Nat.one_mul] at this
        omega
      have hDt : Rd wr D' (bys ((ds.drop (j * z)).take z)) := by rw [bys_take]; exact hDr.take z
      obtain ⟨xs, hxs⟩ : ∃ xs, (ds.drop (j * z)).take z = xs := ⟨_, rfl⟩
      rw [hxs] at hsegl hDt
      have Hxs := hide hxs
      have Hsl := hide hsegl
      have HzM := hide hzM
      have Hq := hide hq
      have hzle : z ≤ M := by omega
      have hMp : 0 < M := by omega
      have HMz := hide hMz
      have HnM := hide (show n * z - j * z ≤ M by rw [hM, Nat.sub_mul]; exact Nat.le_refl _)
      have Hj1 := hide (show splB (splB bs (p * z) (ds.take (j * z))) (q * z) xs = splB bs (p * z) (ds.take ((j + 1) * z)) by
        have hj1 : (j + 1) * z ≤ n * z := Nat.mul_le_mul_right _ (by omega)
        have hpz : (p + n) * z ≤ b * z := Nat.mul_le_mul_right _ hpn
        rw [Nat.add_mul] at hpz
        have hjz : (j + 1) * z = j * z + z := by rw [Nat.add_mul, Nat.one_mul]
        have htl : (ds.take (j * z)).length = j * z := by rw [List.length_take, Hd.out, hdn]; omega
        have := splB_snoc (bs := bs) (o := p * z) (xs := ds.take (j * z)) (ys := xs) (by rw [htl, hsegl, h.lb, ← h.hN]; omega)
        rw [htl, ← Nat.add_mul, hq] at this
        rw [this, hjz, List.take_add, hxs])
      clear hM hxs hsegl hzM hq hMz
      have rvl := hR.blk.lt
      have gbl := hR.row.lt
      have gvl := hR.ver.lt
      -- the world behind the new empty row
      obtain ⟨w1, hw1⟩ : ∃ x, (wr.alloc (.cells #[] 5)).drew = x := ⟨_, rfl⟩
      have hb1' : Below wr.heap.size wr w1 := by rw [← hw1]; exact ((Below.refl _ _).alloc (Nat.le_refl _) _).drew
      have hR1 := hR.below hb1'
      have x2 : wr.drew.cell? ⟨rv, 2, none⟩ = some (.slice (some ⟨gb, 0, none⟩) b cb) := hR.blk.cell (j := 2) rfl
      have x1 : wr.drew.cell? ⟨rv, 1, none⟩ = some (.int .i64 z) := hR.blk.cell (j := 1) rfl
      have a2 : (wr.alloc (.cells #[] 5)).drew.cell? ⟨rv, 2, none⟩ = some (.slice (some ⟨gb, 0, none⟩) b cb) := by rw [hw1]; exact hR1.blk.cell (j := 2) rfl
      have a1 : (wr.alloc (.cells #[] 5)).drew.cell? ⟨rv, 1, none⟩ = some (.int .i64 z) := by rw [hw1]; exact hR1.blk.cell (j := 1) rfl
      have ow : (wr.alloc (.cells #[] 5)).drew.ownsRow wr.heap.size 5 1 (.slice (some ⟨wr.heap.size, 0, none⟩) 0 0) 0 [] := (Grow.empty wr 5 1).drew.owns
      have hDA : Rd (wr.alloc (.cells #[] 5)).drew D' (bys xs) := by rw [hw1]; exact hDt.below hb1'
      have hL0 : (0 + z) * 1 ≤ 140737488355328 := by omega
      have hL1 : 0 + z ≤ 140737488355328 := by omega
      have HRb := hide (fun X (hX : Below wr.heap.size wr X) => hR.below hX)
      have bA : Below wr.heap.size wr (wr.alloc (.cells #[] 5)).drew := by rw [hw1]; exact hb1'
      clear hw1
      have hzc : (z : Int) ≤ (c' : Int) := by omega
      have hzc' : z ≤ c' := by omega
      have hqbI : (q : Int) < (b : Int) := by omega
      go_wp2_with fail
      go_region_law (refine step_own rfl rfl tBytes (by simp [Act.eval, Act.put]) ow (by simp [Act.eval, Act.put]; rfl) (by rw [bys_length, Hsl.out, Nat.mul_one]) hDA (bys_one _) hL0 hL1 (by simp) ?_; intro v' w' ho' hg' _; rw [Nat.zero_add, List.nil_append] at ho'; obtain ⟨A5, c5, rfl, hl5, hc5, hcm5, hr5, ha5⟩ := own_out ho'; have hb5 : Below wr.heap.size wr w' := bA.grown hg' (by simp) (fun g hg => by simp [Value.ownBlock] at hg; omega); have hR5 := HRb.out w' hb5; have e2 := hR5.blk.cell (j := 2) rfl; have e1 := hR5.blk.cell (j := 1) rfl; have zz := hR5.row.frozen q; obtain ⟨A6, c6, k6, _⟩ := hR5.cells q hqb; have y6 := hR5.row.cell k6)
      all_goals
        have hR6 := hR5.setRow hqb (A := A5) (c := c5) (xs := xs) Hsl.out ⟨hc5, by unfold maxLen at hcm5; omega⟩ hr5 (fun a ha => by have h1 := ha5 a ha; have h2 := hR.hlo; exact ⟨by omega, by omega, by omega, by omega⟩)
        have hU6 : Upd rv gb gv wr (w'.setCell ⟨gb, q, none⟩ (.slice A5 z c5)) := (Upd.of_below hb5).trans (Upd.setR w' q _)
        have hA5 : ∀ a, A5 = some a → w.heap.size ≤ a.block := fun a ha => by have h1 := ha5 a ha; have h2 := hU.size; omega
        obtain ⟨w6, hw6⟩ : ∃ x, w'.setCell ⟨gb, q, none⟩ (.slice A5 z c5) = x := ⟨_, rfl⟩
        rw [hw6] at hR6 hU6
        rw [hw6]
        clear hw6 y6 k6 zz e1 e2 x1 x2 a1 a2 ow hDA hR5 hb5 hr5 hl5 hc5 hcm5 ho' hg' ha5
        have y3 := hR6.blk.cell (j := 3) rfl
        have hql : q < (ints (stampL vs p num j) ++ sv).length := by rw [List.length_append, ints_length, hR6.lv]; omega
        have y7 := hR6.ver.cell (List.getElem?_eq_getElem hql)
        have z7 := hR6.ver.frozen q
        have hR7 := hR6.setVer hqb num
        have hU7 : Upd rv gb gv wr (w6.setCell ⟨gv, q, none⟩ (.int .i64 num)) := hU6.trans (Upd.setS w6 q _)
        have y1 := hR7.blk.cell (j := 1) rfl
        have hDr7 := Rd.upd hDr hU7 hDq
        have hRN7 := hRN.set (q := q) (c := c5) hA5
        have hzc2 : z ≤ M := hzle
        go_wp2
        go_roundw
        case rel =>
          refine ⟨j + 1, Px.cutA D' c' z 1, zM, c' - z, rows'.set q (.slice A5 z c5), by omega, by have := Hq.out; go_num, ?_, HzM.out.symm, by have := HMz.out; omega, by omega, ?_, cutA_block (P := fun B => B ≠ rv ∧ B ≠ gb ∧ B ≠ gv) hDq, ?_, hU.trans hU7, hRN7⟩
          · rw [show zM = M - z by have := HMz.out; omega]
          · have := hDr7.cutA (n := M) (k := z) (cap := c') (by rw [bys_length, List.length_drop, Hd.out, hdn]; exact HnM.out) hzle hMc
            rwa [← bys_drop, List.drop_drop, ← Nat.succ_mul] at this
          · rw [← Hj1.out]
            show RVolIs _ _ _ _ _ _ _ _ _ _ _ _ _ ((stampL vs p num j).set (p + j) num) _
            rw [Hq.out]
            exact hR7
        case measure => simp [intOf]; have := Hq.out; omega
    · obtain rfl : j = n := by omega
      have hM0 : M = 0 := by rw [hM]; simp
      subst hM0
      have hdt : ds.take (j * z) = ds := List.take_of_length_le (by rw [Hd.out, hdn]; exact Nat.le_refl _)
      have Hdt := hide hdt
      clear hM hdt
      go_wp2
      go_end0
      exact ⟨rfl, ⟨rows', by rw [← Hdt.out]; exact hR, hRN⟩, hU⟩
end Go.Proofs.YtkknkdjdneldlaaGreat
namespace Go.Proofs.YtkknkdjdneldlaaGreat
set_option maxRecDepth 20000
open Go.RowKit Go.Px
set_option linter.unusedVariables false
def RDoIs (lo rv gb gv cb cv b z N : Nat) (rows sv : List Value) (E : Int) (C : Nat) (data : List UInt8) (bs' : List UInt8) (vs' : List Int) (last : Int) (w : World) (e : Ending) (w' : World) : Prop :=
  ∃ A c, e = .returned (.tuple #[resv C A data.length c, .int .i64 E]) ∧ data.length ≤ c ∧ c ≤ 9223372036854775807 ∧ Rd w' A (bys data) ∧ (∀ a, A = some a → w.heap.size ≤ a.block) ∧ (∃ rows', RVolIs w' lo rv gb gv cb cv b z N rows' sv bs' vs' last ∧ RowsNew b z w.heap.size rows rows') ∧ Upd rv gb gv w w'
section
variable {w w' : World} {lo rv gb gv cb cv b z N : Nat} {rows sv : List Value} {bs : List UInt8} {vs : List Int} {last : Int}
theorem RVolIs.far (h : RVolIs w lo rv gb gv cb cv b z N rows sv bs vs last) {g : Nat} (h1 : g ≠ rv) (h2 : g ≠ gb) (h3 : g ≠ gv) (h4 : ∀ i A c, i < b → rows[i]? = some (.slice A z c) → ∀ a, A = some a → a.block ≠ g) (j : Nat) (u : Value) :
    RVolIs (w.setCell ⟨g, j, none⟩ u) lo rv gb gv cb cv b z N rows sv bs vs last := by
  have hU : Upd g g g w (w.setCell ⟨g, j, none⟩ u) := Upd.setV w j u
  exact { h with
    blk := h.blk.apart (Ne.symm h1) j u
    row := h.row.apart (Ne.symm h2) j u
    ver := h.ver.apart (Ne.symm h3) j u
    cells := fun i hi => by
      obtain ⟨A', c', k1, k2, k3, k4, k5⟩ := h.cells i hi
      exact ⟨A', c', k1, k2, k3, Rd.upd k4 hU (fun a ha => ⟨h4 i A' c' hi k1 a ha, h4 i A' c' hi k1 a ha, h4 i A' c' hi k1 a ha⟩), k5⟩ }
theorem RVolIs.rows_lt (h : RVolIs w lo rv gb gv cb cv b z N rows sv bs vs last) {g : Nat} (hg : w.heap.size ≤ g) : ∀ i A c, i < b → rows[i]? = some (.slice A z c) → ∀ a, A = some a → a.block ≠ g := by
  intro i A c hi hr a ha
  obtain ⟨A', c', k1, k2, k3, k4, k5⟩ := h.cells i hi
  rw [hr] at k1
  injection k1 with k1
  injection k1 with e1 e2 e3
  subst e1 ha
  have hl : 0 < (bys (segB bs i 1 z)).length := by
    rw [bys_length, segB_length h.lb h.hN (by omega)]
    have := h.hz.1
    omega
  obtain ⟨x, hx, hat⟩ := k4.some_of hl
  injection hx with hx
  subst hx
  have := World.block_lt_of_cell? w _ (hat 0 _ (List.getElem?_eq_getElem hl))
  rw [add_block] at this
  omega
end
set_option maxHeartbeats 3200000 in
theorem rdo_badnum (w : World) (lo rv gb gv cb cv b z N : Nat) (rows sv : List Value) (bs : List UInt8) (vs : List Int) (last : Int) (k : Nat) (p n : Int) (D : Option Addr) (d dc : Nat) (O : Option Addr) (o oc : Nat) (num : Int) (h : RVolIs w lo rv gb gv cb cv b z N rows sv bs vs last) (hbad : num < 1 ∨ (1 ≤ num ∧ 4611686018427387904 < num) ∨ (1 ≤ num ∧ num ≤ 4611686018427387904 ∧ num < last)) :
    Calls Tryz.prog 47 #[.pointer (some ⟨rv, 0, none⟩), opv k p n D d dc O o oc, .int .i64 num] w (RDoIs lo rv gb gv cb cv b z N rows sv 5 0 [] bs vs last w) := by
  obtain ⟨g, hg⟩ : ∃ g, w.heap.size = g := ⟨_, rfl⟩
  obtain ⟨w0, hw0⟩ : ∃ w0, (w.alloc (.cells #[.int .u8 k, .int .i64 p, .int .i64 n, .slice D d dc, .slice O o oc] 47)).alloc (.cells #[.int .u8 0, .slice none 0 0] 40) = w0 := ⟨_, rfl⟩
  have hO : Blk w0 g [.int .u8 k, .int .i64 p, .int .i64 n, .slice D d dc, .slice O o oc] 47 := by rw [← hw0, ← hg]; exact (Blk.new w [.int .u8 k, .int .i64 p, .int .i64 n, .slice D d dc, .slice O o oc] _).alloc _
  have hZ : Blk w0 (g + 1) [.int .u8 0, .slice none 0 0] 40 := by
    rw [← hw0, ← hg]
    have := Blk.new (w.alloc (.cells #[.int .u8 k, .int .i64 p, .int .i64 n, .slice D d dc, .slice O o oc] 47)) [.int .u8 0, .slice none 0 0] 40
    rwa [World.size_alloc] at this
  have hb0 : Below w.heap.size w w0 := by rw [← hw0]; exact ((Below.refl _ _).alloc (Nat.le_refl _) _).alloc (by simp) _
  have hV0 := h.below hb0
  have slt := h.ver.lt
  have vlt := h.blk.lt
  have rlt := h.row.lt
  have x0 := hV0.blk.cell (j := 0) rfl
  have x1 := hV0.blk.cell (j := 1) rfl
  have x4 := hV0.blk.cell (j := 4) rfl
  have k0 := hO.cell (j := 0) rfl
  have k1 := hO.cell (j := 1) rfl
  have k2 := hO.cell (j := 2) rfl
  have k3 := hO.cell (j := 3) rfl
  have k4 := hO.cell (j := 4) rfl
  have y0 := hZ.cell (j := 0) rfl
  have y1 := hZ.cell (j := 1) rfl
  have f0 := hZ.frozen 0
  have f1 := hZ.frozen 1
  have hrows : ∀ i A c, i < b → rows[i]? = some (.slice A z c) → ∀ a, A = some a → a.block ≠ g + 1 := h.rows_lt (by omega)
  rcases hbad with q1 | ⟨q1, q2⟩ | ⟨q1, q2, q3⟩
  all_goals
    go_enter Tryz.func47, Tryz.ntmps47
    go_wp2
    refine bodyPost_ret (results_cell2 rfl rfl ((hZ.set 0 (.int .u8 0)).set 1 (.slice none 0 0)) Tryz.underlying40 rfl (by kernel_rfl)) rfl ?_
    exact ⟨none, 0, rfl, Nat.le_refl _, by omega, Rd.nil, (fun a ha => by cases ha), ⟨rows, (hV0.far (by omega) (by omega) (by omega) hrows 0 _).far (by omega) (by omega) (by omega) hrows 1 _, RowsNew.refl _ _ _ _⟩, Upd.of_below ((hb0.setCell (leBk (by omega)) _).setCell (leBk (by omega)) _)⟩
set_option maxHeartbeats 3200000 in
theorem rdo_badfit (w : World) (lo rv gb gv cb cv b z N : Nat) (rows sv : List Value) (bs : List UInt8) (vs : List Int) (last : Int) (k : Nat) (p n : Int) (D : Option Addr) (d dc : Nat) (O : Option Addr) (o oc : Nat) (num : Int) (hk : k < 256) (h : RVolIs w lo rv gb gv cb cv b z N rows sv bs vs last) (hn1 : 1 ≤ num) (hn2 : num ≤ 4611686018427387904) (hn3 : last ≤ num) (E : Int) (hE : E ≠ 0) (hf : ftE b z k p n d o = E) (hc : ftC b z k p n d o = 0) :
    Calls Tryz.prog 47 #[.pointer (some ⟨rv, 0, none⟩), opv k p n D d dc O o oc, .int .i64 num] w (RDoIs lo rv gb gv cb cv b z N rows sv E 0 [] bs vs last w) := by
  have q1 : (E != 0) = true := by simpa using hE
  obtain ⟨g, hg⟩ : ∃ g, w.heap.size = g := ⟨_, rfl⟩
  obtain ⟨w0, hw0⟩ : ∃ w0, (w.alloc (.cells #[.int .u8 k, .int .i64 p, .int .i64 n, .slice D d dc, .slice O o oc] 47)).alloc (.cells #[.int .u8 0, .slice none 0 0] 40) = w0 := ⟨_, rfl⟩
  have hO : Blk w0 g [.int .u8 k, .int .i64 p, .int .i64 n, .slice D d dc, .slice O o oc] 47 := by rw [← hw0, ← hg]; exact (Blk.new w [.int .u8 k, .int .i64 p, .int .i64 n, .slice D d dc, .slice O o oc] _).alloc _
  have hZ : Blk w0 (g + 1) [.int .u8 0, .slice none 0 0] 40 := by
    rw [← hw0, ← hg]
    have := Blk.new (w.alloc (.cells #[.int .u8 k, .int .i64 p, .int .i64 n, .slice D d dc, .slice O o oc] 47)) [.int .u8 0, .slice none 0 0] 40
    rwa [World.size_alloc] at this
  have hb0 : Below w.heap.size w w0 := by rw [← hw0]; exact ((Below.refl _ _).alloc (Nat.le_refl _) _).alloc (by simp) _
  have hV0 := h.below hb0
  have slt := h.ver.lt
  have vlt := h.blk.lt
  have rlt := h.row.lt
  have x0 := hV0.blk.cell (j := 0) rfl
  have x1 := hV0.blk.cell (j := 1) rfl
  have x4 := hV0.blk.cell (j := 4) rfl
  have k0 := hO.cell (j := 0) rfl
  have k1 := hO.cell (j := 1) rfl
  have k2 := hO.cell (j := 2) rfl
  have k3 := hO.cell (j := 3) rfl
  have k4 := hO.cell (j := 4) rfl
  have y0 := hZ.cell (j := 0) rfl
  have y1 := hZ.cell (j := 1) rfl
  have f0 := hZ.frozen 0
  have f1 := hZ.frozen 1
  have hrows : ∀ i A c, i < b → rows[i]? = some (.slice A z c) → ∀ a, A = some a → a.block ≠ g + 1 := h.rows_lt (by omega)
  have Hf := hide hf
  have Hc := hide hc
  clear hf hc
  go_enter Tryz.func47, Tryz.ntmps47
  go_wp2_with fail
  go_region_with (first
    | (go_at_call 106; refine (rfit_any b z k p n D d dc O o oc _ hk).mono ?_; rintro x w1 ⟨hx, hb1⟩; rw [Hf.out, Hc.out] at hx; subst hx))
  all_goals
    have hb1' : Below w0.heap.size w0 w1 := (Below.refl _ _).drew.trans hb1
    have hV1 := hV0.below hb1'
    have hO1 := hO.below hb1'
    have hZ1 := hZ.below hb1'
    have hb01 := hb0.trans (hb1'.mono hb0.size)
    have sz1 : w0.heap.size ≤ w1.heap.size := hb1'.size
    have zl := hZ.lt
    clear x0 x1 x4 k0 k1 k2 k3 k4 y0 y1 f0 f1
    have y0 := hZ1.cell (j := 0) rfl
    have y1 := hZ1.cell (j := 1) rfl
    have f0 := hZ1.frozen 0
    have f1 := hZ1.frozen 1
    have x4 := hV1.blk.cell (j := 4) rfl
    have e4 := hV1.blk.frozen 4
    go_wp2
    refine bodyPost_ret (results_cell2 rfl rfl ((hZ1.set 0 (.int .u8 0)).set 1 (.slice none 0 0)) Tryz.underlying40 rfl (by kernel_rfl)) rfl ?_
    exact ⟨none, 0, rfl, Nat.le_refl _, by omega, Rd.nil, (fun a ha => by cases ha), ⟨rows, (hV1.far (by omega) (by omega) (by omega) hrows 0 _).far (by omega) (by omega) (by omega) hrows 1 _, RowsNew.refl _ _ _ _⟩, Upd.of_below ((hb01.setCell (leBk (by omega)) _).setCell (leBk (by omega)) _)⟩
set_option maxHeartbeats 3200000 in
theorem rdo_badcode (w : World) (lo rv gb gv cb cv b z N : Nat) (rows sv : List Value) (bs : List UInt8) (vs : List Int) (last : Int) (k : Nat) (p n : Int) (D : Option Addr) (d dc : Nat) (O : Option Addr) (o oc : Nat) (num : Int) (hk : k < 256) (h : RVolIs w lo rv gb gv cb cv b z N rows sv bs vs last) (hn1 : 1 ≤ num) (hn2 : num ≤ 4611686018427387904) (hn3 : last ≤ num) (C : Nat) (hC : C ≠ 1) (hf : ftE b z k p n d o = 0) (hc : ftC b z k p n d o = (C : Int)) :
    Calls Tryz.prog 47 #[.pointer (some ⟨rv, 0, none⟩), opv k p n D d dc O o oc, .int .i64 num] w (RDoIs lo rv gb gv cb cv b z N rows sv 0 C [] bs vs num w) := by
  have q1 : ((C : Int) != 1) = true := by simp; omega
  obtain ⟨g, hg⟩ : ∃ g, w.heap.size = g := ⟨_, rfl⟩
  obtain ⟨w0, hw0⟩ : ∃ w0, (w.alloc (.cells #[.int .u8 k, .int .i64 p, .int .i64 n, .slice D d dc, .slice O o oc] 47)).alloc (.cells #[.int .u8 0, .slice none 0 0] 40) = w0 := ⟨_, rfl⟩
  have hO : Blk w0 g [.int .u8 k, .int .i64 p, .int .i64 n, .slice D d dc, .slice O o oc] 47 := by rw [← hw0, ← hg]; exact (Blk.new w [.int .u8 k, .int .i64 p, .int .i64 n, .slice D d dc, .slice O o oc] _).alloc _
  have hZ : Blk w0 (g + 1) [.int .u8 0, .slice none 0 0] 40 := by
    rw [← hw0, ← hg]
    have := Blk.new (w.alloc (.cells #[.int .u8 k, .int .i64 p, .int .i64 n, .slice D d dc, .slice O o oc] 47)) [.int .u8 0, .slice none 0 0] 40
    rwa [World.size_alloc] at this
  have hb0 : Below w.heap.size w w0 := by rw [← hw0]; exact ((Below.refl _ _).alloc (Nat.le_refl _) _).alloc (by simp) _
  have hV0 := h.below hb0
  have slt := h.ver.lt
  have vlt := h.blk.lt
  have rlt := h.row.lt
  have x0 := hV0.blk.cell (j := 0) rfl
  have x1 := hV0.blk.cell (j := 1) rfl
  have x4 := hV0.blk.cell (j := 4) rfl
  have k0 := hO.cell (j := 0) rfl
  have k1 := hO.cell (j := 1) rfl
  have k2 := hO.cell (j := 2) rfl
  have k3 := hO.cell (j := 3) rfl
  have k4 := hO.cell (j := 4) rfl
  have y0 := hZ.cell (j := 0) rfl
  have y1 := hZ.cell (j := 1) rfl
  have f0 := hZ.frozen 0
  have f1 := hZ.frozen 1
  have hrows : ∀ i A c, i < b → rows[i]? = some (.slice A z c) → ∀ a, A = some a → a.block ≠ g + 1 := h.rows_lt (by omega)
  have Hf := hide hf
  have Hc := hide hc
  clear hf hc
  go_enter Tryz.func47, Tryz.ntmps47
  go_wp2_with fail
  go_region_with (first
    | (go_at_call 106; refine (rfit_any b z k p n D d dc O o oc _ hk).mono ?_; rintro x w1 ⟨hx, hb1⟩; rw [Hf.out, Hc.out] at hx; subst hx))
  all_goals
    have hb1' : Below w0.heap.size w0 w1 := (Below.refl _ _).drew.trans hb1
    have hV1 := hV0.below hb1'
    have hO1 := hO.below hb1'
    have hZ1 := hZ.below hb1'
    have hb01 := hb0.trans (hb1'.mono hb0.size)
    have sz1 : w0.heap.size ≤ w1.heap.size := hb1'.size
    have zl := hZ.lt
    clear x0 x1 x4 k0 k1 k2 k3 k4 y0 y1 f0 f1
    have y0 := hZ1.cell (j := 0) rfl
    have y1 := hZ1.cell (j := 1) rfl
    have f0 := hZ1.frozen 0
    have f1 := hZ1.frozen 1
    have x4 := hV1.blk.cell (j := 4) rfl
    have e4 := hV1.blk.frozen 4
    have hV2 := hV1.setLast num
    have hO2 := hO1.apart (k := rv) (by omega) 4 (.int .i64 num)
    have hZ2 := hZ1.apart (k := rv) (by omega) 4 (.int .i64 num)
    have hU2 := (Upd.of_below (v := rv) (r := gb) (s := gv) hb01).set_v 4 (.int .i64 num)
    have sz2 : (w1.setCell ⟨rv, 4, none⟩ (.int .i64 num)).heap.size = w1.heap.size := by simp
    have hb3 : Below (w1.setCell ⟨rv, 4, none⟩ (.int .i64 num)).heap.size (w1.setCell ⟨rv, 4, none⟩ (.int .i64 num)) ((w1.setCell ⟨rv, 4, none⟩ (.int .i64 num)).alloc (.cells #[.int .u8 C, .slice none 0 0] 40)) := (Below.refl _ _).alloc (Nat.le_refl _) _
    have hR3 := Blk.new (w1.setCell ⟨rv, 4, none⟩ (.int .i64 num)) [.int .u8 C, .slice none 0 0] 40
    rw [sz2] at hR3
    have hV3 := hV2.below hb3
    have hO3 := hO2.below hb3
    have hZ3 := hZ2.below hb3
    have hU3 : Upd rv gb gv w _ := hU2.trans (Upd.of_below hb3)
    clear hV2 hO2 hZ2 hU2 sz2 hb3
    have r0 := hR3.cell (j := 0) rfl
    have r1 := hR3.cell (j := 1) rfl
    have y0 := hZ3.cell (j := 0) rfl
    have y1 := hZ3.cell (j := 1) rfl
    have f0 := hZ3.frozen 0
    have f1 := hZ3.frozen 1
    go_wp2
    refine bodyPost_ret (results_cell2 rfl rfl ((hZ3.set 0 (.int .u8 C)).set 1 (.slice none 0 0)) Tryz.underlying40 rfl (by kernel_rfl)) rfl ?_
    exact ⟨none, 0, rfl, Nat.le_refl _, by omega, Rd.nil, (fun a ha => by cases ha), ⟨rows, (hV3.far (by omega) (by omega) (by omega) hrows 0 _).far (by omega) (by omega) (by omega) hrows 1 _, RowsNew.refl _ _ _ _⟩, (hU3.set_far (by omega) 0 _).set_far (by omega) 1 _⟩
end Go.Proofs.YtkknkdjdneldlaaGreat
namespace Go.Proofs.YtkknkdjdneldlaaGreat
set_option maxRecDepth 20000
open Go.RowKit Go.Px
set_option linter.unusedVariables false
theorem Upd.drewN {v r s : Nat} {w w' : World} (h : Upd v r s w w') (q : Nat) : Upd v r s w (w'.drewN q) := ⟨h.os, h.tape, h.output, h.size, h.blk⟩
theorem RVolIs.drewN {w : World} {lo rv gb gv cb cv b z N : Nat} {rows sv : List Value} {bs : List UInt8} {vs : List Int} {last : Int} (h : RVolIs w lo rv gb gv cb cv b z N rows sv bs vs last) (q : Nat) : RVolIs (w.drewN q) lo rv gb gv cb cv b z N rows sv bs vs last := by
  have hc : ∀ i, i < b → ∃ A c, rows[i]? = some (.slice A z c) ∧ z ≤ c ∧ c ≤ 9223372036854775807 ∧ Rd (w.drewN q) A (bys (segB bs i 1 z)) ∧ ∀ a, A = some a → lo ≤ a.block ∧ a.block ≠ rv ∧ a.block ≠ gb ∧ a.block ≠ gv := fun i hi => by
    obtain ⟨A, c, k1, k2, k3, k4, k5⟩ := h.cells i hi
    exact ⟨A, c, k1, k2, k3, k4.drewN q, k5⟩
  exact { h with blk := h.blk, row := h.row, ver := h.ver, cells := hc }
set_option maxHeartbeats 3200000 in
theorem rdo_flush (w : World) (lo rv gb gv cb cv b z N : Nat) (rows sv : List Value) (bs : List UInt8) (vs : List Int) (last : Int) (P M : Nat) (D : Option Addr) (d dc : Nat) (O : Option Addr) (o oc : Nat) (num : Int) (h : RVolIs w lo rv gb gv cb cv b z N rows sv bs vs last) (hn1 : 1 ≤ num) (hn2 : num ≤ 4611686018427387904) (hn3 : last ≤ num) (hf : ftE b z 4 P M d o = 0) (hc : ftC b z 4 P M d o = 1)  :
    Calls Tryz.prog 47 #[.pointer (some ⟨rv, 0, none⟩), opv 4 P M D d dc O o oc, .int .i64 num] w (RDoIs lo rv gb gv cb cv b z N rows sv 0 1 [] bs vs num w) := by
  obtain ⟨g, hg⟩ : ∃ g, w.heap.size = g := ⟨_, rfl⟩
  obtain ⟨w0, hw0⟩ : ∃ w0, (w.alloc (.cells #[.int .u8 4, .int .i64 (P : Nat), .int .i64 (M : Nat), .slice D d dc, .slice O o oc] 47)).alloc (.cells #[.int .u8 0, .slice none 0 0] 40) = w0 := ⟨_, rfl⟩
  have hO : Blk w0 g [.int .u8 4, .int .i64 (P : Nat), .int .i64 (M : Nat), .slice D d dc, .slice O o oc] 47 := by rw [← hw0, ← hg]; exact (Blk.new w [.int .u8 4, .int .i64 (P : Nat), .int .i64 (M : Nat), .slice D d dc, .slice O o oc] _).alloc _
  have hZ : Blk w0 (g + 1) [.int .u8 0, .slice none 0 0] 40 := by
    rw [← hw0, ← hg]
    have := Blk.new (w.alloc (.cells #[.int .u8 4, .int .i64 (P : Nat), .int .i64 (M : Nat), .slice D d dc, .slice O o oc] 47)) [.int .u8 0, .slice none 0 0] 40
    rwa [World.size_alloc] at this
  have hb0 : Below w.heap.size w w0 := by rw [← hw0]; exact ((Below.refl _ _).alloc (Nat.le_refl _) _).alloc (by simp) _
  have hV0 := h.below hb0
  have slt := h.ver.lt
  have vlt := h.blk.lt
  have rlt := h.row.lt
  have x0 := hV0.blk.cell (j := 0) rfl
  have x1 := hV0.blk.cell (j := 1) rfl
  have x4 := hV0.blk.cell (j := 4) rfl
  have k0 := hO.cell (j := 0) rfl
  have k1 := hO.cell (j := 1) rfl
  have k2 := hO.cell (j := 2) rfl
  have k3 := hO.cell (j := 3) rfl
  have k4 := hO.cell (j := 4) rfl
  have y0 := hZ.cell (j := 0) rfl
  have y1 := hZ.cell (j := 1) rfl
  have f0 := hZ.frozen 0
  have f1 := hZ.frozen 1
  have hrows : ∀ i A c, i < b → rows[i]? = some (.slice A z c) → ∀ a, A = some a → a.block ≠ g + 1 := h.rows_lt (by omega)
  have Hf := hide hf
  have Hc := hide hc
  clear hf hc
  go_enter Tryz.func47, Tryz.ntmps47
  go_wp2_with fail
  go_region_with (first
    | (go_at_call 106; refine (rfit_any b z 4 P M D d dc O o oc _ (by decide)).mono ?_; rintro x w1 ⟨hx, hb1⟩; rw [Hf.out, Hc.out] at hx; subst hx))
  all_goals
    have hb1' : Below w0.heap.size w0 w1 := (Below.refl _ _).drew.trans hb1
    have hV1 := hV0.below hb1'
    have hO1 := hO.below hb1'
    have hZ1 := hZ.below hb1'
    have hb01 := hb0.trans (hb1'.mono hb0.size)
    have sz1 : w0.heap.size ≤ w1.heap.size := hb1'.size
    have zl := hZ.lt
    clear x0 x1 x4 k0 k1 k2 k3 k4 y0 y1 f0 f1
    have y0 := hZ1.cell (j := 0) rfl
    have y1 := hZ1.cell (j := 1) rfl
    have f0 := hZ1.frozen 0
    have f1 := hZ1.frozen 1
    have x4 := hV1.blk.cell (j := 4) rfl
    have e4 := hV1.blk.frozen 4
    have hV2 := hV1.setLast num
    have hO2 := hO1.apart (k := rv) (by omega) 4 (.int .i64 num)
    have hZ2 := hZ1.apart (k := rv) (by omega) 4 (.int .i64 num)
    have hU2 := (Upd.of_below (v := rv) (r := gb) (s := gv) hb01).set_v 4 (.int .i64 num)
    have sz2 : (w1.setCell ⟨rv, 4, none⟩ (.int .i64 num)).heap.size = w1.heap.size := by simp
    have hb3 : Below (w1.setCell ⟨rv, 4, none⟩ (.int .i64 num)).heap.size (w1.setCell ⟨rv, 4, none⟩ (.int .i64 num)) ((w1.setCell ⟨rv, 4, none⟩ (.int .i64 num)).alloc (.cells #[.int .u8 1, .slice none 0 0] 40)) := (Below.refl _ _).alloc (Nat.le_refl _) _
    have hR3 := Blk.new (w1.setCell ⟨rv, 4, none⟩ (.int .i64 num)) [.int .u8 1, .slice none 0 0] 40
    rw [sz2] at hR3
    have hV3 := hV2.below hb3
    have hO3 := hO2.below hb3
    have hZ3 := hZ2.below hb3
    have hU3 : Upd rv gb gv w _ := hU2.trans (Upd.of_below hb3)
    clear hV2 hO2 hZ2 hU2 sz2 hb3
    have r0 := hR3.cell (j := 0) rfl
    have r1 := hR3.cell (j := 1) rfl
    have y0 := hZ3.cell (j := 0) rfl
    have y1 := hZ3.cell (j := 1) rfl
    have f0 := hZ3.frozen 0
    have f1 := hZ3.frozen 1
    have q0 := hO3.cell (j := 0) rfl
    have q1 := hO3.cell (j := 1) rfl
    have q2 := hO3.cell (j := 2) rfl
    have q3 := hO3.cell (j := 3) rfl
    have q4 := hO3.cell (j := 4) rfl
    have s1 := hR3.frozen 1
    have e1 := hV3.blk.cell (j := 1) rfl
    have glt := hR3.lt
    have hrows3 : ∀ i A c, i < b → rows[i]? = some (.slice A z c) → ∀ a, A = some a → a.block ≠ w1.heap.size := hV1.rows_lt (Nat.le_refl _)
    clear q1 q2 q3 q4 e1
    go_wp2
    refine bodyPost_ret (results_cell2 rfl rfl ((hZ3.set 0 (.int .u8 1)).set 1 (.slice none 0 0)) Tryz.underlying40 rfl (by kernel_rfl)) rfl ?_
    exact ⟨none, 0, rfl, Nat.le_refl _, by omega, Rd.nil, (fun a ha => by cases ha), ⟨rows, (hV3.far (by omega) (by omega) (by omega) hrows 0 _).far (by omega) (by omega) (by omega) hrows 1 _, RowsNew.refl _ _ _ _⟩, (hU3.set_far (by omega) 0 _).set_far (by omega) 1 _⟩
set_option maxHeartbeats 3200000 in
theorem rdo_read (w : World) (lo rv gb gv cb cv b z N : Nat) (rows sv : List Value) (bs : List UInt8) (vs : List Int) (last : Int) (P M : Nat) (D : Option Addr) (d dc : Nat) (O : Option Addr) (o oc : Nat) (num : Int) (h : RVolIs w lo rv gb gv cb cv b z N rows sv bs vs last) (hn1 : 1 ≤ num) (hn2 : num ≤ 4611686018427387904) (hn3 : last ≤ num) (hf : ftE b z 1 P M d o = 0) (hc : ftC b z 1 P M d o = 1) (hin : P + M ≤ b) :
    Calls Tryz.prog 47 #[.pointer (some ⟨rv, 0, none⟩), opv 1 P M D d dc O o oc, .int .i64 num] w (RDoIs lo rv gb gv cb cv b z N rows sv 0 1 (segB bs P M z) bs vs num w) := by
  obtain ⟨g, hg⟩ : ∃ g, w.heap.size = g := ⟨_, rfl⟩
  obtain ⟨w0, hw0⟩ : ∃ w0, (w.alloc (.cells #[.int .u8 1, .int .i64 (P : Nat), .int .i64 (M : Nat), .slice D d dc, .slice O o oc] 47)).alloc (.cells #[.int .u8 0, .slice none 0 0] 40) = w0 := ⟨_, rfl⟩
  have hO : Blk w0 g [.int .u8 1, .int .i64 (P : Nat), .int .i64 (M : Nat), .slice D d dc, .slice O o oc] 47 := by rw [← hw0, ← hg]; exact (Blk.new w [.int .u8 1, .int .i64 (P : Nat), .int .i64 (M : Nat), .slice D d dc, .slice O o oc] _).alloc _
  have hZ : Blk w0 (g + 1) [.int .u8 0, .slice none 0 0] 40 := by
    rw [← hw0, ← hg]
    have := Blk.new (w.alloc (.cells #[.int .u8 1, .int .i64 (P : Nat), .int .i64 (M : Nat), .slice D d dc, .slice O o oc] 47)) [.int .u8 0, .slice none 0 0] 40
    rwa [World.size_alloc] at this
  have hb0 : Below w.heap.size w w0 := by rw [← hw0]; exact ((Below.refl _ _).alloc (Nat.le_refl _) _).alloc (by simp) _
  have hV0 := h.below hb0
  have slt := h.ver.lt
  have vlt := h.blk.lt
  have rlt := h.row.lt
  have x0 := hV0.blk.cell (j := 0) rfl
  have x1 := hV0.blk.cell (j := 1) rfl
  have x4 := hV0.blk.cell (j := 4) rfl
  have k0 := hO.cell (j := 0) rfl
  have k1 := hO.cell (j := 1) rfl
  have k2 := hO.cell (j := 2) rfl
  have k3 := hO.cell (j := 3) rfl
  have k4 := hO.cell (j := 4) rfl
  have y0 := hZ.cell (j := 0) rfl
  have y1 := hZ.cell (j := 1) rfl
  have f0 := hZ.frozen 0
  have f1 := hZ.frozen 1
  have hrows : ∀ i A c, i < b → rows[i]? = some (.slice A z c) → ∀ a, A = some a → a.block ≠ g + 1 := h.rows_lt (by omega)
  have Hf := hide hf
  have Hc := hide hc
  clear hf hc
  go_enter Tryz.func47, Tryz.ntmps47
  go_wp2_with fail
  go_region_with (first
    | (go_at_call 106; refine (rfit_any b z 1 P M D d dc O o oc _ (by decide)).mono ?_; rintro x w1 ⟨hx, hb1⟩; rw [Hf.out, Hc.out] at hx; subst hx))
  all_goals
    have hb1' : Below w0.heap.size w0 w1 := (Below.refl _ _).drew.trans hb1
    have hV1 := hV0.below hb1'
    have hO1 := hO.below hb1'
    have hZ1 := hZ.below hb1'
    have hb01 := hb0.trans (hb1'.mono hb0.size)
    have sz1 : w0.heap.size ≤ w1.heap.size := hb1'.size
    have zl := hZ.lt
    clear x0 x1 x4 k0 k1 k2 k3 k4 y0 y1 f0 f1
    have y0 := hZ1.cell (j := 0) rfl
    have y1 := hZ1.cell (j := 1) rfl
    have f0 := hZ1.frozen 0
    have f1 := hZ1.frozen 1
    have x4 := hV1.blk.cell (j := 4) rfl
    have e4 := hV1.blk.frozen 4
    have hV2 := hV1.setLast num
    have hO2 := hO1.apart (k := rv) (by omega) 4 (.int .i64 num)
    have hZ2 := hZ1.apart (k := rv) (by omega) 4 (.int .i64 num)
    have hU2 := (Upd.of_below (v := rv) (r := gb) (s := gv) hb01).set_v 4 (.int .i64 num)
    have sz2 : (w1.setCell ⟨rv, 4, none⟩ (.int .i64 num)).heap.size = w1.heap.size := by simp
    have hb3 : Below (w1.setCell ⟨rv, 4, none⟩ (.int .i64 num)).heap.size (w1.setCell ⟨rv, 4, none⟩ (.int .i64 num)) ((w1.setCell ⟨rv, 4, none⟩ (.int .i64 num)).alloc (.cells #[.int .u8 1, .slice none 0 0] 40)) := (Below.refl _ _).alloc (Nat.le_refl _) _
    have hR3 := Blk.new (w1.setCell ⟨rv, 4, none⟩ (.int .i64 num)) [.int .u8 1, .slice none 0 0] 40
    rw [sz2] at hR3
    have hV3 := hV2.below hb3
    have hO3 := hO2.below hb3
    have hZ3 := hZ2.below hb3
    have hU3 : Upd rv gb gv w _ := hU2.trans (Upd.of_below hb3)
    clear hV2 hO2 hZ2 hU2 sz2 hb3
    have r0 := hR3.cell (j := 0) rfl
    have r1 := hR3.cell (j := 1) rfl
    have y0 := hZ3.cell (j := 0) rfl
    have y1 := hZ3.cell (j := 1) rfl
    have f0 := hZ3.frozen 0
    have f1 := hZ3.frozen 1
    have q0 := hO3.cell (j := 0) rfl
    have q1 := hO3.cell (j := 1) rfl
    have q2 := hO3.cell (j := 2) rfl
    have q3 := hO3.cell (j := 3) rfl
    have q4 := hO3.cell (j := 4) rfl
    have s1 := hR3.frozen 1
    have e1 := hV3.blk.cell (j := 1) rfl
    have glt := hR3.lt
    have hrows3 : ∀ i A c, i < b → rows[i]? = some (.slice A z c) → ∀ a, A = some a → a.block ≠ w1.heap.size := hV1.rows_lt (Nat.le_refl _)
    have hsl : (segB bs P M z).length = M * z := segB_length h.lb h.hN hin
    have Hsl := hide hsl
    obtain ⟨L, hL⟩ : ∃ L, M * z = L := ⟨_, rfl⟩
    have HL := hide hL
    clear hsl
    go_wp2_with fail
    go_fit (rread_any _ lo rv gb gv cb cv b z N rows sv bs vs num P M hV3 hin)
    rintro x w4 ⟨o4, rfl, ho4, hb4⟩
    obtain ⟨A4, c4, rfl, hl4, hc4, hcm4, hrd4, ha4⟩ := own_out ho4
    have g34 := hb4.size
    have hR4 := hR3.below hb4
    have hZ4 := hZ3.below hb4
    have hV4 := hV3.below hb4
    have hU4 : Upd rv gb gv w w4 := hU3.trans (Upd.of_below hb4)
    clear q0 q1 q2 q3 q4 s1 e1 y0 y1 f0 f1 r0 r1
    rw [HL.out] at hc4
    rw [HL.out]
    have s1 := hR4.frozen 1
    have q1' := hR4.cell (j := 1) rfl
    have hR5 := hR4.set 1 (.slice A4 L c4)
    have hZ5 := hZ4.apart (k := w1.heap.size) (by omega) 1 (.slice A4 L c4)
    have hV5 := hV4.far (g := w1.heap.size) (by omega) (by omega) (by omega) hrows3 1 (.slice A4 L c4)
    have hU5 := hU4.set_far (g := w1.heap.size) (by omega) 1 (.slice A4 L c4)
    have y0 := hZ5.cell (j := 0) rfl
    have y1 := hZ5.cell (j := 1) rfl
    have f0 := hZ5.frozen 0
    have f1 := hZ5.frozen 1
    have r0 := hR5.cell (j := 0) rfl
    have r1 := hR5.cell (j := 1) rfl
    go_wp2
    refine bodyPost_ret (results_cell2 rfl rfl ((hZ5.set 0 (.int .u8 1)).set 1 (.slice A4 L c4)) Tryz.underlying40 rfl (by kernel_rfl)) rfl ?_
    refine ⟨A4, c4, by rw [Hsl.out, HL.out]; rfl, by rw [Hsl.out, HL.out]; exact hc4, by unfold maxLen at hcm4; omega, ?_, (fun a ha => by have := ha4 a ha; omega), ⟨rows, (hV5.far (by omega) (by omega) (by omega) hrows 0 _).far (by omega) (by omega) (by omega) hrows 1 _, RowsNew.refl _ _ _ _⟩, (hU5.set_far (by omega) 0 _).set_far (by omega) 1 _⟩
    exact ((hrd4.upset (fun a ha => (ha4 a ha).1) (by omega)).upset (fun a ha => (ha4 a ha).1) (by omega)).upset (fun a ha => (ha4 a ha).1) (by omega)
set_option maxHeartbeats 3200000 in
theorem rdo_write (w : World) (lo rv gb gv cb cv b z N : Nat) (rows sv : List Value) (bs : List UInt8) (vs : List Int) (last : Int) (P M : Nat) (D : Option Addr) (d dc : Nat) (O : Option Addr) (o oc : Nat) (num : Int) (h : RVolIs w lo rv gb gv cb cv b z N rows sv bs vs last) (hn1 : 1 ≤ num) (hn2 : num ≤ 4611686018427387904) (hn3 : last ≤ num) (hf : ftE b z 2 P M d o = 0) (hc : ftC b z 2 P M d o = 1) (ds : List UInt8) (hin : P + M ≤ b) (hd : ds.length = d) (hdn : d = M * z) (hdc : d ≤ dc) (hdm : dc ≤ 9223372036854775807) (hD : Rd w D (bys ds)) (hDq : ∀ a, D = some a → a.block ≠ rv ∧ a.block ≠ gb ∧ a.block ≠ gv) :
    Calls Tryz.prog 47 #[.pointer (some ⟨rv, 0, none⟩), opv 2 P M D d dc O o oc, .int .i64 num] w (RDoIs lo rv gb gv cb cv b z N rows sv 0 1 [] (splB bs (P * z) ds) (stampL vs P num M) num w) := by
  obtain ⟨g, hg⟩ : ∃ g, w.heap.size = g := ⟨_, rfl⟩
  obtain ⟨w0, hw0⟩ : ∃ w0, (w.alloc (.cells #[.int .u8 2, .int .i64 (P : Nat), .int .i64 (M : Nat), .slice D d dc, .slice O o oc] 47)).alloc (.cells #[.int .u8 0, .slice none 0 0] 40) = w0 := ⟨_, rfl⟩
  have hO : Blk w0 g [.int .u8 2, .int .i64 (P : Nat), .int .i64 (M : Nat), .slice D d dc, .slice O o oc] 47 := by rw [← hw0, ← hg]; exact (Blk.new w [.int .u8 2, .int .i64 (P : Nat), .int .i64 (M : Nat), .slice D d dc, .slice O o oc] _).alloc _
  have hZ : Blk w0 (g + 1) [.int .u8 0, .slice none 0 0] 40 := by
    rw [← hw0, ← hg]
    have := Blk.new (w.alloc (.cells #[.int .u8 2, .int .i64 (P : Nat), .int .i64 (M : Nat), .slice D d dc, .slice O o oc] 47)) [.int .u8 0, .slice none 0 0] 40
    rwa [World.size_alloc] at this
  have hb0 : Below w.heap.size w w0 := by rw [← hw0]; exact ((Below.refl _ _).alloc (Nat.le_refl _) _).alloc (by simp) _
  have hV0 := h.below hb0
  have slt := h.ver.lt
  have vlt := h.blk.lt
  have rlt := h.row.lt
  have x0 := hV0.blk.cell (j := 0) rfl
  have x1 := hV0.blk.cell (j := 1) rfl
  have x4 := hV0.blk.cell (j := 4) rfl
  have k0 := hO.cell (j := 0) rfl
  have k1 := hO.cell (j := 1) rfl
  have k2 := hO.cell (j := 2) rfl
  have k3 := hO.cell (j := 3) rfl
  have k4 := hO.cell (j := 4) rfl
  have y0 := hZ.cell (j := 0) rfl
  have y1 := hZ.cell (j := 1) rfl
  have f0 := hZ.frozen 0
  have f1 := hZ.frozen 1
  have hrows : ∀ i A c, i < b → rows[i]? = some (.slice A z c) → ∀ a, A = some a → a.block ≠ g + 1 := h.rows_lt (by omega)
  have Hd := hide hd
  have Hdn := hide hdn
  clear hd hdn
  have Hf := hide hf
  have Hc := hide hc
  clear hf hc
  go_enter Tryz.func47, Tryz.ntmps47
  go_wp2_with fail
  go_region_with (first
    | (go_at_call 106; refine (rfit_any b z 2 P M D d dc O o oc _ (by decide)).mono ?_; rintro x w1 ⟨hx, hb1⟩; rw [Hf.out, Hc.out] at hx; subst hx))
  all_goals
    have hb1' : Below w0.heap.size w0 w1 := (Below.refl _ _).drew.trans hb1
    have hV1 := hV0.below hb1'
    have hO1 := hO.below hb1'
    have hZ1 := hZ.below hb1'
    have hb01 := hb0.trans (hb1'.mono hb0.size)
    have sz1 : w0.heap.size ≤ w1.heap.size := hb1'.size
    have zl := hZ.lt
    clear x0 x1 x4 k0 k1 k2 k3 k4 y0 y1 f0 f1
    have y0 := hZ1.cell (j := 0) rfl
    have y1 := hZ1.cell (j := 1) rfl
    have f0 := hZ1.frozen 0
    have f1 := hZ1.frozen 1
    have x4 := hV1.blk.cell (j := 4) rfl
    have e4 := hV1.blk.frozen 4
    have hV2 := hV1.setLast num
    have hO2 := hO1.apart (k := rv) (by omega) 4 (.int .i64 num)
    have hZ2 := hZ1.apart (k := rv) (by omega) 4 (.int .i64 num)
    have hU2 := (Upd.of_below (v := rv) (r := gb) (s := gv) hb01).set_v 4 (.int .i64 num)
    have sz2 : (w1.setCell ⟨rv, 4, none⟩ (.int .i64 num)).heap.size = w1.heap.size := by simp
    have hb3 : Below (w1.setCell ⟨rv, 4, none⟩ (.int .i64 num)).heap.size (w1.setCell ⟨rv, 4, none⟩ (.int .i64 num)) ((w1.setCell ⟨rv, 4, none⟩ (.int .i64 num)).alloc (.cells #[.int .u8 1, .slice none 0 0] 40)) := (Below.refl _ _).alloc (Nat.le_refl _) _
    have hR3 := Blk.new (w1.setCell ⟨rv, 4, none⟩ (.int .i64 num)) [.int .u8 1, .slice none 0 0] 40
    rw [sz2] at hR3
    have hV3 := hV2.below hb3
    have hO3 := hO2.below hb3
    have hZ3 := hZ2.below hb3
    have hU3 : Upd rv gb gv w _ := hU2.trans (Upd.of_below hb3)
    clear hV2 hO2 hZ2 hU2 sz2 hb3
    have r0 := hR3.cell (j := 0) rfl
    have r1 := hR3.cell (j := 1) rfl
    have y0 := hZ3.cell (j := 0) rfl
    have y1 := hZ3.cell (j := 1) rfl
    have f0 := hZ3.frozen 0
    have f1 := hZ3.frozen 1
    have q0 := hO3.cell (j := 0) rfl
    have q1 := hO3.cell (j := 1) rfl
    have q2 := hO3.cell (j := 2) rfl
    have q3 := hO3.cell (j := 3) rfl
    have q4 := hO3.cell (j := 4) rfl
    have s1 := hR3.frozen 1
    have e1 := hV3.blk.cell (j := 1) rfl
    have glt := hR3.lt
    have hrows3 : ∀ i A c, i < b → rows[i]? = some (.slice A z c) → ∀ a, A = some a → a.block ≠ w1.heap.size := hV1.rows_lt (Nat.le_refl _)
    have hD3 := Rd.upd hD hU3 hDq
    go_wp2_with fail
    go_fit (rwrite_any _ lo rv gb gv cb cv b z N rows sv bs vs num P M D d dc ds num hV3 hin Hd.out Hdn.out hdc hdm hD3 hDq)
    rintro x w4 ⟨rfl, ⟨rows', hV4, hRN⟩, hU4⟩
    have g34 := hU4.size
    have hR4 := (hU4.blk _ glt (by omega) (by omega) (by omega)).trans hR3
    have hZ4 := (hU4.blk (g + 1) (by omega) (by omega) (by omega) (by omega)).trans hZ3
    have hrows4 : ∀ i A c, i < b → rows'[i]? = some (.slice A z c) → ∀ a, A = some a → a.block ≠ g + 1 := fun i A c hi h a ha => by
      rcases hRN i A c hi h with h | h
      · exact hrows i A c hi h a ha
      · have := h a ha
        omega
    clear q0 q1 q2 q3 q4 s1 e1 y0 y1 f0 f1 r0 r1 x4 e4
    have y0 := Blk.cell hZ4 (j := 0) rfl
    have y1 := Blk.cell hZ4 (j := 1) rfl
    have f0 := Blk.frozen hZ4 0
    have f1 := Blk.frozen hZ4 1
    have r0 := Blk.cell hR4 (j := 0) rfl
    have r1 := Blk.cell hR4 (j := 1) rfl
    go_wp2
    refine bodyPost_ret (results_cell2 rfl rfl ((Blk.set hZ4 0 (.int .u8 1)).set 1 (.slice none 0 0)) Tryz.underlying40 rfl (by kernel_rfl)) rfl ?_
    exact ⟨none, 0, rfl, Nat.le_refl _, by omega, Rd.nil, (fun a ha => by cases ha), ⟨rows', (hV4.far (by omega) (by omega) (by omega) hrows4 0 _).far (by omega) (by omega) (by omega) hrows4 1 _, hRN.mono hU3.size⟩, ((hU3.trans hU4).set_far (by omega) 0 _).set_far (by omega) 1 _⟩
set_option maxHeartbeats 3200000 in
theorem rdo_swapyes (w : World) (lo rv gb gv cb cv b z N : Nat) (rows sv : List Value) (bs : List UInt8) (vs : List Int) (last : Int) (P M : Nat) (D : Option Addr) (d dc : Nat) (O : Option Addr) (o oc : Nat) (num : Int) (h : RVolIs w lo rv gb gv cb cv b z N rows sv bs vs last) (hn1 : 1 ≤ num) (hn2 : num ≤ 4611686018427387904) (hn3 : last ≤ num) (hf : ftE b z 5 P M d o = 0) (hc : ftC b z 5 P M d o = 1) (os ds : List UInt8) (hd : ds.length = d) (hdn : d = z) (hdc : d ≤ dc) (hdm : dc ≤ 9223372036854775807) (hD : Rd w D (bys ds)) (hDq : ∀ a, D = some a → a.block ≠ rv ∧ a.block ≠ gb ∧ a.block ≠ gv) (hPb : P + 1 ≤ b) (ho : os.length = o) (hOr : Rd w O (bys os)) (hOq : ∀ a, O = some a → a.block ≠ rv ∧ a.block ≠ gb ∧ a.block ≠ gv) (heq : segB bs P 1 z = os) :
    Calls Tryz.prog 47 #[.pointer (some ⟨rv, 0, none⟩), opv 5 P M D d dc O o oc, .int .i64 num] w (RDoIs lo rv gb gv cb cv b z N rows sv 0 1 [] (splB bs (P * z) ds) (stampL vs P num 1) num w) := by
  obtain ⟨g, hg⟩ : ∃ g, w.heap.size = g := ⟨_, rfl⟩
  obtain ⟨w0, hw0⟩ : ∃ w0, (w.alloc (.cells #[.int .u8 5, .int .i64 (P : Nat), .int .i64 (M : Nat), .slice D d dc, .slice O o oc] 47)).alloc (.cells #[.int .u8 0, .slice none 0 0] 40) = w0 := ⟨_, rfl⟩
  have hO : Blk w0 g [.int .u8 5, .int .i64 (P : Nat), .int .i64 (M : Nat), .slice D d dc, .slice O o oc] 47 := by rw [← hw0, ← hg]; exact (Blk.new w [.int .u8 5, .int .i64 (P : Nat), .int .i64 (M : Nat), .slice D d dc, .slice O o oc] _).alloc _
  have hZ : Blk w0 (g + 1) [.int .u8 0, .slice none 0 0] 40 := by
    rw [← hw0, ← hg]
    have := Blk.new (w.alloc (.cells #[.int .u8 5, .int .i64 (P : Nat), .int .i64 (M : Nat), .slice D d dc, .slice O o oc] 47)) [.int .u8 0, .slice none 0 0] 40
    rwa [World.size_alloc] at this
  have hb0 : Below w.heap.size w w0 := by rw [← hw0]; exact ((Below.refl _ _).alloc (Nat.le_refl _) _).alloc (by simp) _
  have hV0 := h.below hb0
  have slt := h.ver.lt
  have vlt := h.blk.lt
  have rlt := h.row.lt
  have x0 := hV0.blk.cell (j := 0) rfl
  have x1 := hV0.blk.cell (j := 1) rfl
  have x4 := hV0.blk.cell (j := 4) rfl
  have k0 := hO.cell (j := 0) rfl
  have k1 := hO.cell (j := 1) rfl
  have k2 := hO.cell (j := 2) rfl
  have k3 := hO.cell (j := 3) rfl
  have k4 := hO.cell (j := 4) rfl
  have y0 := hZ.cell (j := 0) rfl
  have y1 := hZ.cell (j := 1) rfl
  have f0 := hZ.frozen 0
  have f1 := hZ.frozen 1
  have hrows : ∀ i A c, i < b → rows[i]? = some (.slice A z c) → ∀ a, A = some a → a.block ≠ g + 1 := h.rows_lt (by omega)
  have Hd := hide hd
  have Hdn := hide hdn
  have Heq := hide heq
  have Ho := hide ho
  have Hsl := hide (show (segB bs P 1 z).length = z by rw [segB_length h.lb h.hN hPb, Nat.one_mul])
  clear ho
  clear hd hdn heq
  have Hf := hide hf
  have Hc := hide hc
  clear hf hc
  go_enter Tryz.func47, Tryz.ntmps47
  go_wp2_with fail
  go_region_with (first
    | (go_at_call 106; refine (rfit_any b z 5 P M D d dc O o oc _ (by decide)).mono ?_; rintro x w1 ⟨hx, hb1⟩; rw [Hf.out, Hc.out] at hx; subst hx))
  all_goals
    have hb1' : Below w0.heap.size w0 w1 := (Below.refl _ _).drew.trans hb1
    have hV1 := hV0.below hb1'
    have hO1 := hO.below hb1'
    have hZ1 := hZ.below hb1'
    have hb01 := hb0.trans (hb1'.mono hb0.size)
    have sz1 : w0.heap.size ≤ w1.heap.size := hb1'.size
    have zl := hZ.lt
    clear x0 x1 x4 k0 k1 k2 k3 k4 y0 y1 f0 f1
    have y0 := hZ1.cell (j := 0) rfl
    have y1 := hZ1.cell (j := 1) rfl
    have f0 := hZ1.frozen 0
    have f1 := hZ1.frozen 1
    have x4 := hV1.blk.cell (j := 4) rfl
    have e4 := hV1.blk.frozen 4
    have hV2 := hV1.setLast num
    have hO2 := hO1.apart (k := rv) (by omega) 4 (.int .i64 num)
    have hZ2 := hZ1.apart (k := rv) (by omega) 4 (.int .i64 num)
    have hU2 := (Upd.of_below (v := rv) (r := gb) (s := gv) hb01).set_v 4 (.int .i64 num)
    have sz2 : (w1.setCell ⟨rv, 4, none⟩ (.int .i64 num)).heap.size = w1.heap.size := by simp
    have hb3 : Below (w1.setCell ⟨rv, 4, none⟩ (.int .i64 num)).heap.size (w1.setCell ⟨rv, 4, none⟩ (.int .i64 num)) ((w1.setCell ⟨rv, 4, none⟩ (.int .i64 num)).alloc (.cells #[.int .u8 1, .slice none 0 0] 40)) := (Below.refl _ _).alloc (Nat.le_refl _) _
    have hR3 := Blk.new (w1.setCell ⟨rv, 4, none⟩ (.int .i64 num)) [.int .u8 1, .slice none 0 0] 40
    rw [sz2] at hR3
    have hV3 := hV2.below hb3
    have hO3 := hO2.below hb3
    have hZ3 := hZ2.below hb3
    have hU3 : Upd rv gb gv w _ := hU2.trans (Upd.of_below hb3)
    clear hV2 hO2 hZ2 hU2 sz2 hb3
    have r0 := hR3.cell (j := 0) rfl
    have r1 := hR3.cell (j := 1) rfl
    have y0 := hZ3.cell (j := 0) rfl
    have y1 := hZ3.cell (j := 1) rfl
    have f0 := hZ3.frozen 0
    have f1 := hZ3.frozen 1
    have q0 := hO3.cell (j := 0) rfl
    have q1 := hO3.cell (j := 1) rfl
    have q2 := hO3.cell (j := 2) rfl
    have q3 := hO3.cell (j := 3) rfl
    have q4 := hO3.cell (j := 4) rfl
    have s1 := hR3.frozen 1
    have e1 := hV3.blk.cell (j := 1) rfl
    have glt := hR3.lt
    have hrows3 : ∀ i A c, i < b → rows[i]? = some (.slice A z c) → ∀ a, A = some a → a.block ≠ w1.heap.size := hV1.rows_lt (Nat.le_refl _)
    have hOr3 := Rd.upd hOr hU3 hOq
    obtain ⟨A0, c0, j1, j2, j3, j4, j5⟩ := hV3.cells P (by omega)
    have gP := hV3.row.cell j1
    have e2 := hV3.blk.cell (j := 2) rfl
    have cv1 : ∀ t, (convert 38 9 (.slice A0 z c0)).run Tryz.prog (((w1.setCell ⟨rv, 4, none⟩ (.int .i64 num)).alloc (.cells #[.int .u8 1, .slice none 0 0] 40)).drewN t) = .ok (.string (strOf (segB bs P 1 z))) (((w1.setCell ⟨rv, 4, none⟩ (.int .i64 num)).alloc (.cells #[.int .u8 1, .slice none 0 0] 40)).drewN t) := fun t => convB c0 Hsl.out (j4.drewN t)
    have cv2 : ∀ t, (convert 38 9 (.slice O o oc)).run Tryz.prog (((w1.setCell ⟨rv, 4, none⟩ (.int .i64 num)).alloc (.cells #[.int .u8 1, .slice none 0 0] 40)).drewN t) = .ok (.string (strOf (segB bs P 1 z))) (((w1.setCell ⟨rv, 4, none⟩ (.int .i64 num)).alloc (.cells #[.int .u8 1, .slice none 0 0] 40)).drewN t) := fun t => by rw [Heq.out]; exact convB oc Ho.out (hOr3.drewN t)
    have hPb' : P < b := by omega
    have hD3 := Rd.upd hD hU3 hDq
    go_wp2
    go_quiet (fail)
    go_wp2_with fail
    go_fit (rwrite_any _ lo rv gb gv cb cv b z N rows sv bs vs num P 1 D d dc ds num (hV3.drewN nq) hPb Hd.out (by rw [Hdn.out, Nat.one_mul]) hdc hdm (hD3.drewN nq) hDq)
    rintro x w4 ⟨rfl, ⟨rows', hV4, hRN⟩, hU4⟩
    clear cv1 cv2 gP e2
    have hU3 := hU3.drewN nq
    have g34 := hU4.size
    have dsz : (((w1.setCell ⟨rv, 4, none⟩ (.int .i64 num)).alloc (.cells #[.int .u8 1, .slice none 0 0] 40)).drewN nq).heap.size = ((w1.setCell ⟨rv, 4, none⟩ (.int .i64 num)).alloc (.cells #[.int .u8 1, .slice none 0 0] 40)).heap.size := rfl
    rw [dsz] at g34 hRN
    have hR4 := (hU4.blk _ glt (by omega) (by omega) (by omega)).trans hR3
    have hZ4 := (hU4.blk (g + 1) (by omega) (by omega) (by omega) (by omega)).trans hZ3
    have hrows4 : ∀ i A c, i < b → rows'[i]? = some (.slice A z c) → ∀ a, A = some a → a.block ≠ g + 1 := fun i A c hi h a ha => by
      rcases hRN i A c hi h with h | h
      · exact hrows i A c hi h a ha
      · have := h a ha
        omega
    clear q0 q1 q2 q3 q4 s1 e1 y0 y1 f0 f1 r0 r1 x4 e4
    have y0 := Blk.cell hZ4 (j := 0) rfl
    have y1 := Blk.cell hZ4 (j := 1) rfl
    have f0 := Blk.frozen hZ4 0
    have f1 := Blk.frozen hZ4 1
    have r0 := Blk.cell hR4 (j := 0) rfl
    have r1 := Blk.cell hR4 (j := 1) rfl
    go_wp2
    refine bodyPost_ret (results_cell2 rfl rfl ((Blk.set hZ4 0 (.int .u8 1)).set 1 (.slice none 0 0)) Tryz.underlying40 rfl (by kernel_rfl)) rfl ?_
    exact ⟨none, 0, rfl, Nat.le_refl _, by omega, Rd.nil, (fun a ha => by cases ha), ⟨rows', (hV4.far (by omega) (by omega) (by omega) hrows4 0 _).far (by omega) (by omega) (by omega) hrows4 1 _, hRN.mono hU3.size⟩, ((hU3.trans hU4).set_far (by omega) 0 _).set_far (by omega) 1 _⟩
set_option maxHeartbeats 3200000 in
theorem rdo_swapno (w : World) (lo rv gb gv cb cv b z N : Nat) (rows sv : List Value) (bs : List UInt8) (vs : List Int) (last : Int) (P M : Nat) (D : Option Addr) (d dc : Nat) (O : Option Addr) (o oc : Nat) (num : Int) (h : RVolIs w lo rv gb gv cb cv b z N rows sv bs vs last) (hn1 : 1 ≤ num) (hn2 : num ≤ 4611686018427387904) (hn3 : last ≤ num) (hf : ftE b z 5 P M d o = 0) (hc : ftC b z 5 P M d o = 1) (os : List UInt8) (hPb : P + 1 ≤ b) (ho : os.length = o) (hOr : Rd w O (bys os)) (hOq : ∀ a, O = some a → a.block ≠ rv ∧ a.block ≠ gb ∧ a.block ≠ gv) (hne : segB bs P 1 z ≠ os) :
    Calls Tryz.prog 47 #[.pointer (some ⟨rv, 0, none⟩), opv 5 P M D d dc O o oc, .int .i64 num] w (RDoIs lo rv gb gv cb cv b z N rows sv 0 4 (segB bs P 1 z) bs vs num w) := by
  obtain ⟨g, hg⟩ : ∃ g, w.heap.size = g := ⟨_, rfl⟩
  obtain ⟨w0, hw0⟩ : ∃ w0, (w.alloc (.cells #[.int .u8 5, .int .i64 (P : Nat), .int .i64 (M : Nat), .slice D d dc, .slice O o oc] 47)).alloc (.cells #[.int .u8 0, .slice none 0 0] 40) = w0 := ⟨_, rfl⟩
  have hO : Blk w0 g [.int .u8 5, .int .i64 (P : Nat), .int .i64 (M : Nat), .slice D d dc, .slice O o oc] 47 := by rw [← hw0, ← hg]; exact (Blk.new w [.int .u8 5, .int .i64 (P : Nat), .int .i64 (M : Nat), .slice D d dc, .slice O o oc] _).alloc _
  have hZ : Blk w0 (g + 1) [.int .u8 0, .slice none 0 0] 40 := by
    rw [← hw0, ← hg]
    have := Blk.new (w.alloc (.cells #[.int .u8 5, .int .i64 (P : Nat), .int .i64 (M : Nat), .slice D d dc, .slice O o oc] 47)) [.int .u8 0, .slice none 0 0] 40
    rwa [World.size_alloc] at this
  have hb0 : Below w.heap.size w w0 := by rw [← hw0]; exact ((Below.refl _ _).alloc (Nat.le_refl _) _).alloc (by simp) _
  have hV0 := h.below hb0
  have slt := h.ver.lt
  have vlt := h.blk.lt
  have rlt := h.row.lt
  have x0 := hV0.blk.cell (j := 0) rfl
  have x1 := hV0.blk.cell (j := 1) rfl
  have x4 := hV0.blk.cell (j := 4) rfl
  have k0 := hO.cell (j := 0) rfl
  have k1 := hO.cell (j := 1) rfl
  have k2 := hO.cell (j := 2) rfl
  have k3 := hO.cell (j := 3) rfl
  have k4 := hO.cell (j := 4) rfl
  have y0 := hZ.cell (j := 0) rfl
  have y1 := hZ.cell (j := 1) rfl
  have f0 := hZ.frozen 0
  have f1 := hZ.frozen 1
  have hrows : ∀ i A c, i < b → rows[i]? = some (.slice A z c) → ∀ a, A = some a → a.block ≠ g + 1 := h.rows_lt (by omega)
  have Hne := hide hne
  have Ho := hide ho
  have Hsl := hide (show (segB bs P 1 z).length = z by rw [segB_length h.lb h.hN hPb, Nat.one_mul])
  clear ho
  clear hne
  have Hf := hide hf
  have Hc := hide hc
  clear hf hc
  go_enter Tryz.func47, Tryz.ntmps47
  go_wp2_with fail
  go_region_with (first
    | (go_at_call 106; refine (rfit_any b z 5 P M D d dc O o oc _ (by decide)).mono ?_; rintro x w1 ⟨hx, hb1⟩; rw [Hf.out, Hc.out] at hx; subst hx))
  all_goals
    have hb1' : Below w0.heap.size w0 w1 := (Below.refl _ _).drew.trans hb1
    have hV1 := hV0.below hb1'
    have hO1 := hO.below hb1'
    have hZ1 := hZ.below hb1'
    have hb01 := hb0.trans (hb1'.mono hb0.size)
    have sz1 : w0.heap.size ≤ w1.heap.size := hb1'.size
    have zl := hZ.lt
    clear x0 x1 x4 k0 k1 k2 k3 k4 y0 y1 f0 f1
    have y0 := hZ1.cell (j := 0) rfl
    have y1 := hZ1.cell (j := 1) rfl
    have f0 := hZ1.frozen 0
    have f1 := hZ1.frozen 1
    have x4 := hV1.blk.cell (j := 4) rfl
    have e4 := hV1.blk.frozen 4
    have hV2 := hV1.setLast num
    have hO2 := hO1.apart (k := rv) (by omega) 4 (.int .i64 num)
    have hZ2 := hZ1.apart (k := rv) (by omega) 4 (.int .i64 num)
    have hU2 := (Upd.of_below (v := rv) (r := gb) (s := gv) hb01).set_v 4 (.int .i64 num)
    have sz2 : (w1.setCell ⟨rv, 4, none⟩ (.int .i64 num)).heap.size = w1.heap.size := by simp
    have hb3 : Below (w1.setCell ⟨rv, 4, none⟩ (.int .i64 num)).heap.size (w1.setCell ⟨rv, 4, none⟩ (.int .i64 num)) ((w1.setCell ⟨rv, 4, none⟩ (.int .i64 num)).alloc (.cells #[.int .u8 1, .slice none 0 0] 40)) := (Below.refl _ _).alloc (Nat.le_refl _) _
    have hR3 := Blk.new (w1.setCell ⟨rv, 4, none⟩ (.int .i64 num)) [.int .u8 1, .slice none 0 0] 40
    rw [sz2] at hR3
    have hV3 := hV2.below hb3
    have hO3 := hO2.below hb3
    have hZ3 := hZ2.below hb3
    have hU3 : Upd rv gb gv w _ := hU2.trans (Upd.of_below hb3)
    clear hV2 hO2 hZ2 hU2 sz2 hb3
    have r0 := hR3.cell (j := 0) rfl
    have r1 := hR3.cell (j := 1) rfl
    have y0 := hZ3.cell (j := 0) rfl
    have y1 := hZ3.cell (j := 1) rfl
    have f0 := hZ3.frozen 0
    have f1 := hZ3.frozen 1
    have q0 := hO3.cell (j := 0) rfl
    have q1 := hO3.cell (j := 1) rfl
    have q2 := hO3.cell (j := 2) rfl
    have q3 := hO3.cell (j := 3) rfl
    have q4 := hO3.cell (j := 4) rfl
    have s1 := hR3.frozen 1
    have e1 := hV3.blk.cell (j := 1) rfl
    have glt := hR3.lt
    have hrows3 : ∀ i A c, i < b → rows[i]? = some (.slice A z c) → ∀ a, A = some a → a.block ≠ w1.heap.size := hV1.rows_lt (Nat.le_refl _)
    have hOr3 := Rd.upd hOr hU3 hOq
    obtain ⟨A0, c0, j1, j2, j3, j4, j5⟩ := hV3.cells P (by omega)
    have gP := hV3.row.cell j1
    have e2 := hV3.blk.cell (j := 2) rfl
    have cv1 : ∀ t, (convert 38 9 (.slice A0 z c0)).run Tryz.prog (((w1.setCell ⟨rv, 4, none⟩ (.int .i64 num)).alloc (.cells #[.int .u8 1, .slice none 0 0] 40)).drewN t) = .ok (.string (strOf (segB bs P 1 z))) (((w1.setCell ⟨rv, 4, none⟩ (.int .i64 num)).alloc (.cells #[.int .u8 1, .slice none 0 0] 40)).drewN t) := fun t => convB c0 Hsl.out (j4.drewN t)
    have cv2 : ∀ t, (convert 38 9 (.slice O o oc)).run Tryz.prog (((w1.setCell ⟨rv, 4, none⟩ (.int .i64 num)).alloc (.cells #[.int .u8 1, .slice none 0 0] 40)).drewN t) = .ok (.string (strOf os)) (((w1.setCell ⟨rv, 4, none⟩ (.int .i64 num)).alloc (.cells #[.int .u8 1, .slice none 0 0] 40)).drewN t) := fun t => convB oc Ho.out (hOr3.drewN t)
    have hPb' : P < b := by omega
    have hso : (segB bs P 1 z == os) = false := by simpa using Hne.out
    go_wp2
    go_quiet (fail)
    go_wp2_with fail
    go_fit (rread_any _ lo rv gb gv cb cv b z N rows sv bs vs num P 1 (hV3.drewN nq) hPb)
    rintro x w4 ⟨o4, rfl, ho4, hb4⟩
    obtain ⟨A4, c4, rfl, hl4, hc4, hcm4, hrd4, ha4⟩ := own_out ho4
    rw [Nat.one_mul] at hc4
    rw [Nat.one_mul]
    have dsz : (((w1.setCell ⟨rv, 4, none⟩ (.int .i64 num)).alloc (.cells #[.int .u8 1, .slice none 0 0] 40)).drewN nq).heap.size = ((w1.setCell ⟨rv, 4, none⟩ (.int .i64 num)).alloc (.cells #[.int .u8 1, .slice none 0 0] 40)).heap.size := rfl
    have g34 := hb4.size
    rw [dsz] at g34 ha4
    have hZ4 := (hb4.block (g + 1) (by rw [dsz]; omega)).trans hZ3
    have hV4 := (hV3.drewN nq).below hb4
    have hU4 : Upd rv gb gv w w4 := (hU3.drewN nq).trans (Upd.of_below hb4)
    clear cv1 cv2 gP e2 q0 q1 q2 q3 q4 s1 e1 y0 y1 f0 f1 r0 r1 x4 e4
    have y0 := Blk.cell hZ4 (j := 0) rfl
    have y1 := Blk.cell hZ4 (j := 1) rfl
    have f0 := Blk.frozen hZ4 0
    have f1 := Blk.frozen hZ4 1
    go_wp2
    refine bodyPost_ret (results_cell2 rfl rfl ((Blk.set hZ4 0 (.int .u8 4)).set 1 (.slice A4 z c4)) Tryz.underlying40 rfl (by kernel_rfl)) rfl ?_
    refine ⟨A4, c4, by rw [Hsl.out]; rfl, by rw [Hsl.out]; exact hc4, by unfold maxLen at hcm4; omega, ?_, (fun a ha => by have := ha4 a ha; omega), ⟨rows, (hV4.far (by omega) (by omega) (by omega) hrows 0 _).far (by omega) (by omega) (by omega) hrows 1 _, RowsNew.refl _ _ _ _⟩, (hU4.set_far (by omega) 0 _).set_far (by omega) 1 _⟩
    exact (hrd4.upset (fun a ha => (ha4 a ha).1) (by omega)).upset (fun a ha => (ha4 a ha).1) (by omega)
end Go.Proofs.YtkknkdjdneldlaaGreat
namespace Go.Proofs.YtkknkdjdneldlaaGreat
set_option maxRecDepth 20000
open Go.RowKit Go.Px
set_option linter.unusedVariables false
set_option maxHeartbeats 3200000 in
theorem rdo_trim (w : World) (lo rv gb gv cb cv b z N : Nat) (rows sv : List Value) (bs : List UInt8) (vs : List Int) (last : Int) (P M : Nat) (D : Option Addr) (d dc : Nat) (O : Option Addr) (o oc : Nat) (num : Int) (h : RVolIs w lo rv gb gv cb cv b z N rows sv bs vs last) (hn1 : 1 ≤ num) (hn2 : num ≤ 4611686018427387904) (hn3 : last ≤ num) (hf : ftE b z 3 P M d o = 0) (hc : ftC b z 3 P M d o = 1) (hin : P + M ≤ b) :
    Calls Tryz.prog 47 #[.pointer (some ⟨rv, 0, none⟩), opv 3 P M D d dc O o oc, .int .i64 num] w (RDoIs lo rv gb gv cb cv b z N rows sv 0 1 [] (splB bs (P * z) (List.replicate (M * z) 0)) (stampL vs P num M) num w) := by
  obtain ⟨g, hg⟩ : ∃ g, w.heap.size = g := ⟨_, rfl⟩
  obtain ⟨w0, hw0⟩ : ∃ w0, (w.alloc (.cells #[.int .u8 3, .int .i64 (P : Nat), .int .i64 (M : Nat), .slice D d dc, .slice O o oc] 47)).alloc (.cells #[.int .u8 0, .slice none 0 0] 40) = w0 := ⟨_, rfl⟩
  have hO : Blk w0 g [.int .u8 3, .int .i64 (P : Nat), .int .i64 (M : Nat), .slice D d dc, .slice O o oc] 47 := by rw [← hw0, ← hg]; exact (Blk.new w [.int .u8 3, .int .i64 (P : Nat), .int .i64 (M : Nat), .slice D d dc, .slice O o oc] _).alloc _
  have hZ : Blk w0 (g + 1) [.int .u8 0, .slice none 0 0] 40 := by
    rw [← hw0, ← hg]
    have := Blk.new (w.alloc (.cells #[.int .u8 3, .int .i64 (P : Nat), .int .i64 (M : Nat), .slice D d dc, .slice O o oc] 47)) [.int .u8 0, .slice none 0 0] 40
    rwa [World.size_alloc] at this
  have hb0 : Below w.heap.size w w0 := by rw [← hw0]; exact ((Below.refl _ _).alloc (Nat.le_refl _) _).alloc (by simp) _
  have hV0 := h.below hb0
  have slt := h.ver.lt
  have vlt := h.blk.lt
  have rlt := h.row.lt
  have x0 := hV0.blk.cell (j := 0) rfl
  have x1 := hV0.blk.cell (j := 1) rfl
  have x4 := hV0.blk.cell (j := 4) rfl
  have k0 := hO.cell (j := 0) rfl
  have k1 := hO.cell (j := 1) rfl
  have k2 := hO.cell (j := 2) rfl
  have k3 := hO.cell (j := 3) rfl
  have k4 := hO.cell (j := 4) rfl
  have y0 := hZ.cell (j := 0) rfl
  have y1 := hZ.cell (j := 1) rfl
  have f0 := hZ.frozen 0
  have f1 := hZ.frozen 1
  have hrows : ∀ i A c, i < b → rows[i]? = some (.slice A z c) → ∀ a, A = some a → a.block ≠ g + 1 := h.rows_lt (by omega)
  obtain ⟨L, hL⟩ : ∃ L, M * z = L := ⟨_, rfl⟩
  have hLI : (M : Int) * (z : Int) = (L : Int) := by rw [← hL]; simp
  have hLb : L ≤ 4096 * 4096 := by rw [← hL]; exact Nat.mul_le_mul (by have := h.hb.2; omega) h.hz.2
  have HL := hide hL
  clear hL
  have Hf := hide hf
  have Hc := hide hc
  clear hf hc
  go_enter Tryz.func47, Tryz.ntmps47
  go_wp2_with fail
  go_region_with (first
    | (go_at_call 106; refine (rfit_any b z 3 P M D d dc O o oc _ (by decide)).mono ?_; rintro x w1 ⟨hx, hb1⟩; rw [Hf.out, Hc.out] at hx; subst hx))
  all_goals
    have hb1' : Below w0.heap.size w0 w1 := (Below.refl _ _).drew.trans hb1
    have hV1 := hV0.below hb1'
    have hO1 := hO.below hb1'
    have hZ1 := hZ.below hb1'
    have hb01 := hb0.trans (hb1'.mono hb0.size)
    have sz1 : w0.heap.size ≤ w1.heap.size := hb1'.size
    have zl := hZ.lt
    clear x0 x1 x4 k0 k1 k2 k3 k4 y0 y1 f0 f1
    have y0 := hZ1.cell (j := 0) rfl
    have y1 := hZ1.cell (j := 1) rfl
    have f0 := hZ1.frozen 0
    have f1 := hZ1.frozen 1
    have x4 := hV1.blk.cell (j := 4) rfl
    have e4 := hV1.blk.frozen 4
    have hV2 := hV1.setLast num
    have hO2 := hO1.apart (k := rv) (by omega) 4 (.int .i64 num)
    have hZ2 := hZ1.apart (k := rv) (by omega) 4 (.int .i64 num)
    have hU2 := (Upd.of_below (v := rv) (r := gb) (s := gv) hb01).set_v 4 (.int .i64 num)
    have sz2 : (w1.setCell ⟨rv, 4, none⟩ (.int .i64 num)).heap.size = w1.heap.size := by simp
    have hb3 : Below (w1.setCell ⟨rv, 4, none⟩ (.int .i64 num)).heap.size (w1.setCell ⟨rv, 4, none⟩ (.int .i64 num)) ((w1.setCell ⟨rv, 4, none⟩ (.int .i64 num)).alloc (.cells #[.int .u8 1, .slice none 0 0] 40)) := (Below.refl _ _).alloc (Nat.le_refl _) _
    have hR3 := Blk.new (w1.setCell ⟨rv, 4, none⟩ (.int .i64 num)) [.int .u8 1, .slice none 0 0] 40
    rw [sz2] at hR3
    have hV3 := hV2.below hb3
    have hO3 := hO2.below hb3
    have hZ3 := hZ2.below hb3
    have hU3 : Upd rv gb gv w _ := hU2.trans (Upd.of_below hb3)
    clear hV2 hO2 hZ2 hU2 sz2 hb3
    have r0 := hR3.cell (j := 0) rfl
    have r1 := hR3.cell (j := 1) rfl
    have y0 := hZ3.cell (j := 0) rfl
    have y1 := hZ3.cell (j := 1) rfl
    have f0 := hZ3.frozen 0
    have f1 := hZ3.frozen 1
    have q0 := hO3.cell (j := 0) rfl
    have q1 := hO3.cell (j := 1) rfl
    have q2 := hO3.cell (j := 2) rfl
    have q3 := hO3.cell (j := 3) rfl
    have q4 := hO3.cell (j := 4) rfl
    have s1 := hR3.frozen 1
    have e1 := hV3.blk.cell (j := 1) rfl
    have glt := hR3.lt
    have hrows3 : ∀ i A c, i < b → rows[i]? = some (.slice A z c) → ∀ a, A = some a → a.block ≠ w1.heap.size := hV1.rows_lt (Nat.le_refl _)
    have hm1 := fun W => run_mkB (P := Tryz.prog) (t := 38) (e := 5) (z := .int .u8 0) (bytes := 1) Tryz.underlying38 (by kernel_rfl) rfl (N := L) (by omega) (by omega) W
    have hbX : Below ((w1.setCell ⟨rv, 4, none⟩ (.int .i64 num)).alloc (.cells #[.int .u8 1, .slice none 0 0] 40)).heap.size ((w1.setCell ⟨rv, 4, none⟩ (.int .i64 num)).alloc (.cells #[.int .u8 1, .slice none 0 0] 40)) ((((w1.setCell ⟨rv, 4, none⟩ (.int .i64 num)).alloc (.cells #[.int .u8 1, .slice none 0 0] 40)).alloc (.cells (List.replicate L (.int .u8 0)).toArray 5)).drew) := ((Below.refl _ _).alloc (Nat.le_refl _) _).drew
    have wsz : ((w1.setCell ⟨rv, 4, none⟩ (.int .i64 num)).alloc (.cells #[.int .u8 1, .slice none 0 0] 40)).heap.size = w1.heap.size + 1 := by simp
    have hVX := hV3.below hbX
    have hRz : Rd ((((w1.setCell ⟨rv, 4, none⟩ (.int .i64 num)).alloc (.cells #[.int .u8 1, .slice none 0 0] 40)).alloc (.cells (List.replicate L (.int .u8 0)).toArray 5)).drew) (some ⟨w1.heap.size + 1, 0, none⟩) (bys (List.replicate L 0)) := by
      have e := Rd.newN ((w1.setCell ⟨rv, 4, none⟩ (.int .i64 num)).alloc (.cells #[.int .u8 1, .slice none 0 0] 40)) (List.replicate L (.int .u8 0)) 5 (0, 0)
      rw [wsz] at e
      have e2 : bys (List.replicate L 0) = List.replicate L (.int .u8 0) := by simp [bys]
      rw [e2]
      exact e
    have hUX : Upd rv gb gv w ((((w1.setCell ⟨rv, 4, none⟩ (.int .i64 num)).alloc (.cells #[.int .u8 1, .slice none 0 0] 40)).alloc (.cells (List.replicate L (.int .u8 0)).toArray 5)).drew) := hU3.trans (Upd.of_below hbX)
    have hRX : Blk ((((w1.setCell ⟨rv, 4, none⟩ (.int .i64 num)).alloc (.cells #[.int .u8 1, .slice none 0 0] 40)).alloc (.cells (List.replicate L (.int .u8 0)).toArray 5)).drew) w1.heap.size [.int .u8 1, .slice none 0 0] 40 := hR3.below hbX
    have hZX : Blk ((((w1.setCell ⟨rv, 4, none⟩ (.int .i64 num)).alloc (.cells #[.int .u8 1, .slice none 0 0] 40)).alloc (.cells (List.replicate L (.int .u8 0)).toArray 5)).drew) (g + 1) [.int .u8 0, .slice none 0 0] 40 := hZ3.below hbX
    have gltX := hRX.lt
    have XSZ := hbX.size
    have u1 : IntKind.i64.wrap (L : Int) = (L : Int) := IntWalk.i64_in _ (by omega)
    have qa1 : (((w1.setCell ⟨rv, 4, none⟩ (.int .i64 num)).alloc (.cells #[.int .u8 1, .slice none 0 0] 40)).alloc (.cells (Array.replicate L (.int .u8 0)) 5)).cell? ⟨g, 1, none⟩ = some (.int .i64 (P : Nat)) := (hO3.alloc _).cell (j := 1) rfl
    go_wp2_with fail
    go_region_with (first | (go_at_call 108; refine (rwrite_any _ lo rv gb gv cb cv b z N rows sv bs vs num P M (some ⟨w1.heap.size + 1, 0, none⟩) L L (List.replicate L 0) num hVX hin (by simp) HL.out.symm (Nat.le_refl _) (by omega) hRz (fun a ha => by injection ha with ha; subst ha; exact ⟨by show w1.heap.size + 1 ≠ rv; omega, by show w1.heap.size + 1 ≠ gb; omega, by show w1.heap.size + 1 ≠ gv; omega⟩)).mono ?_; rintro x w4 ⟨rfl, ⟨rows', hV4, hRN⟩, hU4⟩; have hR4 := (hU4.blk _ gltX (by omega) (by omega) (by omega)).trans hRX; have hZ4 := (hU4.blk (g + 1) (by omega) (by omega) (by omega) (by omega)).trans hZX; have yy0 := Blk.cell hZ4 (j := 0) rfl; have yy1 := Blk.cell hZ4 (j := 1) rfl; have ff0 := Blk.frozen hZ4 0; have ff1 := Blk.frozen hZ4 1; have rr0 := Blk.cell hR4 (j := 0) rfl; have rr1 := Blk.cell hR4 (j := 1) rfl))
    all_goals
      rw [HL.out]
      clear hR4 hZ4 yy0 yy1 ff0 ff1 rr0 rr1
      have hR3 := hRX
      have hZ3 := hZX
      have hU3 := hUX
      have glt := gltX
      have g34 := hU4.size
      have hR4 := (hU4.blk _ glt (by omega) (by omega) (by omega)).trans hR3
      have hZ4 := (hU4.blk (g + 1) (by omega) (by omega) (by omega) (by omega)).trans hZ3
      have hrows4 : ∀ i A c, i < b → rows'[i]? = some (.slice A z c) → ∀ a, A = some a → a.block ≠ g + 1 := fun i A c hi h a ha => by
        rcases hRN i A c hi h with h | h
        · exact hrows i A c hi h a ha
        · have := h a ha
          omega
      clear q0 q1 q2 q3 q4 s1 e1 y0 y1 f0 f1 r0 r1 x4 e4
      have y0 := Blk.cell hZ4 (j := 0) rfl
      have y1 := Blk.cell hZ4 (j := 1) rfl
      have f0 := Blk.frozen hZ4 0
      have f1 := Blk.frozen hZ4 1
      have r0 := Blk.cell hR4 (j := 0) rfl
      have r1 := Blk.cell hR4 (j := 1) rfl
      try go_wp2
      refine bodyPost_ret (results_cell2 rfl rfl ((Blk.set hZ4 0 (.int .u8 1)).set 1 (.slice none 0 0)) Tryz.underlying40 rfl (by kernel_rfl)) rfl ?_
      rw [← HL.out] at hV4
      exact ⟨none, 0, rfl, Nat.le_refl _, by omega, Rd.nil, (fun a ha => by cases ha), ⟨rows', (hV4.far (by omega) (by omega) (by omega) hrows4 0 _).far (by omega) (by omega) (by omega) hrows4 1 _, hRN.mono hU3.size⟩, ((hU3.trans hU4).set_far (by omega) 0 _).set_far (by omega) 1 _⟩
end Go.Proofs.YtkknkdjdneldlaaGreat
namespace Go.Proofs.YtkknkdjdneldlaaGreat
set_option maxRecDepth 20000
open Go.RowKit Go.Px
set_option linter.unusedVariables false
set_option maxHeartbeats 6400000 in
theorem rlaid_any (b z : Int) (A : Option Addr) (n c : Nat) (cs : List Value) (ps : List (Int × Int × List UInt8)) (Q : Nat → Prop) (w : World) (hn : ps.length = n) (hnc : n ≤ c) (hc : c ≤ 9223372036854775807) (hr : Rd w A cs) (hP : PgRows w Q cs ps) :
    Calls Tryz.prog 123 #[shp b z, .slice A n c] w fun e w' => e = .returned (.bool (mpA b z (-1) ps)) ∧ Below w.heap.size w w' := by
  obtain ⟨w0, hw0⟩ : ∃ w0, w.alloc (.cells #[.int .i64 b, .int .i64 z] 23) = w0 := ⟨_, rfl⟩
  obtain ⟨g, hg⟩ : ∃ g, w.heap.size = g := ⟨_, rfl⟩
  have hS : Blk w0 g [.int .i64 b, .int .i64 z] 23 := by rw [← hw0, ← hg]; exact Blk.new w [.int .i64 b, .int .i64 z] _
  have hb0 : Below w.heap.size w w0 := by rw [← hw0]; exact (Below.refl _ _).alloc (Nat.le_refl _) _
  have hr0 := hr.below hb0
  have hP0 := hP.below hb0
  have hl := hP.1
  have Hw0 := hide hw0
  go_enter Tryz.func123, Tryz.ntmps123
  go_wp2
  clear hw0
  go_loopw [5] (fun i wr => ∃ (k : Nat) (ah : Int), k ≤ n ∧ i = .int .i64 k ∧ mpA b z (-1) ps = mpA b z ah (ps.drop k) ∧ ((k = 0 ∧ ah = -1) ∨ (1 ≤ k ∧ 0 ≤ ah ∧ ∃ p, ps[k - 1]? = some p ∧ p.1 = ah)) ∧ Below w0.heap.size w0 wr) (fun i _ => n - (intOf i).toNat)
  case atStart => exact ⟨0, -1, by omega, rfl, rfl, .inl ⟨rfl, rfl⟩, Below.refl _ _⟩
  case round =>
    obtain ⟨k, ah, hk, rfl, hm, hah, hB⟩ := hrel
    have hbx : Below w.heap.size w wr := hb0.trans (hB.mono hb0.size)
    by_cases hlt : k < n
    · obtain ⟨p, hp⟩ : ∃ p, ps[k]? = some p := ⟨_, List.getElem?_eq_getElem (by omega)⟩
      obtain ⟨A', m, c', h1, h2, h3, h4, h5, h6, h7, h8⟩ := (hP0.below hB).2 k p hp
      obtain ⟨a, rfl, hat⟩ := (hr0.below hB).some_of (xs := cs) (by omega)
      have y0 := rd3_0 hat h1
      have y1 := rd3_S (i := 0) hat h2
      have y2 := rd3_S (i := 1) hat h3
      have hd : ps.drop k = p :: ps.drop (k + 1) := by
        rw [List.drop_eq_getElem_cons (by omega)]
        rw [List.getElem?_eq_getElem (by omega)] at hp
        injection hp with hp
        rw [hp]
      obtain ⟨p1, p2, pd⟩ := p
      simp only at h1 h2 h4 h7 y0 y1
      rw [hd] at hm
      obtain ⟨g1, hg1⟩ : ∃ g, wr.heap.size = g := ⟨_, rfl⟩
      obtain ⟨w1, hw1⟩ : ∃ x, wr.alloc (.cells #[.int .i64 p1, .int .i64 p2, .slice A' m c'] 83) = x := ⟨_, rfl⟩
      have hB1 : Blk w1 g1 [.int .i64 p1, .int .i64 p2, .slice A' m c'] 83 := by rw [← hw1, ← hg1]; exact Blk.new wr [.int .i64 p1, .int .i64 p2, .slice A' m c'] _
      have hb01 : Below wr.heap.size wr w1 := by rw [← hw1]; exact (Below.refl _ _).alloc (Nat.le_refl _) _
      have hS1 := (hS.below hB).below hb01
      have hBx : Below w0.heap.size w0 w1 := hB.trans (hb01.mono hB.size)
      have hbx1 : Below w.heap.size w w1 := hb0.trans (hBx.mono hb0.size)
      have Hw1 := hide hw1
      clear hw1
      have k0 := hB1.cell (j := 0) rfl
      have k1 := hB1.cell (j := 1) rfl
      have k2 := hB1.cell (j := 2) rfl
      have x0 := hS1.cell (j := 0) rfl
      have x1 := hS1.cell (j := 1) rfl
      have hat1 : ∀ j u, cs[j]? = some u → w1.cell? (a.add j) = some u := fun j u hu => cell_below hb01 (hat j u hu)
      by_cases c1 : p1 < 0
      · have hf := hide (hm.trans (mpA_no (fun hh => hh.1 (by show p1 ≤ ah; rcases hah with ⟨_, h⟩ | ⟨_, h, _⟩ <;> omega))))
        clear hm hd
        go_wp2_with fail
        rw [Hw1.out]
        go_quiet (fail)
        go_wp2
        go_ret
        exact ⟨by rw [hf.out]; rfl, below_drewN hbx1 _⟩
      · by_cases c2 : b ≤ p1
        · have hf := hide (hm.trans (mpA_no (fun hh => hh.2.1 c2)))
          clear hm hd
          have c1' : decide (p1 < 0) = false := decide_eq_false c1
          clear c1
          go_wp2_with fail
          rw [Hw1.out]
          go_quiet (fail)
          go_wp2
          go_ret
          exact ⟨by rw [hf.out]; rfl, below_drewN hbx1 _⟩
        · rcases hah with ⟨hk0, rfl⟩ | ⟨hk1, hah0, pp, hpp, rfl⟩
          · have hkd : decide (0 < k) = false := decide_eq_false (by omega)
            have Hk0 := hide hk0
            clear hk0
            by_cases c4 : p2 < 1
            · have hf := hide (hm.trans (mpA_no (fun hh => by have := serB_out hh.2.2.1; simp only at this; omega)))
              have d1 : decide (p1 < 0) = false := decide_eq_false (by omega)
              have d2 : decide (b ≤ p1) = false := decide_eq_false (by omega)
              clear c1 c2
              clear hm hd
              go_wp2_with fail
              rw [Hw1.out]
              go_quiet (fail)
              go_wp2
              go_ret
              exact ⟨by rw [hf.out]; rfl, below_drewN hbx1 _⟩
            · by_cases c5 : 4611686018427387904 < p2
              · have hf := hide (hm.trans (mpA_no (fun hh => by have := serB_out hh.2.2.1; simp only at this; omega)))
                have d1 : decide (p1 < 0) = false := decide_eq_false (by omega)
                have d2 : decide (b ≤ p1) = false := decide_eq_false (by omega)
                have d4 : decide (p2 < 1) = false := decide_eq_false (by omega)
                clear c1 c2 c4
                clear hm hd
                go_wp2_with fail
                rw [Hw1.out]
                go_quiet (fail)
                go_wp2
                go_ret
                exact ⟨by rw [hf.out]; rfl, below_drewN hbx1 _⟩
              · by_cases c6 : (m : Int) = z
                · have hf := hide (hm.trans (mpA_yes ⟨by show ¬ p1 ≤ _; omega, c2, by unfold serB; exact decide_eq_true ⟨by show 1 ≤ p2; omega, by show p2 ≤ 4611686018427387904; omega⟩, by show (pd.length : Int) = z; rw [h4]; exact c6⟩))
                  have d1 : decide (p1 < 0) = false := decide_eq_false (by omega)
                  have d2 : decide (b ≤ p1) = false := decide_eq_false (by omega)
                  have d4 : decide (p2 < 1) = false := decide_eq_false (by omega)
                  have d5 : decide ((4611686018427387904 : Int) < p2) = false := decide_eq_false (by omega)
                  have d6 : ((m : Int) != z) = false := by simpa using c6
                  have q0 : 0 ≤ p1 := by omega
                  clear c1 c2 c4 c5 c6
                  clear hm hd
                  go_wp2_with fail
                  rw [Hw1.out]
                  go_quiet (fail)
                  go_wp2
                  go_roundw
                  case rel => exact ⟨k + 1, p1, by omega, by go_num, hf.out, .inr ⟨by omega, by omega, _, hp, rfl⟩, below_drewN hBx _⟩
                  case measure => simp [intOf]; omega
                · have hf := hide (hm.trans (mpA_no (fun hh => by have := hh.2.2.2; simp only at this; rw [h4] at this; exact c6 this)))
                  have d1 : decide (p1 < 0) = false := decide_eq_false (by omega)
                  have d2 : decide (b ≤ p1) = false := decide_eq_false (by omega)
                  have d4 : decide (p2 < 1) = false := decide_eq_false (by omega)
                  have d5 : decide ((4611686018427387904 : Int) < p2) = false := decide_eq_false (by omega)
                  have d6 : ((m : Int) != z) = true := by simpa using c6
                  clear c1 c2 c4 c5 c6
                  clear hm hd
                  go_wp2_with fail
                  rw [Hw1.out]
                  go_quiet (fail)
                  go_wp2
                  go_ret
                  exact ⟨by rw [hf.out]; rfl, below_drewN hbx1 _⟩
          · obtain ⟨A2, m2, c2', i1, i2, i3, i4, i5, i6, i7, i8⟩ := (hP0.below hB).2 (k - 1) pp hpp
            have yp := rd3_0 hat1 i1
            have hkI : (k : Int) - 1 = ((k - 1 : Nat) : Int) := by omega
            have hkp : 0 < k := by omega
            have hk2 : ((k - 1 : Nat) : Int) < (n : Int) := by omega
            by_cases c3 : p1 ≤ pp.1
            · have hf := hide (hm.trans (mpA_no (fun hh => hh.1 c3)))
              have d1 : decide (p1 < 0) = false := decide_eq_false (by omega)
              have d2 : decide (b ≤ p1) = false := decide_eq_false (by omega)
              clear c1 c2
              clear hm hd
              go_wp2_with fail
              rw [Hw1.out]
              go_quiet (fail)
              go_wp2
              go_ret
              exact ⟨by rw [hf.out]; rfl, below_drewN hbx1 _⟩
            · by_cases c4 : p2 < 1
              · have hf := hide (hm.trans (mpA_no (fun hh => by have := serB_out hh.2.2.1; simp only at this; omega)))
                have d1 : decide (p1 < 0) = false := decide_eq_false (by omega)
                have d2 : decide (b ≤ p1) = false := decide_eq_false (by omega)
                have d3 : decide (p1 ≤ pp.1) = false := decide_eq_false (by omega)
                clear c1 c2
                clear hm hd
                go_wp2_with fail
                rw [Hw1.out]
                go_quiet (fail)
                go_wp2
                go_ret
                exact ⟨by rw [hf.out]; rfl, below_drewN hbx1 _⟩
              · by_cases c5 : 4611686018427387904 < p2
                · have hf := hide (hm.trans (mpA_no (fun hh => by have := serB_out hh.2.2.1; simp only at this; omega)))
                  have d1 : decide (p1 < 0) = false := decide_eq_false (by omega)
                  have d2 : decide (b ≤ p1) = false := decide_eq_false (by omega)
                  have d3 : decide (p1 ≤ pp.1) = false := decide_eq_false (by omega)
                  have d4 : decide (p2 < 1) = false := decide_eq_false (by omega)
                  clear c1 c2 c4
                  clear hm hd
                  go_wp2_with fail
                  rw [Hw1.out]
                  go_quiet (fail)
                  go_wp2
                  go_ret
                  exact ⟨by rw [hf.out]; rfl, below_drewN hbx1 _⟩
                · by_cases c6 : (m : Int) = z
                  · have hf := hide (hm.trans (mpA_yes ⟨by show ¬ p1 ≤ _; omega, c2, by unfold serB; exact decide_eq_true ⟨by show 1 ≤ p2; omega, by show p2 ≤ 4611686018427387904; omega⟩, by show (pd.length : Int) = z; rw [h4]; exact c6⟩))
                    have d1 : decide (p1 < 0) = false := decide_eq_false (by omega)
                    have d2 : decide (b ≤ p1) = false := decide_eq_false (by omega)
                    have d3 : decide (p1 ≤ pp.1) = false := decide_eq_false (by omega)
                    have d4 : decide (p2 < 1) = false := decide_eq_false (by omega)
                    have d5 : decide ((4611686018427387904 : Int) < p2) = false := decide_eq_false (by omega)
                    have d6 : ((m : Int) != z) = false := by simpa using c6
                    have q0 : 0 ≤ p1 := by omega
                    clear c1 c2 c4 c5 c6
                    clear hm hd
                    go_wp2_with fail
                    rw [Hw1.out]
                    go_quiet (fail)
                    go_wp2
                    go_roundw
                    case rel => exact ⟨k + 1, p1, by omega, by go_num, hf.out, .inr ⟨by omega, by omega, _, hp, rfl⟩, below_drewN hBx _⟩
                    case measure => simp [intOf]; omega
                  · have hf := hide (hm.trans (mpA_no (fun hh => by have := hh.2.2.2; simp only at this; rw [h4] at this; exact c6 this)))
                    have d1 : decide (p1 < 0) = false := decide_eq_false (by omega)
                    have d2 : decide (b ≤ p1) = false := decide_eq_false (by omega)
                    have d3 : decide (p1 ≤ pp.1) = false := decide_eq_false (by omega)
                    have d4 : decide (p2 < 1) = false := decide_eq_false (by omega)
                    have d5 : decide ((4611686018427387904 : Int) < p2) = false := decide_eq_false (by omega)
                    have d6 : ((m : Int) != z) = true := by simpa using c6
                    clear c1 c2 c4 c5 c6
                    clear hm hd
                    go_wp2_with fail
                    rw [Hw1.out]
                    go_quiet (fail)
                    go_wp2
                    go_ret
                    exact ⟨by rw [hf.out]; rfl, below_drewN hbx1 _⟩
    · obtain rfl : k = n := by omega
      have hf := hide (hm.trans (by rw [List.drop_eq_nil_of_le (by omega)]; rfl : mpA b z ah (ps.drop k) = true))
      clear hm
      go_wp2
      go_ret
      exact ⟨by rw [hf.out]; rfl, hbx⟩
end Go.Proofs.YtkknkdjdneldlaaGreat
namespace Go.Proofs.YtkknkdjdneldlaaGreat
set_option maxRecDepth 20000
open Go.RowKit Go.Px
set_option linter.unusedVariables false

set_option maxHeartbeats 3200000 in
theorem rdo_any (w : World) (lo rv gb gv cb cv b z N : Nat) (rows sv : List Value) (bs : List UInt8) (vs : List Int) (last : Int) (k : Nat) (p n : Int) (D : Option Addr) (d dc : Nat) (ds : List UInt8) (O : Option Addr) (o oc : Nat) (os : List UInt8) (num : Int) (hk : k < 256) (h : RVolIs w lo rv gb gv cb cv b z N rows sv bs vs last)
    (hd : ds.length = d) (hdc : d ≤ dc) (hdm : dc ≤ 9223372036854775807) (ho : os.length = o) (hD : Rd w D (bys ds)) (hO : Rd w O (bys os)) (hDv : ds ≠ [] → ∀ a, D = some a → a.block < lo) (hOv : os ≠ [] → ∀ a, O = some a → a.block < lo) :
    Calls Tryz.prog 47 #[.pointer (some ⟨rv, 0, none⟩), opv k p n D d dc O o oc, .int .i64 num] w
      (RDoIs lo rv gb gv cb cv b z N rows sv (doE b z last k p n ds.length os.length num) (doKE b z bs last k p n ds os num) (doDE b z bs last k p n ds os num) (doBE b z bs last k p n ds os num) (doVE b z bs vs last k p n ds os num) (doLE b z last k p n ds os num) w) := by
  subst hd ho
  obtain ⟨lo1, lo2, lo3⟩ := h.hlo
  by_cases hnum : serB num = true ∧ ¬ num < last
  · have hE0 : doE b z last k p n ds.length os.length num = ftE b z k p n ds.length os.length := by unfold doE; rw [if_pos hnum]
    obtain ⟨n1', n2'⟩ := serB_out hnum.1
    have n3' : last ≤ num := by have := hnum.2; omega
    by_cases hf : ftE b z k p n ds.length os.length = 0
    · have hE1 := hE0.trans hf
      unfold doKE doDE doBE doVE doLE
      simp only [hE1, if_true]
      by_cases hc : ftC b z k p n ds.length os.length = 1
      · obtain ⟨p1, n1, hg⟩ := fit_good hf hc
        obtain ⟨P, rfl⟩ := Int.eq_ofNat_of_zero_le p1
        obtain ⟨M, rfl⟩ := Int.eq_ofNat_of_zero_le n1
        have far : ∀ {A : Option Addr} {xs : List UInt8}, (xs ≠ [] → ∀ a, A = some a → a.block < lo) → 1 ≤ xs.length → ∀ a, A = some a → a.block ≠ rv ∧ a.block ≠ gb ∧ a.block ≠ gv := fun {A xs} hA hl a ha => by
          have := hA (by rintro rfl; simp at hl) a ha
          omega
        rcases hg with rfl | ⟨rfl, g1, g2, g3⟩ | ⟨hkk, g1, g2, g3, g4⟩
        · have e1 : doK b z bs 4 P M ds.length os = 1 := by unfold doK; rw [if_pos hc, if_neg (by omega)]
          have e2 : doD b z bs 4 P M ds.length os = [] := by unfold doD; rw [if_pos hc, if_neg (by decide), if_neg (by omega)]
          have e3 : doW b z bs 4 P M ds.length os = false := by unfold doW; simp
          unfold doB doV
          rw [e1, e2, e3]
          exact rdo_flush w lo rv gb gv cb cv b z N rows sv bs vs last P M D _ dc O _ oc num h n1' n2' n3' hf hc
        · have hP : P + 1 ≤ b := by omega
          have hz := h.hz.1
          cases hsg : (segB bs P 1 z == os) with
          | false =>
            have e1 : doK b z bs 5 P M ds.length os = 4 := by unfold doK; rw [if_pos hc, if_pos ⟨rfl, hsg⟩]
            have e2 : doD b z bs 5 P M ds.length os = segB bs P 1 z := by unfold doD; rw [if_pos hc, if_neg (by decide), if_pos ⟨rfl, hsg⟩]; rfl
            have e3 : doW b z bs 5 P M ds.length os = false := by unfold doW; simp [hsg]
            unfold doB doV
            rw [e1, e2, e3]
            exact rdo_swapno w lo rv gb gv cb cv b z N rows sv bs vs last P M D _ dc O _ oc num h n1' n2' n3' hf hc os hP rfl hO (far hOv (by omega)) (by simpa using hsg)
          | true =>
            have e1 : doK b z bs 5 P M ds.length os = 1 := by unfold doK; rw [if_pos hc, if_neg (by rw [Int.toNat_natCast, hsg]; simp)]
            have e2 : doD b z bs 5 P M ds.length os = [] := by unfold doD; rw [if_pos hc, if_neg (by decide), if_neg (by rw [Int.toNat_natCast, hsg]; simp)]
            have e3 : doW b z bs 5 P M ds.length os = true := by unfold doW; simp [hsg, hc]
            unfold doB doV
            rw [e1, e2, e3]
            exact rdo_swapyes w lo rv gb gv cb cv b z N rows sv bs vs last P M D _ dc O _ oc num h n1' n2' n3' hf hc os ds rfl (by omega) hdc hdm hD (far hDv (by omega)) hP rfl hO (far hOv (by omega)) (by simpa using hsg)
        · have hin : P + M ≤ b := by omega
          have hM : 1 ≤ M := by omega
          have e1 : doK b z bs k P M ds.length os = 1 := by unfold doK; rw [if_pos hc, if_neg (by omega)]
          rcases hkk with rfl | rfl | rfl
          · have e2 : doD b z bs 1 P M ds.length os = segB bs P M z := by unfold doD; rw [if_pos hc, if_pos rfl]; rfl
            have e3 : doW b z bs 1 P M ds.length os = false := by unfold doW; simp
            unfold doB doV
            rw [e1, e2, e3]
            exact rdo_read w lo rv gb gv cb cv b z N rows sv bs vs last P M D _ dc O _ oc num h n1' n2' n3' hf hc hin
          · have e2 : doD b z bs 2 P M ds.length os = [] := by unfold doD; rw [if_pos hc, if_neg (by decide), if_neg (by omega)]
            have e3 : doW b z bs 2 P M ds.length os = true := by unfold doW; simp [hc]
            have hdn : ds.length = M * z := by have := g4 rfl; exact Int.ofNat.inj (by simpa using this)
            have hMz : 1 ≤ M * z := Nat.mul_pos hM h.hz.1
            unfold doB doV
            rw [e1, e2, e3]
            exact rdo_write w lo rv gb gv cb cv b z N rows sv bs vs last P M D _ dc O _ oc num h n1' n2' n3' hf hc ds hin rfl hdn hdc hdm hD (far hDv (by omega))
          · have e2 : doD b z bs 3 P M ds.length os = [] := by unfold doD; rw [if_pos hc, if_neg (by decide), if_neg (by omega)]
            have e3 : doW b z bs 3 P M ds.length os = true := by unfold doW; simp [hc]
            unfold doB doV
            rw [e1, e2, e3]
            exact rdo_trim w lo rv gb gv cb cv b z N rows sv bs vs last P M D _ dc O _ oc num h n1' n2' n3' hf hc hin
      · obtain ⟨C, hC⟩ := ftC_nat b z k p n ds.length os.length
        have e1 : doK b z bs k p n ds.length os = C := by unfold doK; rw [if_neg hc, hC]; rfl
        have e2 : doD b z bs k p n ds.length os = [] := by unfold doD; rw [if_neg hc]
        have e3 : doW b z bs k p n ds.length os = false := by unfold doW; simp [hc]
        unfold doB doV
        rw [e1, e2, e3]
        exact rdo_badcode w lo rv gb gv cb cv b z N rows sv bs vs last k p n D _ dc O _ oc num hk h n1' n2' n3' C (by intro e; apply hc; rw [hC, e]; rfl) hf hC
    · have hE1 : doE b z last k p n ds.length os.length num ≠ 0 := by rw [hE0]; exact hf
      unfold doKE doDE doBE doVE doLE
      simp only [if_neg hE1]
      rw [hE0]
      exact rdo_badfit w lo rv gb gv cb cv b z N rows sv bs vs last k p n D _ dc O _ oc num hk h n1' n2' n3' _ hf rfl (ft_bad rfl hf)
  · have hE0 : doE b z last k p n ds.length os.length num = 5 := by unfold doE; rw [if_neg hnum]
    unfold doKE doDE doBE doVE doLE
    rw [hE0]
    refine rdo_badnum w lo rv gb gv cb cv b z N rows sv bs vs last k p n D _ dc O _ oc num h ?_
    by_cases q1 : num < 1
    · exact .inl q1
    · by_cases q2 : 4611686018427387904 < num
      · exact .inr (.inl ⟨by omega, q2⟩)
      · refine .inr (.inr ⟨by omega, by omega, Classical.not_not.1 fun hh => hnum ⟨decide_eq_true ⟨by omega, by omega⟩, hh⟩⟩)
end Go.Proofs.YtkknkdjdneldlaaGreat
