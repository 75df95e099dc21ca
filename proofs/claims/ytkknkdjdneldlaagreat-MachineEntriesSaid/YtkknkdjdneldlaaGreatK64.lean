/- Texts joined (shake.py). -/
import Derived.Deep.RegionWith
import Derived.IntWalk
import Derived.Deep.RegionHeldLaw
import Derived.Deep.RegionLaw
import Derived.Test.YtkknkdjdneldlaaGreatK61
import Derived.Test.YtkknkdjdneldlaaGreatK62
import Derived.Test.YtkknkdjdneldlaaGreatK63
namespace Go.Proofs.YtkknkdjdneldlaaGreat
set_option maxRecDepth 20000
open Go.RowKit Go.Px
set_option linter.unusedVariables false
theorem bys_zeros (n : Nat) : bys (List.replicate n 0) = List.replicate n (.int .u8 0) := by simp [bys]
theorem ints_zeros (n : Nat) : ints (List.replicate n 0) = List.replicate n (.int .i64 0) := by simp [ints]
end Go.Proofs.YtkknkdjdneldlaaGreat
namespace Go.Proofs.YtkknkdjdneldlaaGreat
set_option maxRecDepth 20000
open Go.RowKit Go.Px
set_option linter.unusedVariables false
theorem tPages : SlT Tryz.prog 24 83 3 40 := slT_mk Tryz.underlying24 (z := .agg #[.int .i64 0, .int .i64 0, .slice none 0 0]) (by kernel_rfl) rfl (by decide)
def pgB (vs : List Int) (since : Int) (i : Nat) : Bool := decide (since < vs.getD i 0) && decide (0 < vs.getD i 0)
end Go.Proofs.YtkknkdjdneldlaaGreat
namespace Go.Proofs.YtkknkdjdneldlaaGreat
set_option maxRecDepth 20000
open Go.RowKit Go.Px
set_option linter.unusedVariables false
/-- The cells of a page (its place, its version, its data), at place j of a row of pages; Q: which blocks its data may lie in. -/
def PgAt (w : World) (Q : Nat → Prop) (cs : List Value) (j : Nat) (p : Int × Int × List UInt8) : Prop :=
  ∃ A n c, cs[3 * j]? = some (.int .i64 p.1) ∧ cs[3 * j + 1]? = some (.int .i64 p.2.1) ∧ cs[3 * j + 2]? = some (.slice A n c) ∧ p.2.2.length = n ∧ n ≤ c ∧ c ≤ 9223372036854775807 ∧ Rd w A (bys p.2.2) ∧ ∀ a, A = some a → Q a.block
def PgRows (w : World) (Q : Nat → Prop) (cs : List Value) (ps : List (Int × Int × List UInt8)) : Prop := cs.length = 3 * ps.length ∧ ∀ j p, ps[j]? = some p → PgAt w Q cs j p
theorem PgRows.nil {w : World} {Q : Nat → Prop} : PgRows w Q [] [] := ⟨rfl, fun j p h => by simp at h⟩
theorem PgRows.keep {w w' : World} {Q Q' : Nat → Prop} {cs : List Value} {ps : List (Int × Int × List UInt8)} (h : PgRows w Q cs ps) (hk : ∀ A xs, Rd w A xs → (∀ a, A = some a → Q a.block) → Rd w' A xs) (hQ : ∀ B, Q B → Q' B) : PgRows w' Q' cs ps :=
  ⟨h.1, fun j p hp => by obtain ⟨A, n, c, h1, h2, h3, h4, h5, h6, h7, h8⟩ := h.2 j p hp; exact ⟨A, n, c, h1, h2, h3, h4, h5, h6, hk _ _ h7 h8, fun a ha => hQ _ (h8 a ha)⟩⟩
theorem PgRows.below {w w' : World} {Q : Nat → Prop} {cs : List Value} {ps : List (Int × Int × List UInt8)} (h : PgRows w Q cs ps) (hb : Below w.heap.size w w') : PgRows w' Q cs ps := h.keep (fun A xs hr _ => hr.below hb) (fun _ h => h)
theorem PgRows.snoc {w : World} {Q : Nat → Prop} {cs : List Value} {ps : List (Int × Int × List UInt8)} (h : PgRows w Q cs ps) {i v : Int} {A : Option Addr} {n c : Nat} {d : List UInt8} (hn : d.length = n) (hc : n ≤ c) (h63 : c ≤ 9223372036854775807) (hr : Rd w A (bys d)) (hq : ∀ a, A = some a → Q a.block) :
    PgRows w Q (cs ++ [.int .i64 i, .int .i64 v, .slice A n c]) (ps ++ [(i, v, d)]) := by
  have hl := h.1
  refine ⟨by simp [hl]; omega, fun j p hp => ?_⟩
  by_cases hlt : j < ps.length
  · rw [List.getElem?_append_left hlt] at hp
    obtain ⟨A', n', c', h1, h2, h3, h4⟩ := h.2 j p hp
    exact ⟨A', n', c', by rw [List.getElem?_append_left (by omega)]; exact h1, by rw [List.getElem?_append_left (by omega)]; exact h2, by rw [List.getElem?_append_left (by omega)]; exact h3, h4⟩
  · have hj : j = ps.length := by
      have := (List.getElem?_eq_some_iff.1 hp).1
      simp at this; omega
    subst hj
    simp at hp
    subst hp
    refine ⟨A, n, c, ?_, ?_, ?_, hn, hc, h63, hr, hq⟩
    · rw [← hl]; simp
    · rw [← hl, List.getElem?_append_right (by omega), show cs.length + 1 - cs.length = 1 by omega]; rfl
    · rw [← hl, List.getElem?_append_right (by omega), show cs.length + 2 - cs.length = 2 by omega]; rfl
/-- The pages that were changed since a number, of the first blocks. -/
def pgL (z : Nat) (bs : List UInt8) (vs : List Int) (since : Int) : Nat → List (Int × Int × List UInt8)
  | 0 => []
  | k + 1 => if pgB vs since k = true then pgL z bs vs since k ++ [((k : Int), vs.getD k 0, segB bs k 1 z)] else pgL z bs vs since k
theorem pgL_length (z : Nat) (bs : List UInt8) (vs : List Int) (since : Int) : ∀ k, (pgL z bs vs since k).length ≤ k
  | 0 => Nat.le_refl _
  | k + 1 => by have := pgL_length z bs vs since k; unfold pgL; split <;> simp <;> omega
set_option maxHeartbeats 3200000 in
theorem pages_any (w : World) (v r s b z N : Nat) (bs : List UInt8) (vs : List Int) (last : Int) (since : Int) (h : VolIs w v r s b z N bs vs last) :
    Calls Tryz.prog 54 #[.pointer (some ⟨v, 0, none⟩), .int .i64 since] w fun e w' => ∃ o cs, e = .returned o ∧ w'.ownsRow w.heap.size 83 3 o (pgL z bs vs since b).length cs ∧
      PgRows w' (fun B => w.heap.size ≤ B ∧ B < w'.heap.size ∧ some B ≠ o.ownBlock) cs (pgL z bs vs since b) ∧ Below w.heap.size w w' := by
  obtain ⟨hb1, hb2⟩ := h.hb
  obtain ⟨hz1, hz2⟩ := h.hz
  have x3 := h.blk.cell (j := 3) rfl
  go_enter Tryz.func54, Tryz.ntmps54
  go_wp2_with fail
  go_fit (made_any w v r s b z N bs vs last h)
  rintro x w1 ⟨rfl, rfl⟩
  go_wp2
  go_loopw [5, 16] (fun o i wr => ∃ (k : Nat) (cs : List Value), k ≤ b ∧ i = .int .i64 k ∧ wr.ownsRow w.heap.size 83 3 o (pgL z bs vs since k).length cs ∧
      PgRows wr (fun B => w.heap.size ≤ B ∧ B < wr.heap.size ∧ some B ≠ o.ownBlock) cs (pgL z bs vs since k) ∧ Below w.heap.size w wr) (fun _ i _ => b - (intOf i).toNat)
  case atStart => exact ⟨0, [], by omega, rfl, World.ownsRow_nil _ _ _ _, PgRows.nil, Below.refl _ _⟩
  case round =>
    obtain ⟨k, cs, hk, rfl, hown, hP, hbw⟩ := hrel
    have hV := h.below hbw
    have hx3 := hV.blk.cell (j := 3) rfl
    have hszw := hbw.size
    by_cases hlt : k < b
    · have hl : k < vs.length := by rw [h.lv]; exact hlt
      have y0 := hV.ver.cell (List.getElem?_eq_getElem (by rw [ints_length]; exact hl) : (ints vs)[k]? = _)
      obtain ⟨y, hy⟩ : ∃ y, vs[k] = y := ⟨_, rfl⟩
      have hyk : (ints vs)[k]'(by rw [ints_length]; exact hl) = .int .i64 y := by simp [ints, hy]
      rw [hyk] at y0
      have hgd : vs.getD k 0 = y := by simp [List.getD, List.getElem?_eq_getElem hl, hy]
      have hcl := pgL_length z bs vs since k
      clear hyk hy
      by_cases h1 : since < y
      · by_cases h2 : 0 < y
        · have hc := hide (show pgL z bs vs since (k + 1) = pgL z bs vs since k ++ [((k : Int), y, segB bs k 1 z)] by
            rw [pgL, if_pos (by unfold pgB; rw [hgd]; simp [h1, h2]), hgd])
          clear hgd
          obtain ⟨L, hL⟩ : ∃ L, pgL z bs vs since k = L := ⟨_, rfl⟩
          rw [hL] at hcl hown hP
          have HL := hide hL
          clear hL
          go_wp2_with fail
          go_fit (blocks_one wr v r s b z N bs vs last k hV hlt)
          rintro x w2 ⟨rfl, q1, rfl⟩
          have hsl := segB_length (bs := bs) (p := k) (n := 1) h.lb h.hN hlt
          rw [Nat.one_mul] at hsl
          go_wp2_with fail
          go_fit (clone_any (some ⟨r, k * z, none⟩) z z (segB bs k 1 z) _ hsl (by omega) ((hV.seg k 1).drewN q1))
          rintro x w3 ⟨u3, rfl, ho3, hb3⟩
          obtain ⟨A3, c3, rfl, _, hc3, hcm3, hr3, ha3⟩ := own_out ho3
          have hszd : (wr.drewN q1).heap.size = wr.heap.size := rfl
          rw [hszd] at hb3 ha3
          have hbw3 : Below wr.heap.size wr w3 := ⟨hb3.os, hb3.tape, hb3.output, hb3.size, hb3.block⟩
          have Hsl := hide hsl
          obtain ⟨w4, hw4⟩ : ∃ w4, w3.alloc (.cells #[.int .i64 k, .int .i64 y, .slice A3 z c3] 83) = w4 := ⟨_, rfl⟩
          have hb34 : Below w3.heap.size w3 w4 := by rw [← hw4]; exact (Below.refl _ _).alloc (Nat.le_refl _) _
          have hb4 : Below wr.heap.size wr w4 := hbw3.trans (hb34.mono hbw3.size)
          have hsz4 : w3.heap.size + 1 = w4.heap.size := by rw [← hw4, World.size_alloc]
          have hown4 := own_below hown hb4
          have hnew : Rd w4 (some ⟨w3.heap.size, 0, none⟩) [.int .i64 k, .int .i64 y, .slice A3 z c3] := by rw [← hw4]; exact Rd.newN w3 [.int .i64 k, .int .i64 y, .slice A3 z c3] _ (0, 0)
          have hr4 := hr3.below hb34
          have hlo := own_lt hown
          have hsz3 := hbw3.size
          clear hsl hszd
          have Hw4 := hide hw4
          clear hw4
          go_wp2_with (first | (with_reducible refine stop_append rfl ?_) | (with_reducible refine stop_copy rfl ?_) | (with_reducible refine stop_make rfl ?_))
          rw [Hw4.out]
          refine go_append (v := u5) rfl rfl tPages rfl hown4 rfl (m := 1) (news := [.int .i64 k, .int .i64 y, .slice A3 z c3]) rfl hnew (by intro u hu; simp at hu; rcases hu with rfl | rfl | rfl <;> rfl) (by omega) (by omega) (by omega) ?_
          intro v5 w5 hown5 hg5 hv5
          have hsz5 := hg5.size
          have hne : ∀ B, B < w4.heap.size → some B ≠ Value.ownBlock u5 → some B ≠ v5.ownBlock := fun B hB hB' e => by
            rcases hv5 with e' | e'
            · rw [e'] at e; exact hB' e
            · rw [e'] at e; injection e with e; omega
          have hne3 : ∀ a, A3 = some a → some a.block ≠ Value.ownBlock u5 := fun a ha e => by
            have h1 := hlo _ e.symm
            have h2 := ha3 a ha
            omega
          have hP5 : PgRows w5 (fun B => w.heap.size ≤ B ∧ B < w5.heap.size ∧ some B ≠ v5.ownBlock) (cs ++ [.int .i64 k, .int .i64 y, .slice A3 z c3]) (L ++ [((k : Int), y, segB bs k 1 z)]) :=
            (hP.keep (fun A xs hr hq => (hr.below hb4).grown hg5 (fun a ha => (hq a ha).2.2)) (fun B hB => ⟨hB.1, by have := hB.2.1; omega, hne B (by have := hB.2.1; omega) hB.2.2⟩)).snoc Hsl.out hc3 (by unfold maxLen at hcm3; omega) (hr4.grown hg5 hne3)
              (fun a ha => ⟨by have := ha3 a ha; omega, by have := ha3 a ha; omega, hne _ (by have := ha3 a ha; omega) (hne3 a ha)⟩)
          have hb5 : Below w.heap.size w w5 := (hbw.trans (hb4.mono hszw)).grown hg5 (by omega) (fun g hg => (hlo g hg).1)
          go_wp2
          go_roundw
          case rel => exact ⟨k + 1, _, by omega, by go_num, by rw [hc.out, HL.out]; simpa using hown5, by rw [hc.out, HL.out]; exact hP5, hb5⟩
          case measure => simp [intOf]; omega
        · have hc := hide (show pgL z bs vs since (k + 1) = pgL z bs vs since k by
            rw [pgL, if_neg (by unfold pgB; rw [hgd]; simp; omega)])
          clear hgd
          go_wp2
          go_roundw
          case rel => exact ⟨k + 1, cs, by omega, by go_num, by rw [hc.out]; exact hown, by rw [hc.out]; exact hP, hbw⟩
          case measure => simp [intOf]; omega
      · have hc := hide (show pgL z bs vs since (k + 1) = pgL z bs vs since k by
          rw [pgL, if_neg (by unfold pgB; rw [hgd]; simp; omega)])
        clear hgd
        go_wp2
        go_roundw
        case rel => exact ⟨k + 1, cs, by omega, by go_num, by rw [hc.out]; exact hown, by rw [hc.out]; exact hP, hbw⟩
        case measure => simp [intOf]; omega
    · obtain rfl : k = b := by omega
      obtain ⟨A, c, rfl, _, _, _, _, _⟩ := own_out hown
      go_wp2
      go_ret
      exact ⟨_, cs, rfl, hown, hP, hbw⟩
end Go.Proofs.YtkknkdjdneldlaaGreat
namespace Go.Proofs.YtkknkdjdneldlaaGreat
set_option maxRecDepth 20000
open Go.RowKit Go.Px
set_option linter.unusedVariables false
def mpA (b z : Int) : Int → List (Int × Int × List UInt8) → Bool
  | _, [] => true
  | ah, p :: r => decide (¬ p.1 ≤ ah ∧ ¬ b ≤ p.1 ∧ serB p.2.1 = true ∧ (p.2.2.length : Int) = z) && mpA b z p.1 r
theorem mpA_yes {b z ah : Int} {p : Int × Int × List UInt8} {r : List (Int × Int × List UInt8)} (h : ¬ p.1 ≤ ah ∧ ¬ b ≤ p.1 ∧ serB p.2.1 = true ∧ (p.2.2.length : Int) = z) : mpA b z ah (p :: r) = mpA b z p.1 r := by
  unfold mpA; rw [decide_eq_true h, Bool.true_and]; cases r <;> rfl
theorem mpA_no {b z ah : Int} {p : Int × Int × List UInt8} {r : List (Int × Int × List UInt8)} (h : ¬ (¬ p.1 ≤ ah ∧ ¬ b ≤ p.1 ∧ serB p.2.1 = true ∧ (p.2.2.length : Int) = z)) : mpA b z ah (p :: r) = false := by
  unfold mpA; rw [decide_eq_false h, Bool.false_and]
theorem rd3_0 {w : World} {a : Addr} {cs : List Value} (hat : ∀ j u, cs[j]? = some u → w.cell? (a.add j) = some u) {k : Nat} {u : Value} (h : cs[3 * k]? = some u) : w.cell? (a.add (k * 3)) = some u := by
  rw [Nat.mul_comm]; exact hat _ _ h
theorem rd3_S {w : World} {a : Addr} {cs : List Value} (hat : ∀ j u, cs[j]? = some u → w.cell? (a.add j) = some u) {k i : Nat} {u : Value} (h : cs[3 * k + (i + 1)]? = some u) : w.cell? ⟨(a.add (k * 3)).block, (a.add (k * 3)).off + (i + 1), none⟩ = some u := by
  have := hat _ _ h
  have e : a.add (3 * k + (i + 1)) = ⟨(a.add (k * 3)).block, (a.add (k * 3)).off + (i + 1), none⟩ := by
    unfold Addr.add
    rw [if_neg (by omega)]
    split
    · rename_i h0
      rw [show 3 * k + (i + 1) = i + 1 by omega]
    · show (⟨a.block, a.off + (3 * k + (i + 1)), none⟩ : Addr) = ⟨a.block, a.off + k * 3 + (i + 1), none⟩
      rw [show a.off + (3 * k + (i + 1)) = a.off + k * 3 + (i + 1) by omega]
  rw [← e]; exact this
set_option maxHeartbeats 3200000 in
theorem mayPages_any (b z : Int) (A : Option Addr) (n c : Nat) (cs : List Value) (ps : List (Int × Int × List UInt8)) (Q : Nat → Prop) (w : World) (hn : ps.length = n) (hnc : n ≤ c) (hc : c ≤ 9223372036854775807) (hr : Rd w A cs) (hP : PgRows w Q cs ps) :
    Calls Tryz.prog 117 #[shp b z, .slice A n c] w fun e w' => e = .returned (.bool (mpA b z (-1) ps)) ∧ Below w.heap.size w w' := by
  obtain ⟨w0, hw0⟩ : ∃ w0, w.alloc (.cells #[.int .i64 b, .int .i64 z] 23) = w0 := ⟨_, rfl⟩
  obtain ⟨g, hg⟩ : ∃ g, w.heap.size = g := ⟨_, rfl⟩
  have hS : Blk w0 g [.int .i64 b, .int .i64 z] 23 := by rw [← hw0, ← hg]; exact Blk.new w [.int .i64 b, .int .i64 z] _
  have hb0 : Below w.heap.size w w0 := by rw [← hw0]; exact (Below.refl _ _).alloc (Nat.le_refl _) _
  have hr0 := hr.below hb0
  have hP0 := hP.below hb0
  have hl := hP.1
  have Hw0 := hide hw0
  go_enter Tryz.func117, Tryz.ntmps117
  go_wp2
  clear hw0
  go_loopw [5, 10] (fun a i wr => ∃ (k : Nat) (ah : Int), k ≤ n ∧ i = .int .i64 k ∧ a = .int .i64 ah ∧ mpA b z (-1) ps = mpA b z ah (ps.drop k) ∧ Below w0.heap.size w0 wr) (fun _ i _ => n - (intOf i).toNat)
  case atStart => exact ⟨0, -1, by omega, rfl, rfl, rfl, Below.refl _ _⟩
  case round =>
    obtain ⟨k, ah, hk, rfl, rfl, hm, hB⟩ := hrel
    have hbx : Below w.heap.size w wr := hb0.trans (hB.mono hb0.size)
    have hbx' : Below g w wr := by rw [← hg]; exact hbx
    by_cases hlt : k < n
    · obtain ⟨p, hp⟩ : ∃ p, ps[k]? = some p := ⟨_, List.getElem?_eq_getElem (by omega)⟩
      obtain ⟨A', m, c', h1, h2, h3, h4, h5, h6, h7, h8⟩ := (hP0.below hB).2 k p hp
      obtain ⟨a, rfl, hat⟩ := (hr0.below hB).some_of (xs := cs) (by omega)
      have y0 := rd3_0 hat h1
      have y1 := rd3_S (i := 0) hat h2
      have y2 := rd3_S (i := 1) hat h3
      have hd : ps.drop k = p :: ps.drop (k + 1) := by
        rw [List.drop_eq_getElem_cons (by omega)]
        rw [List.getElem?_eq_getElem (by omega)] at hp
        injection hp with hp
        rw [hp]
      obtain ⟨p1, p2, pd⟩ := p
      simp only at h1 h2 h4 h7 y0 y1
      rw [hd] at hm
      have x0 := ((hS.below hB).alloc (.cells #[.int .i64 p1, .int .i64 p2, .slice A' m c'] 83)).cell (j := 0) rfl
      have x1 := ((hS.below hB).alloc (.cells #[.int .i64 p1, .int .i64 p2, .slice A' m c'] 83)).cell (j := 1) rfl
      have hsz := hB.size
      have hgl := hS.lt
      by_cases c1 : p1 ≤ ah
      · have hf := hide (hm.trans (mpA_no (fun hh => hh.1 c1)))
        clear hm hd
        go_wp2
        go_ret
        exact ⟨by rw [hf.out]; rfl, by first | exact hbx.alloc (by omega) _ | exact hbx'.alloc (by omega) _⟩
      · by_cases c2 : b ≤ p1
        · have hf := hide (hm.trans (mpA_no (fun hh => hh.2.1 c2)))
          clear hm hd
          go_wp2
          go_ret
          exact ⟨by rw [hf.out]; rfl, by first | exact hbx.alloc (by omega) _ | exact hbx'.alloc (by omega) _⟩
        · go_wp2_with fail
          go_fit (serial_any p2 _)
          cases c3 : serB p2 with
          | false =>
            have hf := hide (hm.trans (mpA_no (fun hh => by have := hh.2.2.1; simp only at this; rw [c3] at this; cases this)))
            clear hm hd c3
            rintro x w1 ⟨rfl, rfl⟩
            go_wp2
            go_ret
            exact ⟨by rw [hf.out]; rfl, by first | exact hbx.alloc (by omega) _ | exact hbx'.alloc (by omega) _⟩
          | true =>
            by_cases c4 : (m : Int) = z
            · have hf := hide (hm.trans (mpA_yes ⟨by show ¬ p1 ≤ ah; omega, by show ¬ b ≤ p1; omega, c3, by show (pd.length : Int) = z; rw [h4]; exact c4⟩))
              clear hm hd c3
              rintro x w1 ⟨rfl, rfl⟩
              go_wp2
              go_roundw
              case rel => exact ⟨k + 1, p1, by omega, by go_num, rfl, hf.out, hB.alloc hB.size _⟩
              case measure => simp [intOf]; omega
            · have hf := hide (hm.trans (mpA_no (fun hh => c4 (by have := hh.2.2.2; simp only at this; rw [h4] at this; exact this))))
              clear hm hd c3
              rintro x w1 ⟨rfl, rfl⟩
              go_wp2
              go_ret
              exact ⟨by rw [hf.out]; rfl, by first | exact hbx.alloc (by omega) _ | exact hbx'.alloc (by omega) _⟩
    · obtain rfl : k = n := by omega
      have hf := hide (hm.trans (by rw [List.drop_eq_nil_of_le (by omega)]; rfl : mpA b z ah (ps.drop k) = true))
      clear hm
      go_wp2
      go_ret
      exact ⟨by rw [hf.out]; rfl, by first | exact hbx | exact hbx'⟩
end Go.Proofs.YtkknkdjdneldlaaGreat
namespace Go.Proofs.YtkknkdjdneldlaaGreat
set_option maxRecDepth 20000
open Go.RowKit Go.Px
set_option linter.unusedVariables false
def layB (z : Nat) (bs : List UInt8) (ps : List (Int × Int × List UInt8)) : List UInt8 := ps.foldl (fun x p => splB x (p.1.toNat * z) p.2.2) bs
def layV (vs : List Int) (ps : List (Int × Int × List UInt8)) : List Int := ps.foldl (fun x p => x.set p.1.toNat p.2.1) vs
def layL (last : Int) (ps : List (Int × Int × List UInt8)) : Int := ps.foldl (fun x p => max x p.2.1) last
theorem take_snoc {α : Type} {l : List α} {k : Nat} {p : α} (h : l[k]? = some p) : l.take (k + 1) = l.take k ++ [p] := by
  rw [List.take_add_one, h]; rfl
/-- A reading of what lies apart from the volume's blocks. -/
theorem Rd.upd {w w' : World} {v r s : Nat} {A : Option Addr} {xs : List Value} (hR : Rd w A xs) (hU : Upd v r s w w') (hA : ∀ a, A = some a → a.block ≠ v ∧ a.block ≠ r ∧ a.block ≠ s) : Rd w' A xs := fun j u hu => by
  obtain ⟨a, rfl, hc⟩ := hR j u hu
  obtain ⟨a1, a2, a3⟩ := hA a rfl
  have hlt : (a.add j).block < w.heap.size := World.block_lt_of_cell? w _ hc
  refine ⟨a, rfl, ?_⟩
  rw [← hc]
  unfold World.cell?
  rw [hU.blk (a.add j).block hlt (by rw [add_block]; exact a1) (by rw [add_block]; exact a2) (by rw [add_block]; exact a3)]
theorem Upd.setS {v r s : Nat} (w : World) (j : Nat) (u : Value) : Upd v r s w (w.setCell ⟨s, j, none⟩ u) := ⟨rfl, rfl, rfl, by simp, fun k _ _ _ h => heap_setCell_other w ⟨s, j, none⟩ k u h⟩
theorem Upd.drew {v r s : Nat} {w w' : World} (h : Upd v r s w w') : Upd v r s w w'.drew := h.trans (Upd.of_below (Below.refl _ _).drew)
/-- Pages that may be laid on a volume of b blocks of z bytes. -/
def Good (b z : Nat) (ps : List (Int × Int × List UInt8)) : Prop := ∀ (j : Nat) (p : Int × Int × List UInt8), ps[j]? = some p → ∃ P : Nat, p.1 = (P : Int) ∧ P < b ∧ p.2.2.length = z ∧ serB p.2.1 = true
theorem good_of_mpA {b z : Nat} : ∀ {ps : List (Int × Int × List UInt8)} {ah : Int}, -1 ≤ ah → mpA b z ah ps = true → Good b z ps
  | [], _, _, _ => fun j p h => by simp at h
  | p :: r, ah, ha, h => by
    by_cases hp : ¬ p.1 ≤ ah ∧ ¬ (b : Int) ≤ p.1 ∧ serB p.2.1 = true ∧ (p.2.2.length : Int) = z
    · rw [mpA_yes hp] at h
      obtain ⟨h1, h2, h3, h4⟩ := hp
      intro j q hq
      cases j with
      | zero =>
        simp at hq
        subst hq
        exact ⟨p.1.toNat, by omega, by omega, by omega, h3⟩
      | succ j => exact good_of_mpA (ah := p.1) (by omega) h j q (by simpa using hq)
    · rw [mpA_no hp] at h; cases h
set_option maxHeartbeats 3200000 in
theorem lay_any (w : World) (v r s b z N : Nat) (bs : List UInt8) (vs : List Int) (last : Int) (A : Option Addr) (n c : Nat) (cs : List Value) (ps : List (Int × Int × List UInt8)) (h : VolIs w v r s b z N bs vs last) (hn : ps.length = n) (hnc : n ≤ c) (hc : c ≤ 9223372036854775807)
    (hr : Rd w A cs) (hA : ∀ a, A = some a → a.block ≠ v ∧ a.block ≠ r ∧ a.block ≠ s) (hP : PgRows w (fun B => B ≠ v ∧ B ≠ r ∧ B ≠ s) cs ps) (hg : Good b z ps) :
    Calls Tryz.prog 120 #[.pointer (some ⟨v, 0, none⟩), .slice A n c] w fun e w' => e = .returned (.tuple #[]) ∧ VolIs w' v r s b z N (layB z bs ps) (layV vs ps) (layL last ps) ∧ Upd v r s w w' := by
  obtain ⟨hb1, hb2⟩ := h.hb
  obtain ⟨hz1, hz2⟩ := h.hz
  have hl := hP.1
  have vlt := h.blk.lt
  have rlt := h.row.lt
  have slt := h.ver.lt
  go_enter Tryz.func120, Tryz.ntmps120
  go_wp2
  go_loopw [8] (fun i wr => ∃ (k : Nat), k ≤ n ∧ i = .int .i64 k ∧ VolIs wr v r s b z N (layB z bs (ps.take k)) (layV vs (ps.take k)) (layL last (ps.take k)) ∧ Upd v r s w wr) (fun i _ => n - (intOf i).toNat)
  case atStart => exact ⟨0, by omega, rfl, h, Upd.of_below (Below.refl _ _)⟩
  case round =>
    obtain ⟨k, hk, rfl, hV, hU⟩ := hrel
    have gsz := hU.size
    by_cases hlt : k < n
    · obtain ⟨p, hp⟩ : ∃ p, ps[k]? = some p := ⟨_, List.getElem?_eq_getElem (by omega)⟩
      obtain ⟨A', m, c', h1, h2, h3, h4, h5, h6, h7, h8⟩ := (hP.keep (w' := wr) (fun A xs hr hq => Rd.upd hr hU hq) (fun _ h => h)).2 k p hp
      obtain ⟨a, rfl, hat⟩ := (Rd.upd hr hU hA).some_of (xs := cs) (by omega)
      obtain ⟨P, e1, hPb, hPz, hser⟩ := hg k p hp
      have y0 := rd3_0 hat h1
      have y1 := rd3_S (i := 0) hat h2
      have y2 := rd3_S (i := 1) hat h3
      have t1 : layB z bs (ps.take (k + 1)) = splB (layB z bs (ps.take k)) (P * z) p.2.2 := by unfold layB; rw [take_snoc hp, List.foldl_append, List.foldl_cons, List.foldl_nil, e1]; rfl
      have t2 : layV vs (ps.take (k + 1)) = (layV vs (ps.take k)).set P p.2.1 := by unfold layV; rw [take_snoc hp, List.foldl_append, List.foldl_cons, List.foldl_nil, e1]; rfl
      have t3 : layL last (ps.take (k + 1)) = max (layL last (ps.take k)) p.2.1 := by unfold layL; rw [take_snoc hp, List.foldl_append, List.foldl_cons, List.foldl_nil]
      obtain ⟨p1, p2, pd⟩ := p
      simp only at e1 h1 h2 h4 h7 y0 y1 hPz t1 t2 t3
      subst e1
      obtain ⟨xb, hxb⟩ : ∃ x, layB z bs (ps.take k) = x := ⟨_, rfl⟩
      obtain ⟨xv, hxv⟩ : ∃ x, layV vs (ps.take k) = x := ⟨_, rfl⟩
      obtain ⟨xl, hxl⟩ : ∃ x, layL last (ps.take k) = x := ⟨_, rfl⟩
      rw [hxb] at t1
      rw [hxv] at t2
      rw [hxl] at t3
      rw [hxb, hxv, hxl] at hV
      have T1 := hide t1
      have T2 := hide t2
      have T3 := hide t3
      clear t1 t2 t3 hxb hxv hxl
      have hmz : m = z := by omega
      obtain ⟨g1, hg1⟩ : ∃ g, wr.heap.size = g := ⟨_, rfl⟩
      obtain ⟨w1, hw1⟩ : ∃ x, wr.alloc (.cells #[.int .i64 P, .int .i64 p2, .slice A' m c'] 83) = x := ⟨_, rfl⟩
      have hB1 : Blk w1 g1 [.int .i64 P, .int .i64 p2, .slice A' m c'] 83 := by rw [← hw1, ← hg1]; exact Blk.new wr [.int .i64 P, .int .i64 p2, .slice A' m c'] _
      have hb01 : Below wr.heap.size wr w1 := by rw [← hw1]; exact (Below.refl _ _).alloc (Nat.le_refl _) _
      have hV1 := hV.below hb01
      have hD1 := h7.below hb01
      have hU1 := hU.trans (Upd.of_below (v := v) (r := r) (s := s) hb01)
      have Hw1 := hide hw1
      have H4 := hide h4
      have Hmz := hide hmz
      have hin : P + 1 ≤ b := hPb
      clear hw1 h4 hmz hPz
      have k0 := hB1.cell (j := 0) rfl
      have k1 := hB1.cell (j := 1) rfl
      have k2 := hB1.cell (j := 2) rfl
      go_wp2_with fail
      rw [Hw1.out]
      go_region_with (first
        | (go_at_call 112; refine (blocks_one _ v r s b z N xb xv xl P (by exact hV1.drewN 1) hin).mono ?_; rintro x w2 ⟨rfl, q1, rfl⟩; have cp := fun ty => copy_one (w := w1.drewN (1 + q1)) (dc := c') (hV1.drewN (1 + q1)) H4.out hD1 Hmz.out hin ty))
      all_goals
        clear cp
        have hpn := mul_le hin h.hN
        rw [Nat.add_mul] at hpn
        have hl' := splB_length (bs := xb) (xs := pd) (off := P * z) (by rw [H4.out, hV.lb]; have := Hmz.out; omega)
        rw [hV.lb] at hl'
        have hV3 := (hV1.drewN (1 + q1)).setRow (splB xb (P * z) pd) hl'
        have G3 : (w1.drewN (1 + q1)).grownBy _ (some r) := setRow_grown (cs := bys (splB xb (P * z) pd))
        have hB3 := blk_grown (show Blk (w1.drewN (1 + q1)) g1 _ _ from hB1) G3 (by omega)
        have hU3 : Upd v r s w ((w1.drewN (1 + q1)).setRow r (bys (splB xb (P * z) pd)).toArray) := hU1.trans ⟨G3.os, G3.tape, G3.output, G3.size, fun q hq _ hqr _ => G3.block q hq (by intro e; injection e with e; exact hqr e)⟩
        obtain ⟨w3, hw3⟩ : ∃ w3, (w1.drewN (1 + q1)).setRow r (bys (splB xb (P * z) pd)).toArray = w3 := ⟨_, rfl⟩
        rw [hw3] at hV3 G3 hB3 hU3
        rw [hw3]
        obtain ⟨xb', hxb'⟩ : ∃ x, splB xb (P * z) pd = x := ⟨_, rfl⟩
        rw [hxb'] at hV3
        rw [hxb'] at T1
        clear k0 k1 k2 hl' hxb' hw3 y0 y1 y2 hpn
        have k0 := hB3.cell (j := 0) rfl
        have k1 := hB3.cell (j := 1) rfl
        have v3 := hV3.blk.cell (j := 3) rfl
        have hlv : P < (ints xv).length := by rw [ints_length, hV3.lv]; omega
        have z0 := hV3.ver.cell (List.getElem?_eq_getElem hlv)
        have z1 := hV3.ver.frozen P
        go_wp2_with fail
        go_region
        have hV4 := (hV3.setVer P p2).drew
        have hB4 := (hB3.apart (show g1 ≠ s by omega) P (.int .i64 p2)).drew
        have hU4 := (hU3.trans (Upd.setS (v := v) (r := r) (s := s) w3 P (.int .i64 p2))).drew
        obtain ⟨w4, hw4⟩ : ∃ w4, (w3.setCell ⟨s, P, none⟩ (.int .i64 p2)).drew = w4 := ⟨_, rfl⟩
        rw [hw4] at hV4 hB4 hU4
        rw [hw4]
        clear k0 k1 v3 z0 z1 hw4
        have k1 := hB4.cell (j := 1) rfl
        have v4 := hV4.blk.cell (j := 4) rfl
        have z4 := hV4.blk.frozen 4
        go_wp2_with fail
        go_region
        have hmx : (if xl < p2 then p2 else xl) = max xl p2 := by split <;> omega
        try rw [hmx]
        have hV5 := (hV4.setLast (max xl p2)).drew
        have hU5 := (hU4.set_v 4 (.int .i64 (max xl p2))).drew
        clear hmx k1 v4 z4
        go_wp2
        go_roundw
        case rel => exact ⟨k + 1, by omega, by go_num, by rw [T1.out, T2.out, T3.out]; exact hV5, hU5⟩
        case measure => simp [intOf]; omega
    · obtain rfl : k = n := by omega
      rw [List.take_of_length_le (by omega)] at hV
      go_wp2
      go_end0
      exact ⟨rfl, hV, hU⟩
end Go.Proofs.YtkknkdjdneldlaaGreat
namespace Go.Proofs.YtkknkdjdneldlaaGreat
set_option maxRecDepth 20000
open Go.RowKit Go.Px
set_option linter.unusedVariables false
theorem PgRows.drewN {w : World} {Q : Nat → Prop} {cs : List Value} {ps : List (Int × Int × List UInt8)} (h : PgRows w Q cs ps) (q : Nat) : PgRows (w.drewN q) Q cs ps := h.keep (fun A xs hr _ => hr.drewN q) (fun _ h => h)
end Go.Proofs.YtkknkdjdneldlaaGreat
namespace Go.Proofs.YtkknkdjdneldlaaGreat
set_option maxRecDepth 20000
open Go.RowKit Go.Px
set_option linter.unusedVariables false
/-- A volume of plinthref05 at block rv: its rows' slices at block gb, its versions at block gv. -/
structure RVolIs (w : World) (lo rv gb gv cb cv b z N : Nat) (rows sv : List Value) (bs : List UInt8) (vs : List Int) (last : Int) : Prop where
  blk : Blk w rv [.int .i64 b, .int .i64 z, .slice (some ⟨gb, 0, none⟩) b cb, .slice (some ⟨gv, 0, none⟩) b cv, .int .i64 last] 108
  row : Blk w gb rows 38
  ver : Blk w gv (ints vs ++ sv) 3
  cells : ∀ i, i < b → ∃ A c, rows[i]? = some (.slice A z c) ∧ z ≤ c ∧ c ≤ 9223372036854775807 ∧ Rd w A (bys (segB bs i 1 z)) ∧ ∀ a, A = some a → lo ≤ a.block ∧ a.block ≠ rv ∧ a.block ≠ gb ∧ a.block ≠ gv
  hlo : lo ≤ rv ∧ lo ≤ gb ∧ lo ≤ gv
  lb : bs.length = N
  lv : vs.length = b
  hN : b * z = N
  rb : rv ≠ gb
  rg : rv ≠ gv
  bg : gb ≠ gv
  hb : 1 ≤ b ∧ b ≤ 4096
  hz : 1 ≤ z ∧ z ≤ 4096
  hcb : b ≤ cb ∧ cb ≤ 9223372036854775807
  hcv : b ≤ cv ∧ cv ≤ 9223372036854775807
section
variable {w w' : World} {lo rv gb gv cb cv b z N : Nat} {rows sv : List Value} {bs : List UInt8} {vs : List Int} {last : Int}
theorem RVolIs.upd {v r s : Nat} (h : RVolIs w lo rv gb gv cb cv b z N rows sv bs vs last) (hb : Upd v r s w w') (h1 : v < lo ∧ r < lo ∧ s < lo) : RVolIs w' lo rv gb gv cb cv b z N rows sv bs vs last := by
  obtain ⟨l1, l2, l3⟩ := h.hlo
  exact { h with
    blk := (hb.blk _ h.blk.lt (by omega) (by omega) (by omega)).trans h.blk
    row := (hb.blk _ h.row.lt (by omega) (by omega) (by omega)).trans h.row
    ver := (hb.blk _ h.ver.lt (by omega) (by omega) (by omega)).trans h.ver
    cells := fun i hi => by
      obtain ⟨A, c, k1, k2, k3, k4, k5⟩ := h.cells i hi
      exact ⟨A, c, k1, k2, k3, Rd.upd k4 hb (fun a ha => by have := (k5 a ha).1; omega), k5⟩ }
theorem RVolIs.below (h : RVolIs w lo rv gb gv cb cv b z N rows sv bs vs last) (hb : Below w.heap.size w w') : RVolIs w' lo rv gb gv cb cv b z N rows sv bs vs last :=
  { h with
    blk := h.blk.below hb
    row := h.row.below hb
    ver := h.ver.below hb
    cells := fun i hi => by
      obtain ⟨A, c, k1, k2, k3, k4, k5⟩ := h.cells i hi
      exact ⟨A, c, k1, k2, k3, k4.below hb, k5⟩ }
end
end Go.Proofs.YtkknkdjdneldlaaGreat
namespace Go.Proofs.YtkknkdjdneldlaaGreat
set_option maxRecDepth 20000
open Go.RowKit Go.Px
set_option linter.unusedVariables false
theorem splB_getD {bs xs : List UInt8} {off : Nat} (h : off + xs.length ≤ bs.length) (j : Nat) : (splB bs off xs).getD j 0 = if off ≤ j ∧ j < off + xs.length then xs.getD (j - off) 0 else bs.getD j 0 := by
  unfold splB
  simp only [List.getD_eq_getElem?_getD]
  have h1 : (bs.take off).length = off := by rw [List.length_take]; omega
  by_cases c1 : j < off
  · rw [if_neg (by omega), List.append_assoc, List.getElem?_append_left (by omega), List.getElem?_take, if_pos c1]
  · by_cases c2 : j < off + xs.length
    · rw [if_pos ⟨by omega, c2⟩, List.getElem?_append_left (by simp [h1]; omega), List.getElem?_append_right (by omega), h1]
    · rw [if_neg (by omega), List.getElem?_append_right (by simp [h1]; omega), List.getElem?_drop]
      congr 2
      simp [h1]; omega
theorem stampL_getD (vs : List Int) (P : Nat) (num : Int) : ∀ M, P + M ≤ vs.length → ∀ i, (stampL vs P num M).getD i 0 = if P ≤ i ∧ i < P + M then num else vs.getD i 0
  | 0, _, i => by unfold stampL; rw [if_neg (by omega)]
  | M + 1, h, i => by
    have ih := stampL_getD vs P num M (by omega) i
    have hl := stampL_length vs P num M
    unfold stampL
    rw [List.getD_eq_getElem?_getD, List.getElem?_set]
    by_cases c : P + M = i
    · rw [if_pos c, if_pos (by omega), if_pos ⟨by omega, by omega⟩]; rfl
    · rw [if_neg c, ← List.getD_eq_getElem?_getD, ih]
      by_cases c1 : P ≤ i ∧ i < P + M
      · rw [if_pos c1, if_pos ⟨c1.1, by omega⟩]
      · rw [if_neg c1, if_neg (by omega)]
/-- What a request makes of a volume: nothing, or a run of blocks written and stamped. -/
theorem do_changes (b z : Nat) (bs : List UInt8) (vs : List Int) (last : Int) (k : Nat) (p n : Int) (ds os : List UInt8) (num : Int) :
    (doBE b z bs last k p n ds os num = bs ∧ doVE b z bs vs last k p n ds os num = vs) ∨
    ∃ P M xs, P + M ≤ b ∧ xs.length = M * z ∧ doBE b z bs last k p n ds os num = splB bs (P * z) xs ∧ doVE b z bs vs last k p n ds os num = stampL vs P num M ∧ serB num = true := by
  unfold doBE doVE
  by_cases hE : doE b z last k p n ds.length os.length num = 0
  · rw [if_pos hE, if_pos hE]
    unfold doB doV
    by_cases hW : doW b z bs k p n ds.length os = true
    · rw [if_pos hW, if_pos hW]
      have hn : serB num = true ∧ ¬ num < last := by
        unfold doE at hE
        split at hE
        · assumption
        · cases hE
      have hf : ftE b z k p n ds.length os.length = 0 := by
        unfold doE at hE
        rw [if_pos hn] at hE
        exact hE
      unfold doW at hW
      simp only [Bool.and_eq_true, decide_eq_true_eq, Bool.or_eq_true] at hW
      obtain ⟨hc, hk⟩ := hW
      obtain ⟨p1, n1, hg⟩ := fit_good hf hc
      refine .inr ⟨p.toNat, doN k n, doP z k n ds, ?_, ?_, rfl, rfl, hn.1⟩
      · unfold doN
        rcases hg with rfl | ⟨rfl, g1, g2, g3⟩ | ⟨hkk, g1, g2, g3, g4⟩
        · rcases hk with (h | h) | ⟨h, _⟩ <;> cases h
        · rw [if_pos rfl]; omega
        · rw [if_neg (by omega)]; omega
      · unfold doN doP
        rcases hg with rfl | ⟨rfl, g1, g2, g3⟩ | ⟨hkk, g1, g2, g3, g4⟩
        · rcases hk with (h | h) | ⟨h, _⟩ <;> cases h
        · show ds.length = 1 * z; omega
        · by_cases h3 : k = 3
          · subst h3; show (List.replicate (n.toNat * z) (0 : UInt8)).length = n.toNat * z; rw [List.length_replicate]
          · have h2 : k = 2 := by
              rcases hk with (h | h) | ⟨h, _⟩
              · exact h
              · exact absurd h h3
              · omega
            have := g4 h2
            rw [if_neg h3, if_neg (by omega)]
            obtain ⟨M, rfl⟩ := Int.eq_ofNat_of_zero_le n1
            have : ((ds.length : Nat) : Int) = ((M * z : Nat) : Int) := by rw [this]; simp
            show ds.length = M * z
            exact Int.ofNat_inj.1 this
    · rw [if_neg hW, if_neg hW]; exact .inl ⟨rfl, rfl⟩
  · rw [if_neg hE, if_neg hE]; exact .inl ⟨rfl, rfl⟩
theorem blk_out {i P M r z : Nat} (hr : r < z) : (P * z ≤ i * z + r ∧ i * z + r < P * z + M * z) ↔ P ≤ i ∧ i < P + M := by
  constructor
  · rintro ⟨h1, h2⟩
    constructor
    · rcases Nat.lt_or_ge i P with h | h
      · have := Nat.mul_le_mul_right z h
        rw [Nat.succ_mul] at this
        omega
      · exact h
    · rcases Nat.lt_or_ge i (P + M) with h | h
      · exact h
      · have := Nat.mul_le_mul_right z h
        rw [Nat.add_mul] at this
        omega
  · rintro ⟨h1, h2⟩
    have a1 := Nat.mul_le_mul_right z h1
    have a2 := Nat.mul_le_mul_right z h2
    rw [Nat.succ_mul, Nat.add_mul] at a2
    omega
/-- Since a number n: each block is as it was, or bears a later version. -/
def Since (b z : Nat) (n : Int) (bs : List UInt8) (vs : List Int) (bs' : List UInt8) (vs' : List Int) : Prop :=
  ∀ i, i < b → (vs'.getD i 0 = vs.getD i 0 ∧ ∀ r, r < z → bs'.getD (i * z + r) 0 = bs.getD (i * z + r) 0) ∨ n < vs'.getD i 0
theorem Since.refl (b z : Nat) (n : Int) (bs : List UInt8) (vs : List Int) : Since b z n bs vs bs vs := fun i hi => .inl ⟨rfl, fun r hr => rfl⟩
theorem Since.step {b z N : Nat} {n : Int} {bs0 : List UInt8} {vs0 : List Int} {bs : List UInt8} {vs : List Int} (h : Since b z n bs0 vs0 bs vs) (hb : bs.length = N) (hv : vs.length = b) (hN : b * z = N) (last : Int) (k : Nat) (p m : Int) (ds os : List UInt8) {num : Int} (hn : n < num) :
    Since b z n bs0 vs0 (doBE b z bs last k p m ds os num) (doVE b z bs vs last k p m ds os num) := by
  rcases do_changes b z bs vs last k p m ds os num with ⟨e1, e2⟩ | ⟨P, M, xs, hPM, hx, e1, e2, _⟩
  · rw [e1, e2]; exact h
  · rw [e1, e2]
    intro i hi
    rw [stampL_getD vs P num M (by omega)]
    by_cases c : P ≤ i ∧ i < P + M
    · rw [if_pos c]; exact .inr hn
    · rw [if_neg c]
      rcases h i hi with ⟨h1, h2⟩ | h1
      · refine .inl ⟨h1, fun r hr => ?_⟩
        have hfit : P * z + xs.length ≤ bs.length := by
          rw [hx, hb, ← hN, ← Nat.add_mul]; exact Nat.mul_le_mul_right z hPM
        rw [splB_getD hfit, hx, if_neg (by rw [blk_out hr]; exact c)]
        exact h2 r hr
      · exact .inr h1
theorem ext_getD {α : Type} {l m : List α} {x : α} (hl : l.length = m.length) (h : ∀ j, j < l.length → l.getD j x = m.getD j x) : l = m := by
  apply List.ext_getElem hl
  intro j h1 h2
  have := h j h1
  rw [List.getD_eq_getElem?_getD, List.getD_eq_getElem?_getD, List.getElem?_eq_getElem h1, List.getElem?_eq_getElem h2] at this
  simpa using this
end Go.Proofs.YtkknkdjdneldlaaGreat
namespace Go.Proofs.YtkknkdjdneldlaaGreat
set_option maxRecDepth 20000
open Go.RowKit Go.Px
set_option linter.unusedVariables false
theorem seg_spl {bs xs : List UInt8} {b z N q i : Nat} (hl : bs.length = N) (hN : b * z = N) (hq : q < b) (hi : i < b) (hx : xs.length = z) : segB (splB bs (q * z) xs) i 1 z = if i = q then xs else segB bs i 1 z := by
  have hqz : q * z + z ≤ N := by rw [← hN]; have := Nat.mul_le_mul_right z (show q + 1 ≤ b by omega); rw [Nat.add_mul, Nat.one_mul] at this; exact this
  have hiz : i * z + z ≤ N := by rw [← hN]; have := Nat.mul_le_mul_right z (show i + 1 ≤ b by omega); rw [Nat.add_mul, Nat.one_mul] at this; exact this
  have hsl : (splB bs (q * z) xs).length = bs.length := splB_length (by omega)
  have e1 : (segB (splB bs (q * z) xs) i 1 z).length = z := by unfold segB; rw [List.length_take, List.length_drop, hsl, hl, Nat.one_mul]; omega
  have e2 : (segB bs i 1 z).length = z := by unfold segB; rw [List.length_take, List.length_drop, hl, Nat.one_mul]; omega
  have sg : ∀ (l : List UInt8) (j : Nat), j < z → (segB l i 1 z).getD j 0 = l.getD (i * z + j) 0 := by
    intro l j hj
    unfold segB
    simp only [List.getD_eq_getElem?_getD, List.getElem?_take, List.getElem?_drop, Nat.one_mul, if_pos hj]
  refine ext_getD (x := 0) (by split <;> omega) fun j hj => ?_
  rw [e1] at hj
  rw [sg _ _ hj, splB_getD (by omega), hx]
  have hbo := blk_out (i := i) (P := q) (M := 1) hj
  rw [Nat.one_mul] at hbo
  by_cases h : i = q
  · subst h
    rw [if_pos ⟨by omega, by omega⟩, if_pos rfl]
    congr 1; omega
  · rw [if_neg (fun hh => by have := hbo.1 hh; omega), if_neg h, sg _ _ hj]
section
variable {w w' : World} {lo rv gb gv cb cv b z N : Nat} {rows sv : List Value} {bs : List UInt8} {vs : List Int} {last : Int}
theorem RVolIs.setRow (h : RVolIs w lo rv gb gv cb cv b z N rows sv bs vs last) {q : Nat} (hq : q < b) {A : Option Addr} {c : Nat} {xs : List UInt8} (hx : xs.length = z) (hc : z ≤ c ∧ c ≤ 9223372036854775807) (hA : Rd w A (bys xs)) (hf : ∀ a, A = some a → lo ≤ a.block ∧ a.block ≠ rv ∧ a.block ≠ gb ∧ a.block ≠ gv) :
    RVolIs (w.setCell ⟨gb, q, none⟩ (.slice A z c)) lo rv gb gv cb cv b z N (rows.set q (.slice A z c)) sv (splB bs (q * z) xs) vs last := by
  have hU : Upd gb gb gb w (w.setCell ⟨gb, q, none⟩ (.slice A z c)) := Upd.setV w q _
  have hqz : q * z + z ≤ N := by rw [← h.hN]; have := Nat.mul_le_mul_right z (show q + 1 ≤ b by omega); rw [Nat.add_mul, Nat.one_mul] at this; exact this
  have hql : q < rows.length := by obtain ⟨_, _, k1, _⟩ := h.cells q hq; exact (List.getElem?_eq_some_iff.1 k1).1
  exact { h with
    blk := h.blk.apart h.rb q _
    row := h.row.set q _
    ver := h.ver.apart (Ne.symm h.bg) q _
    lb := by rw [splB_length (by rw [hx, h.lb]; omega)]; exact h.lb
    cells := fun i hi => by
      rw [seg_spl h.lb h.hN hq hi hx]
      by_cases e : i = q
      · subst e
        rw [if_pos rfl]
        exact ⟨A, c, by rw [List.getElem?_set_self hql], hc.1, hc.2, Rd.upd hA hU (fun a ha => ⟨(hf a ha).2.2.1, (hf a ha).2.2.1, (hf a ha).2.2.1⟩), hf⟩
      · obtain ⟨A', c', k1, k2, k3, k4, k5⟩ := h.cells i hi
        rw [if_neg e]
        exact ⟨A', c', by rw [List.getElem?_set_ne (Ne.symm e)]; exact k1, k2, k3, Rd.upd k4 hU (fun a ha => ⟨(k5 a ha).2.2.1, (k5 a ha).2.2.1, (k5 a ha).2.2.1⟩), k5⟩ }
theorem RVolIs.setVer (h : RVolIs w lo rv gb gv cb cv b z N rows sv bs vs last) {q : Nat} (hq : q < b) (x : Int) :
    RVolIs (w.setCell ⟨gv, q, none⟩ (.int .i64 x)) lo rv gb gv cb cv b z N rows sv bs (vs.set q x) last := by
  have hU : Upd gv gv gv w (w.setCell ⟨gv, q, none⟩ (.int .i64 x)) := Upd.setV w q _
  exact { h with
    blk := h.blk.apart h.rg q _
    row := h.row.apart h.bg q _
    ver := by
      have := h.ver.set q (.int .i64 x)
      rwa [List.set_append_left _ _ (by rw [ints_length, h.lv]; exact hq), ← ints_set] at this
    lv := by rw [List.length_set]; exact h.lv
    cells := fun i hi => by
      obtain ⟨A', c', k1, k2, k3, k4, k5⟩ := h.cells i hi
      exact ⟨A', c', k1, k2, k3, Rd.upd k4 hU (fun a ha => ⟨(k5 a ha).2.2.2, (k5 a ha).2.2.2, (k5 a ha).2.2.2⟩), k5⟩ }
theorem RVolIs.setLast (h : RVolIs w lo rv gb gv cb cv b z N rows sv bs vs last) (x : Int) :
    RVolIs (w.setCell ⟨rv, 4, none⟩ (.int .i64 x)) lo rv gb gv cb cv b z N rows sv bs vs x := by
  have hU : Upd rv rv rv w (w.setCell ⟨rv, 4, none⟩ (.int .i64 x)) := Upd.setV w 4 _
  exact { h with
    blk := h.blk.set 4 (.int .i64 x)
    row := h.row.apart (Ne.symm h.rb) 4 _
    ver := h.ver.apart (Ne.symm h.rg) 4 _
    cells := fun i hi => by
      obtain ⟨A', c', k1, k2, k3, k4, k5⟩ := h.cells i hi
      exact ⟨A', c', k1, k2, k3, Rd.upd k4 hU (fun a ha => ⟨(k5 a ha).2.1, (k5 a ha).2.1, (k5 a ha).2.1⟩), k5⟩ }
end
def RowsNew (b z B : Nat) (rows rows' : List Value) : Prop := ∀ i A c, i < b → rows'[i]? = some (.slice A z c) → rows[i]? = some (.slice A z c) ∨ ∀ a, A = some a → B ≤ a.block
theorem RowsNew.refl (b z B : Nat) (rows : List Value) : RowsNew b z B rows rows := fun i A c hi h => .inl h
theorem RowsNew.mono {b z B B' : Nat} {rows rows' : List Value} (h : RowsNew b z B rows rows') (hB : B' ≤ B) : RowsNew b z B' rows rows' := fun i A c hi h' => (h i A c hi h').imp id (fun h2 a ha => Nat.le_trans hB (h2 a ha))
theorem RowsNew.set {b z B : Nat} {rows rows' : List Value} (h : RowsNew b z B rows rows') {q : Nat} {A : Option Addr} {c : Nat} (hA : ∀ a, A = some a → B ≤ a.block) : RowsNew b z B rows (rows'.set q (.slice A z c)) := by
  intro i A' c' hi h'
  by_cases e : q = i
  · subst e
    by_cases hl : q < rows'.length
    · rw [List.getElem?_set_self hl] at h'
      injection h' with h'
      injection h' with e1 e2 e3
      subst e1
      exact .inr hA
    · rw [List.set_eq_of_length_le (by omega)] at h'
      exact h q A' c' hi h'
  · rw [List.getElem?_set_ne e] at h'
    exact h i A' c' hi h'
end Go.Proofs.YtkknkdjdneldlaaGreat
namespace Go.Proofs.YtkknkdjdneldlaaGreat
set_option maxRecDepth 20000
open Go.RowKit Go.Px
set_option linter.unusedVariables false
section
variable {w w' : World} {lo rv gb gv cb cv b z N : Nat} {rows sv : List Value} {bs : List UInt8} {vs : List Int} {last : Int}
theorem RVolIs.far (h : RVolIs w lo rv gb gv cb cv b z N rows sv bs vs last) {g : Nat} (h1 : g ≠ rv) (h2 : g ≠ gb) (h3 : g ≠ gv) (h4 : ∀ i A c, i < b → rows[i]? = some (.slice A z c) → ∀ a, A = some a → a.block ≠ g) (j : Nat) (u : Value) :
    RVolIs (w.setCell ⟨g, j, none⟩ u) lo rv gb gv cb cv b z N rows sv bs vs last := by
  have hU : Upd g g g w (w.setCell ⟨g, j, none⟩ u) := Upd.setV w j u
  exact { h with
    blk := h.blk.apart (Ne.symm h1) j u
    row := h.row.apart (Ne.symm h2) j u
    ver := h.ver.apart (Ne.symm h3) j u
    cells := fun i hi => by
      obtain ⟨A', c', k1, k2, k3, k4, k5⟩ := h.cells i hi
      exact ⟨A', c', k1, k2, k3, Rd.upd k4 hU (fun a ha => ⟨h4 i A' c' hi k1 a ha, h4 i A' c' hi k1 a ha, h4 i A' c' hi k1 a ha⟩), k5⟩ }
end
end Go.Proofs.YtkknkdjdneldlaaGreat
namespace Go.Proofs.YtkknkdjdneldlaaGreat
set_option maxRecDepth 20000
open Go.RowKit Go.Px
set_option linter.unusedVariables false
theorem Upd.drewN {v r s : Nat} {w w' : World} (h : Upd v r s w w') (q : Nat) : Upd v r s w (w'.drewN q) := ⟨h.os, h.tape, h.output, h.size, h.blk⟩
theorem RVolIs.drewN {w : World} {lo rv gb gv cb cv b z N : Nat} {rows sv : List Value} {bs : List UInt8} {vs : List Int} {last : Int} (h : RVolIs w lo rv gb gv cb cv b z N rows sv bs vs last) (q : Nat) : RVolIs (w.drewN q) lo rv gb gv cb cv b z N rows sv bs vs last := by
  have hc : ∀ i, i < b → ∃ A c, rows[i]? = some (.slice A z c) ∧ z ≤ c ∧ c ≤ 9223372036854775807 ∧ Rd (w.drewN q) A (bys (segB bs i 1 z)) ∧ ∀ a, A = some a → lo ≤ a.block ∧ a.block ≠ rv ∧ a.block ≠ gb ∧ a.block ≠ gv := fun i hi => by
    obtain ⟨A, c, k1, k2, k3, k4, k5⟩ := h.cells i hi
    exact ⟨A, c, k1, k2, k3, k4.drewN q, k5⟩
  exact { h with blk := h.blk, row := h.row, ver := h.ver, cells := hc }
end Go.Proofs.YtkknkdjdneldlaaGreat
namespace Go.Proofs.YtkknkdjdneldlaaGreat
set_option maxRecDepth 20000
open Go.RowKit Go.Px
set_option linter.unusedVariables false
theorem rd_lt3 {w : World} {A : Option Addr} {ds : List UInt8} (h : Rd w A (bys ds)) (hne : ds ≠ []) : ∀ a, A = some a → a.block < w.heap.size := by
  intro a ha
  subst ha
  have h0 : 0 < (bys ds).length := by rw [bys_length]; exact List.length_pos_iff.2 hne
  have := h.at_ (List.getElem?_eq_getElem h0)
  have := World.block_lt_of_cell? w _ this
  rwa [add_block] at this
theorem PgRows.goodlt {w : World} {Q : Nat → Prop} {cs : List Value} {ps : List (Int × Int × List UInt8)} {b z : Nat} (h : PgRows w Q cs ps) (hg : Good b z ps) (hz : 1 ≤ z) : PgRows w (fun B => B < w.heap.size) cs ps :=
  ⟨h.1, fun j p hp => by
    obtain ⟨A, n, c, h1, h2, h3, h4, h5, h6, h7, h8⟩ := h.2 j p hp
    obtain ⟨P, _, _, hl, _⟩ := hg j p hp
    refine ⟨A, n, c, h1, h2, h3, h4, h5, h6, h7, fun a ha => ?_⟩
    exact rd_lt3 h7 (by intro e; rw [e] at hl; simp at hl; omega) a ha⟩
theorem rd_cells_lt {w : World} {A : Option Addr} {cs : List Value} {ps : List (Int × Int × List UInt8)} (hr : Rd w A cs) (hl : cs.length = 3 * ps.length) (hne : ps ≠ []) : ∀ a, A = some a → a.block < w.heap.size := by
  intro a ha
  subst ha
  have h0 : 0 < cs.length := by
    cases ps with
    | nil => exact absurd rfl hne
    | cons p r => simp at hl; omega
  have := hr.at_ (List.getElem?_eq_getElem h0)
  have := World.block_lt_of_cell? w _ this
  rwa [add_block] at this
end Go.Proofs.YtkknkdjdneldlaaGreat
namespace Go.Proofs.YtkknkdjdneldlaaGreat
set_option maxRecDepth 20000
open Go.RowKit Go.Px Go.ChangeShapes Go.WideShapes Go.ChangeAt Go.Joins Go.Deep
set_option linter.unusedVariables false
variable {H : Type} {enc : TypeId × Value → H}
/-- A step in memory: a request, a number, pages. -/
def StpAt (w : World) (a : Addr) : Prop := ∃ (k : Nat) (p n : Int) (D : Option Addr) (d dc : Nat) (ds : List UInt8) (O : Option Addr) (o oc : Nat) (os : List UInt8) (num : Int) (A : Option Addr) (m mc : Nat) (cs : List Value) (ps : List (Int × Int × List UInt8)), k < 256 ∧
  w.cell? a = some (.int .u8 k) ∧ w.cell? ⟨a.block, a.off + 1, none⟩ = some (.int .i64 p) ∧ w.cell? ⟨a.block, a.off + 2, none⟩ = some (.int .i64 n) ∧ w.cell? ⟨a.block, a.off + 3, none⟩ = some (.slice D d dc) ∧ w.cell? ⟨a.block, a.off + 4, none⟩ = some (.slice O o oc) ∧
  w.cell? ⟨a.block, a.off + 5, none⟩ = some (.int .i64 num) ∧ w.cell? ⟨a.block, a.off + 6, none⟩ = some (.slice A m mc) ∧
  ds.length = d ∧ d ≤ dc ∧ dc ≤ 9223372036854775807 ∧ os.length = o ∧ Rd w D (bys ds) ∧ Rd w O (bys os) ∧ ps.length = m ∧ m ≤ mc ∧ mc ≤ 9223372036854775807 ∧ Rd w A cs ∧ PgRows w (fun _ => True) cs ps
theorem StpAt.below {w w' : World} {a : Addr} (h : StpAt w a) (hb : Below w.heap.size w w') : StpAt w' a := by
  obtain ⟨k, p, n, D, d, dc, ds, O, o, oc, os, num, A, m, mc, cs, ps, h0, h1, h2, h3, h4, h5, h6, h7, h8, h9, i1, i2, i3, i4, i5, i6, i7, i8, i9⟩ := h
  exact ⟨k, p, n, D, d, dc, ds, O, o, oc, os, num, A, m, mc, cs, ps, h0, cell_below hb h1, cell_below hb h2, cell_below hb h3, cell_below hb h4, cell_below hb h5, cell_below hb h6, cell_below hb h7, h8, h9, i1, i2, i3.below hb, i4.below hb, i5, i6, i7, i8.below hb, i9.below hb⟩
/-- A row of n steps (of seven cells each). -/
def Stps2 (w : World) (A : Option Addr) (n : Nat) : Prop := ∀ i, i < n → ∃ a, A = some a ∧ StpAt w (a.add (i * 7))
theorem Stps2.below {w w' : World} {A : Option Addr} {n : Nat} (h : Stps2 w A n) (hb : Below w.heap.size w w') : Stps2 w' A n := fun i hi => by
  obtain ⟨a, rfl, h1⟩ := h i hi
  exact ⟨a, rfl, h1.below hb⟩
end Go.Proofs.YtkknkdjdneldlaaGreat
namespace Go.Proofs.YtkknkdjdneldlaaGreat
set_option maxRecDepth 20000
open Go.RowKit Go.Px
set_option linter.unusedVariables false
structure BothAt (B lo v r s rv gb gv : Nat) : Prop where
  h1 : B ≤ v ∧ B ≤ r ∧ B ≤ s
  h2 : v < lo ∧ r < lo ∧ s < lo
  h3 : lo ≤ rv ∧ lo ≤ gb ∧ lo ≤ gv
  h4 : B ≤ lo
end Go.Proofs.YtkknkdjdneldlaaGreat
namespace Go.Proofs.YtkknkdjdneldlaaGreat
set_option maxRecDepth 20000
open Go.RowKit Go.Px
set_option linter.unusedVariables false
/-- The rows that New has made so far: each in a block of its own, all zeros. -/
def ZRows (w : World) (B k z : Nat) (Bv Vv : Value) (bc : List Value) : Prop := bc.length = k ∧ ∀ i, i < k → ∃ A c, bc[i]? = some (.slice A z c) ∧ z ≤ c ∧ c ≤ 9223372036854775807 ∧ Rd w A (List.replicate z (.int .u8 0)) ∧ ∀ a, A = some a → B ≤ a.block ∧ a.block < w.heap.size ∧ Bv.ownBlock ≠ some a.block ∧ Vv.ownBlock ≠ some a.block
section
variable {w w' : World} {B k z : Nat} {Bv Vv : Value} {bc : List Value}
theorem ZRows.nil (w : World) (B z : Nat) (Bv Vv : Value) : ZRows w B 0 z Bv Vv [] := ⟨rfl, fun i hi => by omega⟩
theorem ZRows.below (h : ZRows w B k z Bv Vv bc) (hb : Below w.heap.size w w') : ZRows w' B k z Bv Vv bc :=
  ⟨h.1, fun i hi => by obtain ⟨A, c, h1, h2, h3, h4, h5⟩ := h.2 i hi; exact ⟨A, c, h1, h2, h3, h4.below hb, fun a ha => ⟨(h5 a ha).1, by have := (h5 a ha).2.1; have := hb.size; omega, (h5 a ha).2.2⟩⟩⟩
theorem ZRows.set (h : ZRows w B k z Bv Vv bc) {g : Nat} (hg : g < B) (j : Nat) (u : Value) : ZRows (w.setCell ⟨g, j, none⟩ u) B k z Bv Vv bc :=
  ⟨h.1, fun i hi => by obtain ⟨A, c, h1, h2, h3, h4, h5⟩ := h.2 i hi; exact ⟨A, c, h1, h2, h3, h4.upset (fun a ha => (h5 a ha).1) hg, fun a ha => ⟨(h5 a ha).1, by have := (h5 a ha).2.1; simpa using this, (h5 a ha).2.2⟩⟩⟩
theorem ZRows.push {X w5 : World} {Bv' : Value} (h : ZRows w B k z Bv Vv bc) (hX : Below w.heap.size w X) (hg : X.grownBy w5 Bv.ownBlock) (hb : ∀ g, Bv.ownBlock = some g → g < w.heap.size) (hv : ∀ g, Vv.ownBlock = some g → g < w.heap.size) (hB : B ≤ w.heap.size)
    (hz : Rd X (some ⟨w.heap.size, 0, none⟩) (List.replicate z (.int .u8 0))) (hsz : w.heap.size + 1 ≤ X.heap.size) (h5 : Bv'.ownBlock = Bv.ownBlock ∨ Bv'.ownBlock = some X.heap.size) (hz4 : z ≤ 4096) : ZRows w5 B (k + 1) z Bv' Vv (bc ++ [.slice (some ⟨w.heap.size, 0, none⟩) z z]) := by
  have hs5 := hg.size
  refine ⟨by simp [h.1], fun i hi => ?_⟩
  by_cases hlt : i < k
  · obtain ⟨A, c, h1, h2, h3, h4, h6⟩ := h.2 i hlt
    refine ⟨A, c, by rw [List.getElem?_append_left (by rw [h.1]; exact hlt)]; exact h1, h2, h3, (h4.below hX).grown hg (fun a ha => (h6 a ha).2.2.1.symm), fun a ha => ?_⟩
    obtain ⟨q1, q2, q3, q4⟩ := h6 a ha
    refine ⟨q1, by omega, ?_, q4⟩
    rcases h5 with h5 | h5
    · rw [h5]; exact q3
    · rw [h5]; intro e; injection e with e; omega
  · obtain rfl : i = k := by omega
    refine ⟨_, z, by rw [← h.1]; simp, Nat.le_refl _, by omega, hz.grown hg (fun a ha e => ?_), fun a ha => ?_⟩
    · injection ha with ha; subst ha
      have := hb _ e.symm
      simp at this
    · injection ha with ha; subst ha
      refine ⟨hB, by show w.heap.size < _; omega, ?_, ?_⟩
      · rcases h5 with h5 | h5
        · rw [h5]; intro e; have := hb _ e; simp at this
        · rw [h5]; intro e; injection e with e; have e2 : X.heap.size = w.heap.size := e; omega
      · intro e; have := hv _ e; simp at this
end
end Go.Proofs.YtkknkdjdneldlaaGreat
namespace Go.Proofs.YtkknkdjdneldlaaGreat
set_option maxRecDepth 20000
open Go.RowKit Go.Px
set_option linter.unusedVariables false
theorem lay_none (v : Nat) (A : Option Addr) (c : Nat) (w : World) : Calls Tryz.prog 120 #[.pointer (some ⟨v, 0, none⟩), .slice A 0 c] w fun e w' => e = .returned (.tuple #[]) ∧ w = w' := by
  go_enter Tryz.func120, Tryz.ntmps120
  go_wp2
  refine wp_loop_rounds 1 ?_
  rw [rounds_succ]
  go_wp2
  go_end0
  exact ⟨rfl, rfl⟩
theorem lay_any2 (w : World) (v r s b z N : Nat) (bs : List UInt8) (vs : List Int) (last : Int) (A : Option Addr) (n c : Nat) (cs : List Value) (ps : List (Int × Int × List UInt8)) (h : VolIs w v r s b z N bs vs last) (hn : ps.length = n) (hnc : n ≤ c) (hc : c ≤ 9223372036854775807)
    (hr : Rd w A cs) (hA : ps ≠ [] → ∀ a, A = some a → a.block ≠ v ∧ a.block ≠ r ∧ a.block ≠ s) (hP : PgRows w (fun B => B ≠ v ∧ B ≠ r ∧ B ≠ s) cs ps) (hg : Good b z ps) :
    Calls Tryz.prog 120 #[.pointer (some ⟨v, 0, none⟩), .slice A n c] w fun e w' => e = .returned (.tuple #[]) ∧ VolIs w' v r s b z N (layB z bs ps) (layV vs ps) (layL last ps) ∧ Upd v r s w w' := by
  by_cases hp : ps = []
  · subst hp
    obtain rfl : n = 0 := by simpa using hn.symm
    refine (lay_none v A c w).mono ?_
    rintro x w' ⟨rfl, rfl⟩
    exact ⟨rfl, h, Upd.of_below (Below.refl _ _)⟩
  · exact lay_any w v r s b z N bs vs last A n c cs ps h hn hnc hc hr (hA hp) hP hg
set_option maxHeartbeats 3200000 in
theorem load_okP (b z N : Nat) (w : World) (hb : 1 ≤ b ∧ b ≤ 4096) (hz : 1 ≤ z ∧ z ≤ 4096) (hN : b * z = N) (A : Option Addr) (n c : Nat) (cs : List Value) (ps : List (Int × Int × List UInt8)) (hn : ps.length = n) (hnc : n ≤ c) (hc : c ≤ 9223372036854775807) (hr : Rd w A cs) (hP : PgRows w (fun _ => True) cs ps) (hm : mpA b z (-1) ps = true) : Calls Tryz.prog 99 #[shp b z, .slice A n c] w fun e w' =>
    ∃ v r s, e = .returned (.tuple #[.pointer (some ⟨v, 0, none⟩), .int .i64 0]) ∧ VolIs w' v r s b z N (layB z (List.replicate N 0) ps) (layV (List.replicate b 0) ps) (layL 0 ps) ∧ Below w.heap.size w w' ∧ w.heap.size ≤ v ∧ w.heap.size ≤ r ∧ w.heap.size ≤ s ∧ v < w'.heap.size ∧ r < w'.heap.size ∧ s < w'.heap.size := by
  have hgd := good_of_mpA (by omega) hm
  have hPg := hP.goodlt hgd hz.1
  have hAl := fun hne => rd_cells_lt hr hP.1 hne
  have Hm := hide hm
  clear hm
  obtain ⟨hb1', hb2'⟩ := hb
  obtain ⟨hz1', hz2'⟩ := hz
  have hNb : N ≤ 16777216 := by rw [← hN]; exact Nat.mul_le_mul hb2' hz2'
  have hNI : (b : Int) * (z : Int) = (N : Int) := by rw [← hN]; simp
  obtain ⟨w0, hw0⟩ : ∃ w0, w.alloc (.cells #[.int .i64 b, .int .i64 z] 23) = w0 := ⟨_, rfl⟩
  obtain ⟨g, hg⟩ : ∃ g, w.heap.size = g := ⟨_, rfl⟩
  have hS : Blk w0 g [.int .i64 b, .int .i64 z] 23 := by rw [← hw0, ← hg]; exact Blk.new w [.int .i64 b, .int .i64 z] _
  have hb0 : Below w.heap.size w w0 := by rw [← hw0]; exact (Below.refl _ _).alloc (Nat.le_refl _) _
  have x0 := hS.cell (j := 0) rfl
  have x1 := hS.cell (j := 1) rfl
  have hwN : IntKind.i64.wrap (N : Int) = (N : Int) := IntWalk.i64_in _ (by omega)
  have hm1 := fun W => run_mkB (P := Tryz.prog) (t := 38) (e := 5) (z := .int .u8 0) (bytes := 1) Tryz.underlying38 (by kernel_rfl) rfl (N := N) (by omega) (by omega) W
  have hm2 := fun W => run_mkB (P := Tryz.prog) (t := 26) (e := 3) (z := .int .i64 0) (bytes := 8) Tryz.underlying26 (by kernel_rfl) rfl (N := b) (by omega) (by omega) W
  have HN := hide hN
  have HE := hide (show shE b z = 0 by unfold shE; rw [if_pos ⟨⟨by omega, by omega⟩, by omega, by omega⟩])
  clear hN
  go_enter Tryz.func99, Tryz.ntmps99
  go_wp2_with fail
  go_fit (shape_any b z w0)
  rw [HE.out]
  rintro x w1 ⟨rfl, hb1⟩
  have hb01 := hb0.trans (hb1.mono hb0.size)
  have hS1 := hS.below hb1
  clear x0 x1
  have x0 := hS1.cell (j := 0) rfl
  have x1 := hS1.cell (j := 1) rfl
  go_wp2_with fail
  go_fit (mayPages_any b z A n c cs ps _ w1 hn hnc hc (hr.below hb01) (hP.below hb01))
  rw [Hm.out]
  rintro x w2 ⟨rfl, hb2⟩
  have hb02 := hb01.trans (hb2.mono hb01.size)
  have hS2 := hS1.below hb2
  clear x0 x1
  have x0 := hS2.cell (j := 0) rfl
  have x1 := hS2.cell (j := 1) rfl
  have xa0 := fun o => (hS2.alloc o).cell (j := 0) rfl
  have xa1 := fun o => (hS2.alloc o).cell (j := 1) rfl
  have xb0 := fun o o' => ((hS2.alloc o).alloc o').cell (j := 0) rfl
  have xb1 := fun o o' => ((hS2.alloc o).alloc o').cell (j := 1) rfl
  go_wp2
  have xc0 := fun o o' o'' => (((hS2.alloc o).alloc o').alloc o'').cell (j := 0) rfl
  have xc1 := fun o o' o'' => (((hS2.alloc o).alloc o').alloc o'').cell (j := 1) rfl
  have S0 : w2.drew.cell? ⟨g, 0, none⟩ = some (.int .i64 b) ∧ w2.drew.cell? ⟨g, 1, none⟩ = some (.int .i64 z) := ⟨x0, x1⟩
  go_region_held_law (fun W => W.cell? ⟨g, 0, none⟩ = some (.int .i64 b) ∧ W.cell? ⟨g, 1, none⟩ = some (.int .i64 z)) (first | assumption | exact ⟨xa0 _, xa1 _⟩ | exact ⟨xb0 _ _, xb1 _ _⟩ | exact ⟨xc0 _ _ _, xc1 _ _ _⟩) (fail)
  all_goals
    clear hm1 hm2 xa0 xa1 xb0 xb1 xc0 xc1 hwN
    go_wp2_with fail
  · have hR := ((Blk.new w2 (List.replicate N (.int .u8 0)) 5).alloc (.cells (List.replicate b (.int .i64 0)).toArray 3)).alloc (.cells #[.int .i64 b, .int .i64 z, .slice (some ⟨w2.heap.size, 0, none⟩) N N, .slice (some ⟨w2.heap.size + 1, 0, none⟩) b b, .int .i64 0] 163)
    have hS' := (Blk.new (w2.alloc (.cells (List.replicate N (.int .u8 0)).toArray 5)) (List.replicate b (.int .i64 0)) 3).alloc (.cells #[.int .i64 b, .int .i64 z, .slice (some ⟨w2.heap.size, 0, none⟩) N N, .slice (some ⟨w2.heap.size + 1, 0, none⟩) b b, .int .i64 0] 163)
    have hV := Blk.new ((w2.alloc (.cells (List.replicate N (.int .u8 0)).toArray 5)).alloc (.cells (List.replicate b (.int .i64 0)).toArray 3)) [.int .i64 b, .int .i64 z, .slice (some ⟨w2.heap.size, 0, none⟩) N N, .slice (some ⟨w2.heap.size + 1, 0, none⟩) b b, .int .i64 0] 163
    rw [World.size_alloc] at hS'
    rw [World.size_alloc, World.size_alloc] at hV
    have hsz := hb02.size
    have hbX : Below w2.heap.size w2 ((((w2.alloc (.cells (List.replicate N (.int .u8 0)).toArray 5)).alloc (.cells (List.replicate b (.int .i64 0)).toArray 3)).alloc (.cells #[.int .i64 b, .int .i64 z, .slice (some ⟨w2.heap.size, 0, none⟩) N N, .slice (some ⟨w2.heap.size + 1, 0, none⟩) b b, .int .i64 0] 163)).drew) := ((((Below.refl _ _).alloc (Nat.le_refl _) _).alloc (by simp) _).alloc (by simp; omega) _).drew
    have hVol : VolIs ((((w2.alloc (.cells (List.replicate N (.int .u8 0)).toArray 5)).alloc (.cells (List.replicate b (.int .i64 0)).toArray 3)).alloc (.cells #[.int .i64 b, .int .i64 z, .slice (some ⟨w2.heap.size, 0, none⟩) N N, .slice (some ⟨w2.heap.size + 1, 0, none⟩) b b, .int .i64 0] 163)).drew) (w2.heap.size + 1 + 1) (w2.heap.size) (w2.heap.size + 1) b z N (List.replicate N 0) (List.replicate b 0) 0 := ⟨hV, by rw [bys_zeros]; exact hR, by rw [ints_zeros]; exact hS', by simp, by simp, HN.out, by omega, by omega, by omega, ⟨hb1', hb2'⟩, ⟨hz1', hz2'⟩⟩
    have hbX0 := hb02.trans (hbX.mono hb02.size)
    refine (lay_any2 _ (w2.heap.size + 1 + 1) (w2.heap.size) (w2.heap.size + 1) b z N (List.replicate N 0) (List.replicate b 0) 0 A n c cs ps hVol hn hnc hc (hr.below hbX0) (fun hne a ha => by have := hAl hne a ha; omega) ((hPg.below hbX0).keep (fun A xs hr _ => hr) (fun q hq => ⟨by omega, by omega, by omega⟩)) hgd).mono ?_
    rintro x w5 ⟨rfl, hV5, hU5⟩
    go_wp2
    go_ret2
    have h1 := hV5.blk.lt
    have h2 := hV5.row.lt
    have h3 := hV5.ver.lt
    exact ⟨w2.heap.size + 1 + 1, (w2.heap.size), (w2.heap.size + 1), rfl, hV5, hU5.below hbX0 hbX0.size (by omega) (by omega) (by omega), by omega, by omega, by omega, h1, h2, h3⟩
  · have hS' := ((Blk.new w2 (List.replicate b (.int .i64 0)) 3).alloc (.cells (List.replicate N (.int .u8 0)).toArray 5)).alloc (.cells #[.int .i64 b, .int .i64 z, .slice (some ⟨w2.heap.size + 1, 0, none⟩) N N, .slice (some ⟨w2.heap.size, 0, none⟩) b b, .int .i64 0] 163)
    have hR := (Blk.new (w2.alloc (.cells (List.replicate b (.int .i64 0)).toArray 3)) (List.replicate N (.int .u8 0)) 5).alloc (.cells #[.int .i64 b, .int .i64 z, .slice (some ⟨w2.heap.size + 1, 0, none⟩) N N, .slice (some ⟨w2.heap.size, 0, none⟩) b b, .int .i64 0] 163)
    have hV := Blk.new ((w2.alloc (.cells (List.replicate b (.int .i64 0)).toArray 3)).alloc (.cells (List.replicate N (.int .u8 0)).toArray 5)) [.int .i64 b, .int .i64 z, .slice (some ⟨w2.heap.size + 1, 0, none⟩) N N, .slice (some ⟨w2.heap.size, 0, none⟩) b b, .int .i64 0] 163
    rw [World.size_alloc] at hR
    rw [World.size_alloc, World.size_alloc] at hV
    have hsz := hb02.size
    have hbX : Below w2.heap.size w2 ((((w2.alloc (.cells (List.replicate b (.int .i64 0)).toArray 3)).alloc (.cells (List.replicate N (.int .u8 0)).toArray 5)).alloc (.cells #[.int .i64 b, .int .i64 z, .slice (some ⟨w2.heap.size + 1, 0, none⟩) N N, .slice (some ⟨w2.heap.size, 0, none⟩) b b, .int .i64 0] 163)).drew) := ((((Below.refl _ _).alloc (Nat.le_refl _) _).alloc (by simp) _).alloc (by simp; omega) _).drew
    have hVol : VolIs ((((w2.alloc (.cells (List.replicate b (.int .i64 0)).toArray 3)).alloc (.cells (List.replicate N (.int .u8 0)).toArray 5)).alloc (.cells #[.int .i64 b, .int .i64 z, .slice (some ⟨w2.heap.size + 1, 0, none⟩) N N, .slice (some ⟨w2.heap.size, 0, none⟩) b b, .int .i64 0] 163)).drew) (w2.heap.size + 1 + 1) (w2.heap.size + 1) (w2.heap.size) b z N (List.replicate N 0) (List.replicate b 0) 0 := ⟨hV, by rw [bys_zeros]; exact hR, by rw [ints_zeros]; exact hS', by simp, by simp, HN.out, by omega, by omega, by omega, ⟨hb1', hb2'⟩, ⟨hz1', hz2'⟩⟩
    have hbX0 := hb02.trans (hbX.mono hb02.size)
    refine (lay_any2 _ (w2.heap.size + 1 + 1) (w2.heap.size + 1) (w2.heap.size) b z N (List.replicate N 0) (List.replicate b 0) 0 A n c cs ps hVol hn hnc hc (hr.below hbX0) (fun hne a ha => by have := hAl hne a ha; omega) ((hPg.below hbX0).keep (fun A xs hr _ => hr) (fun q hq => ⟨by omega, by omega, by omega⟩)) hgd).mono ?_
    rintro x w5 ⟨rfl, hV5, hU5⟩
    go_wp2
    go_ret2
    have h1 := hV5.blk.lt
    have h2 := hV5.row.lt
    have h3 := hV5.ver.lt
    exact ⟨w2.heap.size + 1 + 1, (w2.heap.size + 1), (w2.heap.size), rfl, hV5, hU5.below hbX0 hbX0.size (by omega) (by omega) (by omega), by omega, by omega, by omega, h1, h2, h3⟩
theorem RVolIs.lower {w : World} {lo lo' rv gb gv cb cv b z N : Nat} {rows sv : List Value} {bs : List UInt8} {vs : List Int} {last : Int} (h : RVolIs w lo rv gb gv cb cv b z N rows sv bs vs last) (hl : lo' ≤ lo) : RVolIs w lo' rv gb gv cb cv b z N rows sv bs vs last := by
  obtain ⟨l1, l2, l3⟩ := h.hlo
  exact { h with
    hlo := ⟨by omega, by omega, by omega⟩
    cells := fun i hi => by
      obtain ⟨A, c, k1, k2, k3, k4, k5⟩ := h.cells i hi
      exact ⟨A, c, k1, k2, k3, k4, fun a ha => by have := k5 a ha; exact ⟨by omega, this.2⟩⟩ }
end Go.Proofs.YtkknkdjdneldlaaGreat
