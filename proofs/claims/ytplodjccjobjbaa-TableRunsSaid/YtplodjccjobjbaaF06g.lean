/- package table: Put, in two cases; what was done (written by gen_g6g.py). -/
import Derived.Test.YtplodjccjobjbaaF06d
import Derived.Test.YtplodjccjobjbaaCll
namespace Go.Proofs.Ytplodjccjobjbaa
open Go.RowKit Go.Px Go.Maps
set_option linter.unusedVariables false
set_option maxRecDepth 20000 in
set_option maxHeartbeats 3200000 in
theorem put_ok2 {w : World} {B t bm n : Nat} {D : DataW Value} {m : TM} (h : TabIs w B t bm n D m) (c s : Int) (k0 : Nat) (bs0 : List UInt8) (hask : ∀ W, TabIs W B t bm n D m → Calls Try.prog 18 #[.pointer (some ⟨t, 0, none⟩), .int .i64 c, .int .i64 s] W (AskIs B t bm n D m 1 0 k0 bs0 W))
    (k : Nat) (A : Option Addr) (d dc : Nat) (bs : List UInt8) (hk : k < 256) (hd : bs.length = d) (hdc : d ≤ dc) (hdm : dc ≤ 9223372036854775807) (hr : Rd w A (bys bs)) (hR : rsE k d = 0) (hd8 : d ≤ 262144) (hc1 : -9223372036854775808 ≤ c) (hc2 : c ≤ 9223372036854775807) (hn : n < 4096) : Calls Try.prog 17 #[.pointer (some ⟨t, 0, none⟩), .int .i64 c, .int .i64 s, resv k A d dc] w fun e w' => e = .returned (.int .i64 0) ∧
    (∃ A4 c4, TabIs w' B t bm (n + 1) (D.put (.int .i64 c) (.held (entV s k A4 d c4))) (tmPut m c s k bs) ∧ (∀ a, A4 = some a → w.heap.size ≤ a.block)) ∧ w.grownBy w' (some bm) ∧ w.heap.size ≤ w'.heap.size ∧ (∀ W : World, Below B W w → B ≤ w.heap.size → Below B W w') := by
  have HR := hide hR
  have tl := h.blk.lt
  have bl := h.own.lt
  obtain ⟨hB1, hB2⟩ := h.hB
  clear hR
  obtain ⟨g, hg⟩ : ∃ g, w.heap.size = g := ⟨_, rfl⟩
  obtain ⟨w0, hw0⟩ : ∃ x, w.alloc (.cells #[.int .u8 k, .slice A d dc] 33) = x := ⟨_, rfl⟩
  have hP : Blk w0 g [.int .u8 k, .slice A d dc] 33 := by rw [← hw0, ← hg]; exact Blk.new w [.int .u8 k, .slice A d dc] _
  have hb0 : Below w.heap.size w w0 := by rw [← hw0]; exact (Below.refl _ _).alloc (Nat.le_refl _) _
  have Hw0 := hide hw0
  have HA := hide hask
  have Hd := hide hd
  clear hw0 hask hd
  go_enter Try.func17, Try.ntmps17
  go_wp2_with fail
  rw [Hw0.out]
  go_fit (HA.out w0 (h.below hb0))
  rintro x w1 ⟨A1, dc1, rfl, hl1, hm1, hd1, hr1, ha1, hT1, hb1⟩
  have hb01 := hb0.trans (hb1.mono hb0.size)
  have hP1 := hP.below hb1
  have hbA : Below w1.heap.size w1 (w1.alloc (.cells #[.int .u8 k0, .slice A1 bs0.length dc1] 33)) := (Below.refl _ _).alloc (Nat.le_refl _) _
  have p0 := (hP1.alloc (.cells #[.int .u8 k0, .slice A1 bs0.length dc1] 33)).cell (j := 0) rfl
  have p1 := (hP1.alloc (.cells #[.int .u8 k0, .slice A1 bs0.length dc1] 33)).cell (j := 1) rfl
  have hb02 := hb01.trans (hbA.mono hb01.size)
  go_wp2_with fail
  go_fit (result_any k A d dc _ hk)
  rw [HR.out]
  rintro x w3 ⟨rfl, hb3⟩
  have hb03 := hb02.trans (hb3.mono hb02.size)
  have hT3 := h.below hb03
  have hP3 := (hP1.below hbA).below hb3
  have hr3 := hr.below hb03
  have sz3 := hb03.size
  clear p0 p1
  have p0 := hP3.cell (j := 0) rfl
  have p1 := hP3.cell (j := 1) rfl
  have t0 := hT3.blk.cell (j := 0) rfl
  go_wp2_with fail
  go_region_with (first
    | (go_at_call 28; refine (cloneR_any k A d dc bs _ Hd.out hd8 (by exact hr3.drew)).mono ?_; rintro x w4 ⟨A4, c4, rfl, hc4, hm4, hr4, ha4, hb4⟩; have hb4' : Below w3.heap.size w3 w4 := ⟨hb4.os, hb4.tape, hb4.output, hb4.size, hb4.block⟩; have hT4 := hT3.below hb4'; have t4 := hT4.blk.cell (j := 0) rfl; obtain ⟨w5, hst, hown5, hg5⟩ := hT4.own.update keyed_int Try.underlying56 (by unfold maxLen; omega) (key_ok hc1 hc2) (show rdV (entV s k A4 d c4) = some (.held (entV s k A4 d c4), []) from rfl)))
  all_goals
    have hA4 : ∀ a, A4 = some a → B ≤ a.block ∧ a.block ≠ t ∧ a.block ≠ bm := fun a ha => by have := ha4 a ha; have e : w3.drew.heap.size = w3.heap.size := rfl; omega
    have hT5 := hT4.put hk Hd.out hc4 hd8 hm4 hr4 hA4 hown5 hg5
    have hz5 := hT4.size_put c (entV s k A4 d c4)
    have sz4 := hb4'.size
    have sz5 := hg5.size
    go_wp2
    go_ret
    refine ⟨rfl, ⟨A4, c4, hT5, fun a ha => by have := ha4 a ha; have e : w3.drew.heap.size = w3.heap.size := rfl; omega⟩, grown_chain (grown_of_below hb03 (some bm)) (grown_chain (grown_of_below hb4' (some bm)) hg5 (.inl rfl)) (.inl rfl), by omega, fun W hW hBw => ?_⟩
    exact ((hW.trans (hb03.mono (by omega))).trans (hb4'.mono (by omega))).grown hg5 (by omega) (fun q hq => by injection hq with hq; omega)
/-- A request that is taken. -/
def Takes (m : TM) (c s : Int) (k d : Nat) : Prop := serB c = true ∧ serB s = true ∧ rsE k d = 0 ∧ d ≤ 262144 ∧ (m c = none ∨ ∃ s0 k0 b0, m c = some (s0, k0, b0) ∧ s0 < s)
theorem rsE_zero {k d : Nat} (h : rsE k d = 0) : d ≤ 262144 := by
  unfold rsE at h
  split at h
  · rename_i hp; unfold rsP at hp; omega
  · cases h
theorem put_two {w : World} {B t bm n : Nat} {D : DataW Value} {m : TM} (h : TabIs w B t bm n D m) (c s : Int) (k : Nat) (A : Option Addr) (d dc : Nat) (bs : List UInt8) (hk : k < 256) (hd : bs.length = d) (hdc : d ≤ dc) (hdm : dc ≤ 9223372036854775807) (hr : Rd w A (bys bs)) (hn : n < 4096) :
    (∃ E : Int, E ≠ 0 ∧ Calls Try.prog 17 #[.pointer (some ⟨t, 0, none⟩), .int .i64 c, .int .i64 s, resv k A d dc] w fun e w' => e = .returned (.int .i64 E) ∧ Below w.heap.size w w') ∨
    (Takes m c s k d ∧ Calls Try.prog 17 #[.pointer (some ⟨t, 0, none⟩), .int .i64 c, .int .i64 s, resv k A d dc] w fun e w' => e = .returned (.int .i64 0) ∧
      (∃ A4 c4, TabIs w' B t bm (n + 1) (D.put (.int .i64 c) (.held (entV s k A4 d c4))) (tmPut m c s k bs) ∧ (∀ a, A4 = some a → w.heap.size ≤ a.block)) ∧ w.grownBy w' (some bm) ∧ w.heap.size ≤ w'.heap.size ∧ (∀ W : World, Below B W w → B ≤ w.heap.size → Below B W w')) := by
  by_cases hcs : serB c = true ∧ serB s = true
  · obtain ⟨hc, hs⟩ := hcs
    obtain ⟨c1, c2⟩ := serB_out hc
    by_cases hR : rsE k d = 0
    · have hd8 := rsE_zero hR
      cases hm : m c with
      | none =>
        by_cases hN : 64 ≤ Maps.size D
        · exact .inl ⟨3, by decide, put_full h c s 4 0 [] (fun W hW => ask_full hW c s hc hs hm hN) k A d dc bs hk hd hdc hdm hr hR rfl⟩
        · exact .inr ⟨⟨hc, hs, hR, hd8, .inl hm⟩, put_ok2 h c s 0 [] (fun W hW => ask_new0 hW c s hc hs hm (by omega)) k A d dc bs hk hd hdc hdm hr hR hd8 (by omega) (by omega) hn⟩
      | some x =>
        obtain ⟨s0, k0, b0⟩ := x
        by_cases h1 : s0 < s
        · exact .inr ⟨⟨hc, hs, hR, hd8, .inr ⟨s0, k0, b0, hm, h1⟩⟩, put_ok2 h c s 0 [] (fun W hW => ask_new1 hW c s s0 k0 b0 hc hs hm h1) k A d dc bs hk hd hdc hdm hr hR hd8 (by omega) (by omega) hn⟩
        · by_cases h2 : s < s0
          · exact .inl ⟨1, by decide, put_arg h c s 3 0 [] (fun W hW => ask_old hW c s s0 k0 b0 hc hs hm h2) k A d dc bs hk hd hdc hdm hr hR (by decide) (by decide)⟩
          · obtain rfl : s0 = s := by omega
            exact .inl ⟨1, by decide, put_arg h c s0 2 k0 b0 (fun W hW => ask_again hW c s0 k0 b0 hc hs hm) k A d dc bs hk hd hdc hdm hr hR (by decide) (by decide)⟩
    · have hV : ∃ V k0 b0, ∀ W, TabIs W B t bm n D m → Calls Try.prog 18 #[.pointer (some ⟨t, 0, none⟩), .int .i64 c, .int .i64 s] W (AskIs B t bm n D m V 0 k0 b0 W) := by
        cases hm : m c with
        | none =>
          by_cases hN : 64 ≤ Maps.size D
          · exact ⟨4, 0, [], fun W hW => ask_full hW c s hc hs hm hN⟩
          · exact ⟨1, 0, [], fun W hW => ask_new0 hW c s hc hs hm (by omega)⟩
        | some x =>
          obtain ⟨s0, k0, b0⟩ := x
          by_cases h1 : s0 < s
          · exact ⟨1, 0, [], fun W hW => ask_new1 hW c s s0 k0 b0 hc hs hm h1⟩
          · by_cases h2 : s < s0
            · exact ⟨3, 0, [], fun W hW => ask_old hW c s s0 k0 b0 hc hs hm h2⟩
            · obtain rfl : s0 = s := by omega
              exact ⟨2, k0, b0, fun W hW => ask_again hW c s0 k0 b0 hc hs hm⟩
      obtain ⟨V, k0, b0, hask⟩ := hV
      exact .inl ⟨60, by decide, put_badR h c s V k0 b0 hask k A d dc bs hk hd hdc hdm hr hR⟩
  · have hbad : serB c = false ∨ (serB c = true ∧ serB s = false) := by
      cases h1 : serB c <;> cases h2 : serB s <;> simp_all
    exact .inl ⟨5, by decide, put_err h c s 0 5 0 [] (fun W hW => ask_bad hW c s hbad) k A d dc bs hk hd hdc hdm hr (by decide)⟩
abbrev Dne := List (Int × Int × Nat × List UInt8)
/-- Is there a later one of the same client? -/
def Later (L : Dne) (j : Nat) (c : Int) : Prop := ∃ j' e', j < j' ∧ L[j']? = some e' ∧ e'.1 = c
/-- What was done, and what the table knows of it. -/
def Dn (L : Dne) (m : TM) : Prop := ∀ (j : Nat) (e : Int × Int × Nat × List UInt8), L[j]? = some e → ∃ s k bs, m e.1 = some (s, k, bs) ∧ e.2.1 ≤ s ∧ (Later L j e.1 → e.2.1 < s) ∧ (¬ Later L j e.1 → (s, k, bs) = e.2)
theorem Dn.nil (m : TM) : Dn [] m := fun j e h => by simp at h
theorem Dn.push {L : Dne} {m : TM} (h : Dn L m) {c s : Int} {k d : Nat} {bs : List UInt8} (ht : Takes m c s k d) : Dn (L ++ [(c, s, k, bs)]) (tmPut m c s k bs) := by
  intro j e hj
  by_cases hlt : j < L.length
  · rw [List.getElem?_append_left hlt] at hj
    obtain ⟨s1, k1, b1, hm, hle, hl, hn⟩ := h j e hj
    by_cases hc : e.1 = c
    · have hls : e.2.1 < s := by
        rcases ht.2.2.2.2 with h0 | ⟨s0, k0, b0, h0, h1⟩
        · rw [hc] at hm; rw [h0] at hm; cases hm
        · rw [hc] at hm; rw [h0] at hm
          injection hm with hm
          injection hm with hm _
          omega
      refine ⟨s, k, bs, by rw [hc]; exact tmPut_same _ _ _ _ _, by omega, fun _ => hls, fun hno => absurd ⟨L.length, (c, s, k, bs), hlt, by simp, hc.symm⟩ hno⟩
    · have hiff : Later (L ++ [(c, s, k, bs)]) j e.1 ↔ Later L j e.1 := by
        constructor
        · rintro ⟨j', e', hj', he', hc'⟩
          by_cases hl' : j' < L.length
          · rw [List.getElem?_append_left hl'] at he'; exact ⟨j', e', hj', he', hc'⟩
          · have hj2 : j' = L.length := by have := (List.getElem?_eq_some_iff.1 he').1; simp at this; omega
            subst hj2
            simp at he'
            subst he'
            exact absurd hc'.symm hc
        · rintro ⟨j', e', hj', he', hc'⟩
          have hl' := (List.getElem?_eq_some_iff.1 he').1
          exact ⟨j', e', hj', by rw [List.getElem?_append_left hl']; exact he', hc'⟩
      exact ⟨s1, k1, b1, by rw [tmPut_other _ _ _ _ hc]; exact hm, hle, fun hL => hl (hiff.1 hL), fun hL => hn (fun hh => hL (hiff.2 hh))⟩
  · have hj2 : j = L.length := by have := (List.getElem?_eq_some_iff.1 hj).1; simp at this; omega
    subst hj2
    simp at hj
    subst hj
    refine ⟨s, k, bs, tmPut_same _ _ _ _ _, Int.le_refl _, fun hL => ?_, fun _ => rfl⟩
    obtain ⟨j', e', hj', he', _⟩ := hL
    have := (List.getElem?_eq_some_iff.1 he').1
    simp at this
    omega
theorem rd_ltB {w : World} {A : Option Addr} {ds : List UInt8} (h : Rd w A (bys ds)) (hne : ds ≠ []) : ∀ a, A = some a → a.block < w.heap.size := by
  intro a ha
  subst ha
  have h0 : 0 < (bys ds).length := by rw [bys_length]; exact List.length_pos_iff.2 hne
  have := h.at_ (List.getElem?_eq_getElem h0)
  have := World.block_lt_of_cell? w _ this
  rwa [add_block] at this
theorem rd_loB {w w' : World} {B : Nat} {A : Option Addr} {bs : List UInt8} (hr : Rd w A (bys bs)) (hb : Below B w w') (hA : bs ≠ [] → ∀ a, A = some a → a.block < B) : Rd w' A (bys bs) := by
  cases bs with
  | nil => exact Rd.nil
  | cons x xs => exact hr.lo (hA (by simp)) hb
/-- The cells of the calls that were done. -/
def ClAt (w : World) (B : Nat) (cs : List Value) (j : Nat) (e : Int × Int × Nat × List UInt8) : Prop :=
  ∃ dn A d dc, cs[5 * j]? = some (.bool dn) ∧ cs[5 * j + 1]? = some (.int .i64 e.1) ∧ cs[5 * j + 2]? = some (.int .i64 e.2.1) ∧ cs[5 * j + 3]? = some (.int .u8 e.2.2.1) ∧ cs[5 * j + 4]? = some (.slice A d dc) ∧
    e.2.2.1 < 256 ∧ e.2.2.2.length = d ∧ Rd w A (bys e.2.2.2) ∧ serB e.1 = true ∧ serB e.2.1 = true ∧ (e.2.2.2 ≠ [] → ∀ a, A = some a → a.block < B)
def ClRows (w : World) (B : Nat) (cs : List Value) (L : Dne) : Prop := cs.length = 5 * L.length ∧ ∀ j e, L[j]? = some e → ClAt w B cs j e
theorem ClRows.nil {w : World} {B : Nat} : ClRows w B [] [] := ⟨rfl, fun j e h => by simp at h⟩
theorem ClRows.keep {w w' : World} {B : Nat} {cs : List Value} {L : Dne} (h : ClRows w B cs L) (hb : Below B w w') : ClRows w' B cs L :=
  ⟨h.1, fun j e he => by
    obtain ⟨dn, A, d, dc, h1, h2, h3, h4, h5, h6, h7, h8, h9, h10, h11⟩ := h.2 j e he
    exact ⟨dn, A, d, dc, h1, h2, h3, h4, h5, h6, h7, rd_loB h8 hb h11, h9, h10, h11⟩⟩
theorem ClRows.snoc {w : World} {B : Nat} {cs : List Value} {L : Dne} (h : ClRows w B cs L) {dn : Bool} {c s : Int} {k : Nat} {A : Option Addr} {d dc : Nat} {bs : List UInt8} (hk : k < 256) (hd : bs.length = d) (hr : Rd w A (bys bs)) (hc : serB c = true) (hs : serB s = true) (hA : bs ≠ [] → ∀ a, A = some a → a.block < B) :
    ClRows w B (cs ++ [.bool dn, .int .i64 c, .int .i64 s, .int .u8 k, .slice A d dc]) (L ++ [(c, s, k, bs)]) := by
  have hl := h.1
  refine ⟨by simp [hl]; omega, fun j e he => ?_⟩
  by_cases hlt : j < L.length
  · rw [List.getElem?_append_left hlt] at he
    obtain ⟨dn', A', d', dc', h1, h2, h3, h4, h5, h6⟩ := h.2 j e he
    exact ⟨dn', A', d', dc', by rw [List.getElem?_append_left (by omega)]; exact h1, by rw [List.getElem?_append_left (by omega)]; exact h2, by rw [List.getElem?_append_left (by omega)]; exact h3, by rw [List.getElem?_append_left (by omega)]; exact h4, by rw [List.getElem?_append_left (by omega)]; exact h5, h6⟩
  · have hj : j = L.length := by have := (List.getElem?_eq_some_iff.1 he).1; simp at this; omega
    subst hj
    simp at he
    subst he
    refine ⟨dn, A, d, dc, ?_, ?_, ?_, ?_, ?_, hk, hd, hr, hc, hs, hA⟩
    · rw [← hl]; simp
    · rw [← hl, List.getElem?_append_right (by omega), show cs.length + 1 - cs.length = 1 by omega]; rfl
    · rw [← hl, List.getElem?_append_right (by omega), show cs.length + 2 - cs.length = 2 by omega]; rfl
    · rw [← hl, List.getElem?_append_right (by omega), show cs.length + 3 - cs.length = 3 by omega]; rfl
    · rw [← hl, List.getElem?_append_right (by omega), show cs.length + 4 - cs.length = 4 by omega]; rfl
theorem rd5_0 {w : World} {a : Addr} {cs : List Value} (hat : ∀ j u, cs[j]? = some u → w.cell? (a.add j) = some u) {k : Nat} {u : Value} (h : cs[5 * k]? = some u) : w.cell? (a.add (k * 5)) = some u := by
  rw [Nat.mul_comm]; exact hat _ _ h
theorem rd5_S {w : World} {a : Addr} {cs : List Value} (hat : ∀ j u, cs[j]? = some u → w.cell? (a.add j) = some u) {k i : Nat} {u : Value} (h : cs[5 * k + (i + 1)]? = some u) : w.cell? ⟨(a.add (k * 5)).block, (a.add (k * 5)).off + (i + 1), none⟩ = some u := by
  have := hat _ _ h
  have e : a.add (5 * k + (i + 1)) = ⟨(a.add (k * 5)).block, (a.add (k * 5)).off + (i + 1), none⟩ := by
    unfold Addr.add
    rw [if_neg (by omega)]
    split
    · rename_i h0
      rw [show 5 * k + (i + 1) = i + 1 by omega]
    · show (⟨a.block, a.off + (5 * k + (i + 1)), none⟩ : Addr) = ⟨a.block, a.off + k * 5 + (i + 1), none⟩
      rw [show a.off + (5 * k + (i + 1)) = a.off + k * 5 + (i + 1) by omega]
  rw [← e]; exact this
/-- What the entries point at lies apart from a block. -/
def Apart (D : DataW Value) (m : TM) (x : Option Nat) : Prop := ∀ c s k bs A d dc, m c = some (s, k, bs) → D.atKey (.int .i64 c) (.held zeroE) = .held (entV s k A d dc) → bs ≠ [] → ∀ a, A = some a → some a.block ≠ x
theorem TabIs.grown {w w' : World} {B t bm n : Nat} {D : DataW Value} {m : TM} (h : TabIs w B t bm n D m) {x : Option Nat} (hg : w.grownBy w' x) (h1 : some t ≠ x) (h2 : some bm ≠ x) (hap : Apart D m x) : TabIs w' B t bm n D m :=
  { blk := (hg.block t h.blk.lt h1).trans h.blk
    own := h.own.kept hg h2
    at_ := fun c => by
      have := h.at_ c
      cases hm : m c with
      | none => rw [hm] at this; exact this
      | some y =>
        obtain ⟨s, k, bs⟩ := y
        rw [hm] at this
        obtain ⟨q0, q8, A, d, dc, q1, q2, q3, q4, q5, q6, q7⟩ := this
        refine ⟨q0, q8, A, d, dc, q1, q2, q3, q4, q5, ?_, q7⟩
        cases bs with
        | nil => exact Rd.nil
        | cons b bs => exact q6.grown hg (hap c s k _ A d dc hm q1 (by simp))
    ne := h.ne
    hB := h.hB }
theorem Apart.put {w : World} {B t bm n : Nat} {D : DataW Value} {m : TM} (h : TabIs w B t bm n D m) {x : Option Nat} (hap : Apart D m x) {c s : Int} {k : Nat} {bs : List UInt8} {A : Option Addr} {d dc : Nat} (hx : ∀ g, x = some g → g < w.heap.size) (hA : ∀ a, A = some a → w.heap.size ≤ a.block) : Apart (D.put (.int .i64 c) (.held (entV s k A d dc))) (tmPut m c s k bs) x := by
  intro c' s' k' bs' A' d' dc' hm hat hne a ha
  by_cases hc : c' = c
  · subst hc
    rw [atKey_put_same h.own.isMap (keyLit c')] at hat
    injection hat with hat
    injection hat with hat
    have hat2 := congrArg Array.toList hat
    simp at hat2
    obtain ⟨_, _, hat3, _, _⟩ := hat2
    subst hat3
    intro e
    have := hx _ e.symm
    have := hA a ha
    omega
  · rw [tmPut_other _ _ _ _ hc] at hm
    rw [atKey_put_other (by intro e; injection e with _ e; exact hc e)] at hat
    exact hap c' s' k' bs' A' d' dc' hm hat hne a ha
end Go.Proofs.Ytplodjccjobjbaa
