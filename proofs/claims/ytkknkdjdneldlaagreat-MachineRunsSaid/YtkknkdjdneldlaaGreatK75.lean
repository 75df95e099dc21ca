/- Texts joined (shake.py). -/
import Derived.Deep.RegionHeldLaw
import Derived.Test.YtkknkdjdneldlaaGreatK72
import Derived.Test.YtkknkdjdneldlaaGreatK74
namespace Go.Proofs.YtkknkdjdneldlaaGreat
set_option maxRecDepth 20000
open Go.RowKit Go.Px
set_option linter.unusedVariables false
theorem rd_lt3 {w : World} {A : Option Addr} {ds : List UInt8} (h : Rd w A (bys ds)) (hne : ds ≠ []) : ∀ a, A = some a → a.block < w.heap.size := by
  intro a ha
  subst ha
  have h0 : 0 < (bys ds).length := by rw [bys_length]; exact List.length_pos_iff.2 hne
  have := h.at_ (List.getElem?_eq_getElem h0)
  have := World.block_lt_of_cell? w _ this
  rwa [add_block] at this
theorem RVolIs.drewN2 {w : World} {lo rv gb gv cb cv b z N : Nat} {rows sv : List Value} {bs : List UInt8} {vs : List Int} {last : Int} (h : RVolIs w lo rv gb gv cb cv b z N rows sv bs vs last) (q : Nat) : RVolIs (w.drewN q) lo rv gb gv cb cv b z N rows sv bs vs last := by
  have hc : ∀ i, i < b → ∃ A c, rows[i]? = some (.slice A z c) ∧ z ≤ c ∧ c ≤ 9223372036854775807 ∧ Rd (w.drewN q) A (bys (segB bs i 1 z)) ∧ ∀ a, A = some a → lo ≤ a.block ∧ a.block ≠ rv ∧ a.block ≠ gb ∧ a.block ≠ gv := fun i hi => by
    obtain ⟨A, c, k1, k2, k3, k4, k5⟩ := h.cells i hi
    exact ⟨A, c, k1, k2, k3, k4.drewN q, k5⟩
  exact { h with blk := h.blk, row := h.row, ver := h.ver, cells := hc }
theorem Upd.drewN2 {v r s : Nat} {w w' : World} (h : Upd v r s w w') (q : Nat) : Upd v r s w (w'.drewN q) := ⟨h.os, h.tape, h.output, h.size, h.blk⟩
theorem PgRows.goodlt {w : World} {Q : Nat → Prop} {cs : List Value} {ps : List (Int × Int × List UInt8)} {b z : Nat} (h : PgRows w Q cs ps) (hg : Good b z ps) (hz : 1 ≤ z) : PgRows w (fun B => B < w.heap.size) cs ps :=
  ⟨h.1, fun j p hp => by
    obtain ⟨A, n, c, h1, h2, h3, h4, h5, h6, h7, h8⟩ := h.2 j p hp
    obtain ⟨P, _, _, hl, _⟩ := hg j p hp
    refine ⟨A, n, c, h1, h2, h3, h4, h5, h6, h7, fun a ha => ?_⟩
    exact rd_lt3 h7 (by intro e; rw [e] at hl; simp at hl; omega) a ha⟩
theorem rd_cells_lt {w : World} {A : Option Addr} {cs : List Value} {ps : List (Int × Int × List UInt8)} (hr : Rd w A cs) (hl : cs.length = 3 * ps.length) (hne : ps ≠ []) : ∀ a, A = some a → a.block < w.heap.size := by
  intro a ha
  subst ha
  have h0 : 0 < cs.length := by
    cases ps with
    | nil => exact absurd rfl hne
    | cons p r => simp at hl; omega
  have := hr.at_ (List.getElem?_eq_getElem h0)
  have := World.block_lt_of_cell? w _ this
  rwa [add_block] at this
set_option maxHeartbeats 6400000 in
theorem rpatch_ok (w : World) (lo rv gb gv cb cv b z N : Nat) (rows sv : List Value) (bs : List UInt8) (vs : List Int) (last : Int) (A : Option Addr) (n c : Nat) (cs : List Value) (ps : List (Int × Int × List UInt8)) (h : RVolIs w lo rv gb gv cb cv b z N rows sv bs vs last) (hn : ps.length = n) (hnc : n ≤ c) (hc : c ≤ 9223372036854775807)
    (hr : Rd w A cs) (hA : ps ≠ [] → ∀ a, A = some a → a.block ≠ rv ∧ a.block ≠ gb ∧ a.block ≠ gv) (hP : PgRows w (fun B => B ≠ rv ∧ B ≠ gb ∧ B ≠ gv) cs ps) (hm : mpA b z (-1) ps = true) :
    Calls Tryz.prog 62 #[.pointer (some ⟨rv, 0, none⟩), .slice A n c] w fun e w' => e = .returned (.int .i64 0) ∧ (∃ rows', RVolIs w' lo rv gb gv cb cv b z N rows' sv (layB z bs ps) (layV vs ps) (layL last ps)) ∧ Upd rv gb gv w w' := by
  have x0 := h.blk.cell (j := 0) rfl
  have x1 := h.blk.cell (j := 1) rfl
  obtain ⟨hz1, hz2⟩ := h.hz
  have Hm := hide hm
  have hgd := good_of_mpA (by omega) hm
  have hl := hP.1
  clear hm
  go_enter Tryz.func62, Tryz.ntmps62
  go_wp2_with fail
  go_fit (rlaid_any b z A n c cs ps _ w hn hnc hc hr hP)
  rw [Hm.out]
  rintro x w1 ⟨rfl, hb1⟩
  have hU1 := Upd.of_below (v := rv) (r := gb) (s := gv) hb1
  have hV1 := h.below hb1
  have hr1 := hr.below hb1
  have hP1 := hP.below hb1
  clear x0 x1
  go_wp2
  go_loopw [5] (fun i wr => ∃ (k : Nat) (rows' : List Value), k ≤ n ∧ i = .int .i64 k ∧ RVolIs wr lo rv gb gv cb cv b z N rows' sv (layB z bs (ps.take k)) (layV vs (ps.take k)) (layL last (ps.take k)) ∧ Upd rv gb gv w1 wr) (fun i _ => n - (intOf i).toNat)
  case atStart => exact ⟨0, rows, by omega, rfl, hV1, Upd.of_below (Below.refl _ _)⟩
  case round =>
    obtain ⟨k, rows', hk, rfl, hV, hU⟩ := hrel
    by_cases hlt : k < n
    · have hAn := hA (by rintro rfl; simp at hn; omega)
      obtain ⟨p, hp⟩ : ∃ p, ps[k]? = some p := ⟨_, List.getElem?_eq_getElem (by omega)⟩
      obtain ⟨A', m, c', h1, h2, h3, h4, h5, h6, h7, h8⟩ := (hP1.keep (w' := wr) (fun A xs hr hq => Rd.upd hr hU hq) (fun _ h => h)).2 k p hp
      have hrw := Rd.upd hr1 hU hAn
      obtain ⟨P, e1, hPb, hPz, hser⟩ := hgd k p hp
      have t1 : layB z bs (ps.take (k + 1)) = splB (layB z bs (ps.take k)) (P * z) p.2.2 := by unfold layB; rw [take_snoc hp, List.foldl_append, List.foldl_cons, List.foldl_nil, e1]; rfl
      have t2 : layV vs (ps.take (k + 1)) = (layV vs (ps.take k)).set P p.2.1 := by unfold layV; rw [take_snoc hp, List.foldl_append, List.foldl_cons, List.foldl_nil, e1]; rfl
      have t3 : layL last (ps.take (k + 1)) = max (layL last (ps.take k)) p.2.1 := by unfold layL; rw [take_snoc hp, List.foldl_append, List.foldl_cons, List.foldl_nil]
      obtain ⟨p1, p2, pd⟩ := p
      simp only at e1 h1 h2 h4 h7 hPz t1 t2 t3
      subst e1
      obtain ⟨xb, hxb⟩ : ∃ x, layB z bs (ps.take k) = x := ⟨_, rfl⟩
      obtain ⟨xv, hxv⟩ : ∃ x, layV vs (ps.take k) = x := ⟨_, rfl⟩
      obtain ⟨xl, hxl⟩ : ∃ x, layL last (ps.take k) = x := ⟨_, rfl⟩
      rw [hxb] at t1
      rw [hxv] at t2
      rw [hxl] at t3
      rw [hxb, hxv, hxl] at hV
      have T1 := hide t1
      have T2 := hide t2
      have T3 := hide t3
      have hmz : m = z := by omega
      have H4 := hide h4
      have Hmz := hide hmz
      have hin : P + 1 ≤ b := hPb
      obtain ⟨a, rfl, hat⟩ := hrw.some_of (xs := cs) (by omega)
      have y0 := rd3_0 hat h1
      have y1 := rd3_S (i := 0) hat h2
      have y2 := rd3_S (i := 1) hat h3
      have S0 : (wr.drew).cell? (a.add (k * 3)) = some (.int .i64 P) ∧ (wr.drew).cell? ⟨(a.add (k * 3)).block, (a.add (k * 3)).off + 1, none⟩ = some (.int .i64 p2) ∧ (wr.drew).cell? ⟨(a.add (k * 3)).block, (a.add (k * 3)).off + 2, none⟩ = some (.slice A' m c') := ⟨y0, y1, y2⟩
      clear t1 t2 t3 hxb hxv hxl hmz hPz h4
      go_wp2_with fail
      go_region_with (first
        | (go_at_call 108; refine (rwrite_any _ lo rv gb gv cb cv b z N rows' sv xb xv xl P 1 A' m c' pd p2 (hV.drewN2 1) hin H4.out (by rw [Nat.one_mul]; exact Hmz.out) h5 h6 (h7.drewN 1) h8).mono ?_; rintro x w2 ⟨rfl, ⟨rows2, hV2, hRN2⟩, hU2⟩))
      all_goals
        have hU2' : Upd rv gb gv w1 w2 := (hU.drewN2 1).trans hU2
        have hst : stampL xv P p2 1 = xv.set P p2 := rfl
        rw [hst] at hV2
        obtain ⟨xb', hxb'⟩ : ∃ x, splB xb (P * z) pd = x := ⟨_, rfl⟩
        rw [hxb'] at hV2
        rw [hxb'] at T1
        have hr2 := Rd.upd (hrw.drewN 1) hU2 hAn
        clear y0 y1 y2 S0 hxb' hst
        have y1 := rd3_S (i := 0) (fun j u hu => hr2.at_ hu) h2
        have v4 := hV2.blk.cell (j := 4) rfl
        have z4 := hV2.blk.frozen 4
        go_wp2_with fail
        go_region
        have hmx : (if xl < p2 then p2 else xl) = max xl p2 := by split <;> omega
        rw [hmx]
        have hV5 := (hV2.setLast (max xl p2)).drewN2 1
        have hU5 := (hU2'.set_v 4 (.int .i64 (max xl p2))).drewN2 1
        clear hmx v4 z4
        go_wp2
        go_roundw
        case rel => exact ⟨k + 1, rows2, by omega, by go_num, by rw [T1.out, T2.out, T3.out]; exact hV5, hU5⟩
        case measure => simp [intOf]; omega
    · obtain rfl : k = n := by omega
      rw [List.take_of_length_le (by omega)] at hV
      go_wp2
      go_ret
      exact ⟨rfl, ⟨rows', hV⟩, hU1.trans hU⟩
end Go.Proofs.YtkknkdjdneldlaaGreat
namespace Go.Proofs.YtkknkdjdneldlaaGreat
set_option maxRecDepth 20000
open Go.RowKit Go.Px Go.ChangeShapes Go.WideShapes Go.ChangeAt Go.Joins Go.Deep
set_option linter.unusedVariables false
variable {H : Type} {enc : TypeId × Value → H}
/-- A step in memory: a request, a number, pages. -/
def StpAt (w : World) (a : Addr) : Prop := ∃ (k : Nat) (p n : Int) (D : Option Addr) (d dc : Nat) (ds : List UInt8) (O : Option Addr) (o oc : Nat) (os : List UInt8) (num : Int) (A : Option Addr) (m mc : Nat) (cs : List Value) (ps : List (Int × Int × List UInt8)), k < 256 ∧
  w.cell? a = some (.int .u8 k) ∧ w.cell? ⟨a.block, a.off + 1, none⟩ = some (.int .i64 p) ∧ w.cell? ⟨a.block, a.off + 2, none⟩ = some (.int .i64 n) ∧ w.cell? ⟨a.block, a.off + 3, none⟩ = some (.slice D d dc) ∧ w.cell? ⟨a.block, a.off + 4, none⟩ = some (.slice O o oc) ∧
  w.cell? ⟨a.block, a.off + 5, none⟩ = some (.int .i64 num) ∧ w.cell? ⟨a.block, a.off + 6, none⟩ = some (.slice A m mc) ∧
  ds.length = d ∧ d ≤ dc ∧ dc ≤ 9223372036854775807 ∧ os.length = o ∧ Rd w D (bys ds) ∧ Rd w O (bys os) ∧ ps.length = m ∧ m ≤ mc ∧ mc ≤ 9223372036854775807 ∧ Rd w A cs ∧ PgRows w (fun _ => True) cs ps
theorem StpAt.below {w w' : World} {a : Addr} (h : StpAt w a) (hb : Below w.heap.size w w') : StpAt w' a := by
  obtain ⟨k, p, n, D, d, dc, ds, O, o, oc, os, num, A, m, mc, cs, ps, h0, h1, h2, h3, h4, h5, h6, h7, h8, h9, i1, i2, i3, i4, i5, i6, i7, i8, i9⟩ := h
  exact ⟨k, p, n, D, d, dc, ds, O, o, oc, os, num, A, m, mc, cs, ps, h0, cell_below hb h1, cell_below hb h2, cell_below hb h3, cell_below hb h4, cell_below hb h5, cell_below hb h6, cell_below hb h7, h8, h9, i1, i2, i3.below hb, i4.below hb, i5, i6, i7, i8.below hb, i9.below hb⟩
/-- A row of n steps (of seven cells each). -/
def Stps2 (w : World) (A : Option Addr) (n : Nat) : Prop := ∀ i, i < n → ∃ a, A = some a ∧ StpAt w (a.add (i * 7))
theorem Stps2.below {w w' : World} {A : Option Addr} {n : Nat} (h : Stps2 w A n) (hb : Below w.heap.size w w') : Stps2 w' A n := fun i hi => by
  obtain ⟨a, rfl, h1⟩ := h i hi
  exact ⟨a, rfl, h1.below hb⟩
end Go.Proofs.YtkknkdjdneldlaaGreat
namespace Go.Proofs.YtkknkdjdneldlaaGreat
set_option maxRecDepth 20000
open Go.RowKit Go.Px
set_option linter.unusedVariables false
structure BothAt (B lo v r s rv gb gv : Nat) : Prop where
  h1 : B ≤ v ∧ B ≤ r ∧ B ≤ s
  h2 : v < lo ∧ r < lo ∧ s < lo
  h3 : lo ≤ rv ∧ lo ≤ gb ∧ lo ≤ gv
  h4 : B ≤ lo
end Go.Proofs.YtkknkdjdneldlaaGreat
namespace Go.Proofs.YtkknkdjdneldlaaGreat
set_option maxRecDepth 20000
open Go.RowKit Go.Px
set_option linter.unusedVariables false
/-- The rows that New has made so far: each in a block of its own, all zeros. -/
def ZRows (w : World) (B k z : Nat) (Bv Vv : Value) (bc : List Value) : Prop := bc.length = k ∧ ∀ i, i < k → ∃ A c, bc[i]? = some (.slice A z c) ∧ z ≤ c ∧ c ≤ 9223372036854775807 ∧ Rd w A (List.replicate z (.int .u8 0)) ∧ ∀ a, A = some a → B ≤ a.block ∧ a.block < w.heap.size ∧ Bv.ownBlock ≠ some a.block ∧ Vv.ownBlock ≠ some a.block
section
variable {w w' : World} {B k z : Nat} {Bv Vv : Value} {bc : List Value}
theorem ZRows.nil (w : World) (B z : Nat) (Bv Vv : Value) : ZRows w B 0 z Bv Vv [] := ⟨rfl, fun i hi => by omega⟩
theorem ZRows.below (h : ZRows w B k z Bv Vv bc) (hb : Below w.heap.size w w') : ZRows w' B k z Bv Vv bc :=
  ⟨h.1, fun i hi => by obtain ⟨A, c, h1, h2, h3, h4, h5⟩ := h.2 i hi; exact ⟨A, c, h1, h2, h3, h4.below hb, fun a ha => ⟨(h5 a ha).1, by have := (h5 a ha).2.1; have := hb.size; omega, (h5 a ha).2.2⟩⟩⟩
theorem ZRows.set (h : ZRows w B k z Bv Vv bc) {g : Nat} (hg : g < B) (j : Nat) (u : Value) : ZRows (w.setCell ⟨g, j, none⟩ u) B k z Bv Vv bc :=
  ⟨h.1, fun i hi => by obtain ⟨A, c, h1, h2, h3, h4, h5⟩ := h.2 i hi; exact ⟨A, c, h1, h2, h3, h4.upset (fun a ha => (h5 a ha).1) hg, fun a ha => ⟨(h5 a ha).1, by have := (h5 a ha).2.1; simpa using this, (h5 a ha).2.2⟩⟩⟩
theorem ZRows.push {X w5 : World} {Bv' : Value} (h : ZRows w B k z Bv Vv bc) (hX : Below w.heap.size w X) (hg : X.grownBy w5 Bv.ownBlock) (hb : ∀ g, Bv.ownBlock = some g → g < w.heap.size) (hv : ∀ g, Vv.ownBlock = some g → g < w.heap.size) (hB : B ≤ w.heap.size)
    (hz : Rd X (some ⟨w.heap.size, 0, none⟩) (List.replicate z (.int .u8 0))) (hsz : w.heap.size + 1 ≤ X.heap.size) (h5 : Bv'.ownBlock = Bv.ownBlock ∨ Bv'.ownBlock = some X.heap.size) (hz4 : z ≤ 4096) : ZRows w5 B (k + 1) z Bv' Vv (bc ++ [.slice (some ⟨w.heap.size, 0, none⟩) z z]) := by
  have hs5 := hg.size
  refine ⟨by simp [h.1], fun i hi => ?_⟩
  by_cases hlt : i < k
  · obtain ⟨A, c, h1, h2, h3, h4, h6⟩ := h.2 i hlt
    refine ⟨A, c, by rw [List.getElem?_append_left (by rw [h.1]; exact hlt)]; exact h1, h2, h3, (h4.below hX).grown hg (fun a ha => (h6 a ha).2.2.1.symm), fun a ha => ?_⟩
    obtain ⟨q1, q2, q3, q4⟩ := h6 a ha
    refine ⟨q1, by omega, ?_, q4⟩
    rcases h5 with h5 | h5
    · rw [h5]; exact q3
    · rw [h5]; intro e; injection e with e; omega
  · obtain rfl : i = k := by omega
    refine ⟨_, z, by rw [← h.1]; simp, Nat.le_refl _, by omega, hz.grown hg (fun a ha e => ?_), fun a ha => ?_⟩
    · injection ha with ha; subst ha
      have := hb _ e.symm
      simp at this
    · injection ha with ha; subst ha
      refine ⟨hB, by show w.heap.size < _; omega, ?_, ?_⟩
      · rcases h5 with h5 | h5
        · rw [h5]; intro e; have := hb _ e; simp at this
        · rw [h5]; intro e; injection e with e; have e2 : X.heap.size = w.heap.size := e; omega
      · intro e; have := hv _ e; simp at this
theorem ZRows.pushV {w8 : World} {Vv' : Value} (h : ZRows w B k z Bv Vv bc) (hg : w.grownBy w8 Vv.ownBlock) (h5 : Vv'.ownBlock = Vv.ownBlock ∨ Vv'.ownBlock = some w.heap.size) : ZRows w8 B k z Bv Vv' bc := by
  have hs := hg.size
  refine ⟨h.1, fun i hi => ?_⟩
  obtain ⟨A, c, h1, h2, h3, h4, h6⟩ := h.2 i hi
  refine ⟨A, c, h1, h2, h3, h4.grown hg (fun a ha => (h6 a ha).2.2.2.symm), fun a ha => ?_⟩
  obtain ⟨q1, q2, q3, q4⟩ := h6 a ha
  refine ⟨q1, by omega, q3, ?_⟩
  rcases h5 with h5 | h5
  · rw [h5]; exact q4
  · rw [h5]; intro e; injection e with e; omega
end
theorem segB_zeros {N b z i : Nat} (hN : b * z = N) (hi : i < b) : bys (segB (List.replicate N 0) i 1 z) = List.replicate z (.int .u8 0) := by
  have hiz : i * z + z ≤ N := by rw [← hN]; have := Nat.mul_le_mul_right z (show i + 1 ≤ b by omega); rw [Nat.add_mul, Nat.one_mul] at this; exact this
  unfold segB
  rw [Nat.one_mul, List.drop_replicate, List.take_replicate, show min z (N - i * z) = z by omega]
  simp [bys]
set_option maxHeartbeats 3200000 in
theorem rnew_full (b z N : Nat) (w : World) (hb : 1 ≤ b ∧ b ≤ 4096) (hz : 1 ≤ z ∧ z ≤ 4096) (hN : b * z = N) :
    Calls Tryz.prog 146 #[shp b z] w fun e w' => ∃ rv gb gv cb cv rows sv, e = .returned (.tuple #[.pointer (some ⟨rv, 0, none⟩), .int .i64 0]) ∧ RVolIs w' w.heap.size rv gb gv cb cv b z N rows sv (List.replicate N 0) (List.replicate b 0) 0 ∧ Below w.heap.size w w' := by
  have HN := hide hN
  clear hN
  obtain ⟨hb1', hb2'⟩ := hb
  obtain ⟨hz1', hz2'⟩ := hz
  obtain ⟨w0, hw0⟩ : ∃ w0, w.alloc (.cells #[.int .i64 b, .int .i64 z] 23) = w0 := ⟨_, rfl⟩
  obtain ⟨g, hg⟩ : ∃ g, w.heap.size = g := ⟨_, rfl⟩
  have hS : Blk w0 g [.int .i64 b, .int .i64 z] 23 := by rw [← hw0, ← hg]; exact Blk.new w [.int .i64 b, .int .i64 z] _
  have hb0 : Below w.heap.size w w0 := by rw [← hw0]; exact (Below.refl _ _).alloc (Nat.le_refl _) _
  have hgs : w.heap.size + 1 = w0.heap.size := by rw [← hw0, World.size_alloc]
  have x0 := hS.cell (j := 0) rfl
  have x1 := hS.cell (j := 1) rfl
  have HE := hide (show shE b z = 0 by unfold shE; rw [if_pos ⟨⟨by omega, by omega⟩, by omega, by omega⟩])
  have Hw0 := hide hw0
  clear hw0
  go_enter Tryz.func146, Tryz.ntmps146
  go_wp2_with fail
  rw [Hw0.out]
  go_fit (rshape_any b z w0)
  rw [HE.out]
  rintro x w1 ⟨rfl, hb1⟩
  have hb01 := hb0.trans (hb1.mono hb0.size)
  have hS1 := hS.below hb1
  have hsz1 := hb1.size
  clear x0 x1
  have x0 := hS1.cell (j := 0) rfl
  have x1 := hS1.cell (j := 1) rfl
  obtain ⟨rv, hrv⟩ : ∃ g, w1.heap.size = g := ⟨_, rfl⟩
  have hR0 := Blk.new w1 [.int .i64 b, .int .i64 z, .slice none 0 0, .slice none 0 0, .int .i64 0] 108
  have hS2 := hS1.alloc (.cells #[.int .i64 b, .int .i64 z, .slice none 0 0, .slice none 0 0, .int .i64 0] 108)
  have hb2 : Below w.heap.size w (w1.alloc (.cells #[.int .i64 b, .int .i64 z, .slice none 0 0, .slice none 0 0, .int .i64 0] 108)) := hb01.alloc hb01.size _
  rw [hrv] at hR0
  have hglt := hS1.lt
  rw [hrv] at hglt
  have hm1 := fun W => run_mkB (P := Tryz.prog) (t := 38) (e := 5) (z := .int .u8 0) (bytes := 1) Tryz.underlying38 (by kernel_rfl) rfl (N := z) (by omega) (by omega) W
  go_wp2
  go_loopw [6] (fun i wr => ∃ (k : Nat) (Bv Vv : Value) (bc vc : List Value), k ≤ b ∧ i = .int .i64 k ∧ Blk wr rv [.int .i64 b, .int .i64 z, Bv, Vv, .int .i64 0] 108 ∧ wr.ownsRow (rv + 1) 38 1 Bv k bc ∧ wr.ownsRow (rv + 1) 3 1 Vv k vc ∧ ZRows wr (rv + 1) k z Bv Vv bc ∧ vc = ints (List.replicate k 0) ∧
      (∀ x, Bv.ownBlock = some x → Vv.ownBlock ≠ some x) ∧ Blk wr g [.int .i64 b, .int .i64 z] 23 ∧ Below w.heap.size w wr) (fun i _ => b - (intOf i).toNat)
  case atStart => exact ⟨0, _, _, [], [], by omega, rfl, hR0, World.ownsRow_nil _ _ _ _, World.ownsRow_nil _ _ _ _, ZRows.nil _ _ _ _ _, rfl, by intro x hx; simp [Value.ownBlock] at hx, hS2, hb2⟩
  case round =>
    obtain ⟨k, Bv, Vv, bc, vc, hk, rfl, hR, hBo, hVo, hZR, hvc, hne, hSr, hbw⟩ := hrel
    have Hvc := hide hvc
    clear hvc
    clear x0 x1 hR0 hS2 hb2
    have x0 := hSr.cell (j := 0) rfl
    have x1 := hSr.cell (j := 1) rfl
    by_cases hlt : k < b
    · have rvl := hR.lt
      have mkX : ∀ X, Below (rv + 1) wr X → (Below (rv + 1) wr X ∧ X.cell? ⟨rv, 2, none⟩ = some Bv ∧ X.cell? ⟨g, 1, none⟩ = some (.int .i64 z)) := fun X hX => ⟨hX, (hR.lo hX (by omega)).cell (j := 2) rfl, (hSr.lo hX (by omega)).cell (j := 1) rfl⟩
      have mkA : ∀ X o, (Below (rv + 1) wr X ∧ X.cell? ⟨rv, 2, none⟩ = some Bv ∧ X.cell? ⟨g, 1, none⟩ = some (.int .i64 z)) → (Below (rv + 1) wr (X.alloc o) ∧ (X.alloc o).cell? ⟨rv, 2, none⟩ = some Bv ∧ (X.alloc o).cell? ⟨g, 1, none⟩ = some (.int .i64 z)) := fun X o h => mkX _ (h.1.alloc (by have := h.1.size; omega) _)
      have S0 := mkX wr.drew (Below.refl _ _).drew
      have hBW : ∀ X, Below wr.heap.size wr X → X.ownsRow (rv + 1) 38 1 Bv k bc := fun X hX => own_below hBo hX
      have HBW := hide hBW
      have LeW := hide (show ∀ X, Below (rv + 1) wr X → rv + 1 ≤ X.heap.size from fun X hX => by have := hX.size; omega)
      have HG := hide (show ∀ X Y, Below (rv + 1) wr X → X.grownBy Y Bv.ownBlock → Below (rv + 1) wr Y from fun X Y hX hg => hX.grown hg (by have := hX.size; omega) (fun q hq => (own_lt hBo q hq).1))
      have HF := hide (show ∀ X, Below (rv + 1) wr X → X.frozen? ⟨rv, 2, none⟩ = false from fun X hX => (hR.lo hX (by omega)).frozen 2)
      have MkA := hide mkA
      have MkX := hide mkX
      have hk1 : (k + 1) * 24 ≤ 140737488355328 := by omega
      have hk2 : k + 1 ≤ 140737488355328 := by omega
      have HZ := hide (show Rd (wr.alloc (.cells (Array.replicate z (.int .u8 0)) 5)) (some ⟨wr.heap.size, 0, none⟩) (List.replicate z (.int .u8 0)) by have := Rd.newN wr (List.replicate z (.int .u8 0)) 5 (0, 0); rwa [List.toArray_replicate] at this)
      clear hBW mkX mkA
      have x2 := hR.cell (j := 2) rfl
      have xa2 := fun o => (hR.alloc o).cell (j := 2) rfl
      have xb2 := fun o o' => ((hR.alloc o).alloc o').cell (j := 2) rfl
      have xa1 := fun o => (hSr.alloc o).cell (j := 1) rfl
      have xb1 := fun o o' => ((hSr.alloc o).alloc o').cell (j := 1) rfl
      go_wp2_with fail
      go_region_law (refine step_own (v := Bv) rfl rfl tBRows (by simp [Act.eval]) (HBW.out _ (by first | exact (((Below.refl _ _).alloc (Nat.le_refl _) _).alloc (by simp) _).drew | exact (((Below.refl _ _).drew.alloc (Nat.le_refl _) _).alloc (by simp) _))) (by simp [Act.eval]; rfl) (m := 1) rfl (Rd.new1 _ _ _) (one_slice _ _ _) hk1 hk2 (LeW.out _ (by first | exact (((Below.refl _ _).alloc rvl _).alloc (by simp; omega) _).drew | exact (((Below.refl _ _).drew.alloc rvl _).alloc (by simp; omega) _))) ?_; intro v5 w5 hown5 hg5 hv5; have hs5 := MkX.out _ (HG.out _ _ (by first | exact (((Below.refl _ _).alloc rvl _).alloc (by simp; omega) _).drew | exact (((Below.refl _ _).drew.alloc rvl _).alloc (by simp; omega) _)) hg5); have fz5 := HF.out _ (And.left hs5); have ce5 := And.left (And.right hs5); have lt5 := own_lt hown5; obtain ⟨A5, c5, rfl, _, _, _, _, _⟩ := own_out hown5)
      all_goals
        have hsz5 := hg5.size
        simp at hsz5
        have hz5 : ZRows w5 (rv + 1) (k + 1) z (.slice A5 (k + 1) c5) Vv (bc ++ [.slice (some ⟨wr.heap.size, 0, none⟩) z z]) := by
          exact hZR.push (X := ((wr.alloc (.cells (Array.replicate z (.int .u8 0)) 5)).alloc (.cells #[.slice (some ⟨wr.heap.size, 0, none⟩) z z] 38)).drew) (((Below.refl _ _).alloc (Nat.le_refl _) _).alloc (by simp) _).drew hg5 (fun g hg => (own_lt hBo g hg).2) (fun g hg => (own_lt hVo g hg).2) (by omega) ((HZ.out.alloc _).drew) (by simp) hv5 hz2'
        have hz6 := hz5.set (show rv < rv + 1 by omega) 2 (.slice A5 (k + 1) c5)
        have hR6 := (hR.lo (And.left hs5) (show rv < rv + 1 by omega)).set 2 (.slice A5 (k + 1) c5)
        have hB6 := ownsRow_setCell_below hown5 (show (⟨rv, 2, none⟩ : Addr).block < rv + 1 by show rv < rv + 1; omega) (.slice A5 (k + 1) c5)
        have hV5 := own_grown (own_below hVo (show Below wr.heap.size wr _ by first | exact (((Below.refl _ _).alloc (Nat.le_refl _) _).alloc (by simp) _).drew | exact (((Below.refl _ _).drew.alloc (Nat.le_refl _) _).alloc (by simp) _))) hg5 (fun x hx e => hne x e hx)
        have hV6 := ownsRow_setCell_below hV5 (show (⟨rv, 2, none⟩ : Addr).block < rv + 1 by show rv < rv + 1; omega) (.slice A5 (k + 1) c5)
        have hne6 : ∀ x, (Value.slice A5 (k + 1) c5).ownBlock = some x → Vv.ownBlock ≠ some x := fun x hx e => by
          rcases hv5 with e' | e'
          · rw [e'] at hx; exact hne x hx e
          · have := (own_lt hVo x e).2
            rw [e'] at hx
            simp at hx
            omega
        have hS6 := (hSr.lo (And.left hs5) (show g < rv + 1 by omega)).apart (show g ≠ rv by omega) 2 (.slice A5 (k + 1) c5)
        have hb6 : Below w.heap.size w (w5.setCell ⟨rv, 2, none⟩ (.slice A5 (k + 1) c5)) := (hbw.trans ((And.left hs5).mono (by omega))).setCell (show w.heap.size ≤ rv by omega) _
        obtain ⟨w6, hw6⟩ : ∃ x, w5.setCell ⟨rv, 2, none⟩ (.slice A5 (k + 1) c5) = x := ⟨_, rfl⟩
        rw [hw6] at hR6 hB6 hV6 hS6 hb6 hz6
        rw [hw6]
        have ltV := own_lt hV6
        have ltB := own_lt hB6
        have rvl6 := hR6.lt
        clear hz5 hv5 hg5 hs5 fz5 ce5 lt5 hw6 xa1 xa2 xb1 xb2 x0 x1 x2 hV5
        have y3 := hR6.cell (j := 3) rfl
        have hk3 : (k + 1) * 8 ≤ 140737488355328 := by omega
        obtain ⟨w7, hw7⟩ : ∃ x, w6.alloc (.cells #[.int .i64 0] 3) = x := ⟨_, rfl⟩
        have hb67 : Below w6.heap.size w6 w7 := by rw [← hw7]; exact (Below.refl _ _).alloc (Nat.le_refl _) _
        have hV7 := own_below hV6 hb67
        have hz7 := hz6.below hb67
        have hB7 := own_below hB6 hb67
        have hR7 := hR6.below hb67
        have hS7 := hS6.below hb67
        have hb7 := hb6.trans (hb67.mono hb6.size)
        have hnew : Rd w7 (some ⟨w6.heap.size, 0, none⟩) [.int .i64 0] := by rw [← hw7]; exact Rd.new1 _ _ _
        have hsz7 : w6.heap.size + 1 = w7.heap.size := by rw [← hw7, World.size_alloc]
        have Hw7 := hide hw7
        clear hw7
        go_wp2_with (first | (with_reducible refine stop_append rfl ?_) | (with_reducible refine stop_copy rfl ?_) | (with_reducible refine stop_make rfl ?_))
        rw [Hw7.out]
        refine go_append (v := Vv) rfl rfl tInts rfl hV7 rfl (m := 1) rfl hnew (one_int _) hk3 hk2 (by omega) ?_
        intro v8 w8 hown8 hg8 hv8
        obtain ⟨A8, c8, rfl, _, _, _, _, _⟩ := own_out hown8
        have hb78 : Below (rv + 1) w7 w8 := (Below.refl _ _).grown hg8 (by omega) (fun q hq => (ltV q hq).1)
        have hR8 := hR7.lo hb78 (show rv < rv + 1 by omega)
        have y8 := hR8.cell (j := 3) rfl
        have z8 := hR8.frozen 3
        have hB8 := own_grown hB7 hg8 (fun x hx e => hne6 x hx e)
        go_wp2
        go_roundw
        case rel =>
          refine ⟨k + 1, _, _, _, _, by omega, by go_num, hR8.set 3 _, ownsRow_setCell_below hB8 (show (⟨rv, 3, none⟩ : Addr).block < rv + 1 by show rv < rv + 1; omega) _, ownsRow_setCell_below hown8 (show (⟨rv, 3, none⟩ : Addr).block < rv + 1 by show rv < rv + 1; omega) _, (hz7.pushV hg8 hv8).set (show rv < rv + 1 by omega) 3 _, by rw [Hvc.out, List.replicate_succ', ints_append]; rfl, ?_, (hS7.lo hb78 (show g < rv + 1 by omega)).apart (show g ≠ rv by omega) 3 _, ?_⟩
          · intro x hx e
            rcases hv8 with e' | e'
            · rw [e'] at e; exact hne6 x hx e
            · have := (ltB x hx).2
              rw [e'] at e
              injection e with e
              omega
          · exact (hb7.trans (hb78.mono (by omega))).setCell (show w.heap.size ≤ rv by omega) _
        case measure => simp [intOf]; omega
    · obtain rfl : k = b := by omega
      have hrl := hR.lt
      rcases hBo.2 with ⟨_, h0⟩ | ⟨gb, cb, cur, rfl, hbg, hgg, hnc, hcm, hcs, htake⟩
      · omega
      rcases hVo.2 with ⟨_, h0⟩ | ⟨gv, cv, cur', rfl, hbg', hgg', hnc', hcm', hcs', htake'⟩
      · omega
      rw [Nat.mul_one] at htake htake'
      have hVI : RVolIs wr w.heap.size rv gb gv cb cv k z N cur.toList (cur'.toList.drop k) (List.replicate N 0) (List.replicate k 0) 0 := {
        blk := hR
        row := by unfold Blk; rw [hgg]
        ver := by
          unfold Blk
          rw [← Hvc.out, ← htake', List.take_append_drop, hgg']
        cells := fun i hi => by
          obtain ⟨A, c, q1, q2, q3, q4, q5⟩ := hZR.2 i hi
          refine ⟨A, c, ?_, q2, q3, by rw [segB_zeros HN.out hi]; exact q4, fun a ha => ?_⟩
          · rw [← htake, List.getElem?_take, if_pos hi] at q1
            exact q1
          · obtain ⟨p1, p2, p3, p4⟩ := q5 a ha
            refine ⟨by omega, by omega, ?_, ?_⟩
            · intro e; apply p3; rw [e]; rfl
            · intro e; apply p4; rw [e]; rfl
        hlo := ⟨by omega, by omega, by omega⟩
        lb := by simp
        lv := by simp
        hN := HN.out
        rb := by omega
        rg := by omega
        bg := by intro e; subst e; exact hne _ rfl rfl
        hb := ⟨hb1', hb2'⟩
        hz := ⟨hz1', hz2'⟩
        hcb := ⟨hnc, by unfold maxLen at hcm; omega⟩
        hcv := ⟨hnc', by unfold maxLen at hcm'; omega⟩ }
      clear hBo hVo hgg hgg' htake htake' hZR hne hcs hcs' hnc hnc' hcm hcm'
      go_wp2
      go_ret2
      exact ⟨rv, gb, gv, cb, cv, _, _, rfl, hVI, hbw⟩
end Go.Proofs.YtkknkdjdneldlaaGreat
namespace Go.Proofs.YtkknkdjdneldlaaGreat
set_option maxRecDepth 20000
open Go.RowKit Go.Px
set_option linter.unusedVariables false
theorem lay_none (v : Nat) (A : Option Addr) (c : Nat) (w : World) : Calls Tryz.prog 120 #[.pointer (some ⟨v, 0, none⟩), .slice A 0 c] w fun e w' => e = .returned (.tuple #[]) ∧ w = w' := by
  go_enter Tryz.func120, Tryz.ntmps120
  go_wp2
  refine wp_loop_rounds 1 ?_
  rw [rounds_succ]
  go_wp2
  go_end0
  exact ⟨rfl, rfl⟩
theorem lay_any2 (w : World) (v r s b z N : Nat) (bs : List UInt8) (vs : List Int) (last : Int) (A : Option Addr) (n c : Nat) (cs : List Value) (ps : List (Int × Int × List UInt8)) (h : VolIs w v r s b z N bs vs last) (hn : ps.length = n) (hnc : n ≤ c) (hc : c ≤ 9223372036854775807)
    (hr : Rd w A cs) (hA : ps ≠ [] → ∀ a, A = some a → a.block ≠ v ∧ a.block ≠ r ∧ a.block ≠ s) (hP : PgRows w (fun B => B ≠ v ∧ B ≠ r ∧ B ≠ s) cs ps) (hg : Good b z ps) :
    Calls Tryz.prog 120 #[.pointer (some ⟨v, 0, none⟩), .slice A n c] w fun e w' => e = .returned (.tuple #[]) ∧ VolIs w' v r s b z N (layB z bs ps) (layV vs ps) (layL last ps) ∧ Upd v r s w w' := by
  by_cases hp : ps = []
  · subst hp
    obtain rfl : n = 0 := by simpa using hn.symm
    refine (lay_none v A c w).mono ?_
    rintro x w' ⟨rfl, rfl⟩
    exact ⟨rfl, h, Upd.of_below (Below.refl _ _)⟩
  · exact lay_any w v r s b z N bs vs last A n c cs ps h hn hnc hc hr (hA hp) hP hg
set_option maxHeartbeats 3200000 in
theorem load_okP (b z N : Nat) (w : World) (hb : 1 ≤ b ∧ b ≤ 4096) (hz : 1 ≤ z ∧ z ≤ 4096) (hN : b * z = N) (A : Option Addr) (n c : Nat) (cs : List Value) (ps : List (Int × Int × List UInt8)) (hn : ps.length = n) (hnc : n ≤ c) (hc : c ≤ 9223372036854775807) (hr : Rd w A cs) (hP : PgRows w (fun _ => True) cs ps) (hm : mpA b z (-1) ps = true) : Calls Tryz.prog 99 #[shp b z, .slice A n c] w fun e w' =>
    ∃ v r s, e = .returned (.tuple #[.pointer (some ⟨v, 0, none⟩), .int .i64 0]) ∧ VolIs w' v r s b z N (layB z (List.replicate N 0) ps) (layV (List.replicate b 0) ps) (layL 0 ps) ∧ Below w.heap.size w w' ∧ w.heap.size ≤ v ∧ w.heap.size ≤ r ∧ w.heap.size ≤ s ∧ v < w'.heap.size ∧ r < w'.heap.size ∧ s < w'.heap.size := by
  have hgd := good_of_mpA (by omega) hm
  have hPg := hP.goodlt hgd hz.1
  have hAl := fun hne => rd_cells_lt hr hP.1 hne
  have Hm := hide hm
  clear hm
  obtain ⟨hb1', hb2'⟩ := hb
  obtain ⟨hz1', hz2'⟩ := hz
  have hNb : N ≤ 16777216 := by rw [← hN]; exact Nat.mul_le_mul hb2' hz2'
  have hNI : (b : Int) * (z : Int) = (N : Int) := by rw [← hN]; simp
  obtain ⟨w0, hw0⟩ : ∃ w0, w.alloc (.cells #[.int .i64 b, .int .i64 z] 23) = w0 := ⟨_, rfl⟩
  obtain ⟨g, hg⟩ : ∃ g, w.heap.size = g := ⟨_, rfl⟩
  have hS : Blk w0 g [.int .i64 b, .int .i64 z] 23 := by rw [← hw0, ← hg]; exact Blk.new w [.int .i64 b, .int .i64 z] _
  have hb0 : Below w.heap.size w w0 := by rw [← hw0]; exact (Below.refl _ _).alloc (Nat.le_refl _) _
  have x0 := hS.cell (j := 0) rfl
  have x1 := hS.cell (j := 1) rfl
  have hwN : IntKind.i64.wrap (N : Int) = (N : Int) := IntWalk.i64_in _ (by omega)
  have hm1 := fun W => run_mkB (P := Tryz.prog) (t := 38) (e := 5) (z := .int .u8 0) (bytes := 1) Tryz.underlying38 (by kernel_rfl) rfl (N := N) (by omega) (by omega) W
  have hm2 := fun W => run_mkB (P := Tryz.prog) (t := 26) (e := 3) (z := .int .i64 0) (bytes := 8) Tryz.underlying26 (by kernel_rfl) rfl (N := b) (by omega) (by omega) W
  have HN := hide hN
  have HE := hide (show shE b z = 0 by unfold shE; rw [if_pos ⟨⟨by omega, by omega⟩, by omega, by omega⟩])
  clear hN
  go_enter Tryz.func99, Tryz.ntmps99
  go_wp2_with fail
  go_fit (shape_any b z w0)
  rw [HE.out]
  rintro x w1 ⟨rfl, hb1⟩
  have hb01 := hb0.trans (hb1.mono hb0.size)
  have hS1 := hS.below hb1
  clear x0 x1
  have x0 := hS1.cell (j := 0) rfl
  have x1 := hS1.cell (j := 1) rfl
  go_wp2_with fail
  go_fit (mayPages_any b z A n c cs ps _ w1 hn hnc hc (hr.below hb01) (hP.below hb01))
  rw [Hm.out]
  rintro x w2 ⟨rfl, hb2⟩
  have hb02 := hb01.trans (hb2.mono hb01.size)
  have hS2 := hS1.below hb2
  clear x0 x1
  have x0 := hS2.cell (j := 0) rfl
  have x1 := hS2.cell (j := 1) rfl
  have xa0 := fun o => (hS2.alloc o).cell (j := 0) rfl
  have xa1 := fun o => (hS2.alloc o).cell (j := 1) rfl
  have xb0 := fun o o' => ((hS2.alloc o).alloc o').cell (j := 0) rfl
  have xb1 := fun o o' => ((hS2.alloc o).alloc o').cell (j := 1) rfl
  go_wp2
  have xc0 := fun o o' o'' => (((hS2.alloc o).alloc o').alloc o'').cell (j := 0) rfl
  have xc1 := fun o o' o'' => (((hS2.alloc o).alloc o').alloc o'').cell (j := 1) rfl
  have S0 : w2.drew.cell? ⟨g, 0, none⟩ = some (.int .i64 b) ∧ w2.drew.cell? ⟨g, 1, none⟩ = some (.int .i64 z) := ⟨x0, x1⟩
  go_region_held_law (fun W => W.cell? ⟨g, 0, none⟩ = some (.int .i64 b) ∧ W.cell? ⟨g, 1, none⟩ = some (.int .i64 z)) (first | assumption | exact ⟨xa0 _, xa1 _⟩ | exact ⟨xb0 _ _, xb1 _ _⟩ | exact ⟨xc0 _ _ _, xc1 _ _ _⟩) (fail)
  all_goals
    clear hm1 hm2 xa0 xa1 xb0 xb1 xc0 xc1 hwN
    go_wp2_with fail
  · have hR := ((Blk.new w2 (List.replicate N (.int .u8 0)) 5).alloc (.cells (List.replicate b (.int .i64 0)).toArray 3)).alloc (.cells #[.int .i64 b, .int .i64 z, .slice (some ⟨w2.heap.size, 0, none⟩) N N, .slice (some ⟨w2.heap.size + 1, 0, none⟩) b b, .int .i64 0] 163)
    have hS' := (Blk.new (w2.alloc (.cells (List.replicate N (.int .u8 0)).toArray 5)) (List.replicate b (.int .i64 0)) 3).alloc (.cells #[.int .i64 b, .int .i64 z, .slice (some ⟨w2.heap.size, 0, none⟩) N N, .slice (some ⟨w2.heap.size + 1, 0, none⟩) b b, .int .i64 0] 163)
    have hV := Blk.new ((w2.alloc (.cells (List.replicate N (.int .u8 0)).toArray 5)).alloc (.cells (List.replicate b (.int .i64 0)).toArray 3)) [.int .i64 b, .int .i64 z, .slice (some ⟨w2.heap.size, 0, none⟩) N N, .slice (some ⟨w2.heap.size + 1, 0, none⟩) b b, .int .i64 0] 163
    rw [World.size_alloc] at hS'
    rw [World.size_alloc, World.size_alloc] at hV
    have hsz := hb02.size
    have hbX : Below w2.heap.size w2 ((((w2.alloc (.cells (List.replicate N (.int .u8 0)).toArray 5)).alloc (.cells (List.replicate b (.int .i64 0)).toArray 3)).alloc (.cells #[.int .i64 b, .int .i64 z, .slice (some ⟨w2.heap.size, 0, none⟩) N N, .slice (some ⟨w2.heap.size + 1, 0, none⟩) b b, .int .i64 0] 163)).drew) := ((((Below.refl _ _).alloc (Nat.le_refl _) _).alloc (by simp) _).alloc (by simp; omega) _).drew
    have hVol : VolIs ((((w2.alloc (.cells (List.replicate N (.int .u8 0)).toArray 5)).alloc (.cells (List.replicate b (.int .i64 0)).toArray 3)).alloc (.cells #[.int .i64 b, .int .i64 z, .slice (some ⟨w2.heap.size, 0, none⟩) N N, .slice (some ⟨w2.heap.size + 1, 0, none⟩) b b, .int .i64 0] 163)).drew) (w2.heap.size + 1 + 1) (w2.heap.size) (w2.heap.size + 1) b z N (List.replicate N 0) (List.replicate b 0) 0 := ⟨hV, by rw [bys_zeros]; exact hR, by rw [ints_zeros]; exact hS', by simp, by simp, HN.out, by omega, by omega, by omega, ⟨hb1', hb2'⟩, ⟨hz1', hz2'⟩⟩
    have hbX0 := hb02.trans (hbX.mono hb02.size)
    refine (lay_any2 _ (w2.heap.size + 1 + 1) (w2.heap.size) (w2.heap.size + 1) b z N (List.replicate N 0) (List.replicate b 0) 0 A n c cs ps hVol hn hnc hc (hr.below hbX0) (fun hne a ha => by have := hAl hne a ha; omega) ((hPg.below hbX0).keep (fun A xs hr _ => hr) (fun q hq => ⟨by omega, by omega, by omega⟩)) hgd).mono ?_
    rintro x w5 ⟨rfl, hV5, hU5⟩
    go_wp2
    go_ret2
    have h1 := hV5.blk.lt
    have h2 := hV5.row.lt
    have h3 := hV5.ver.lt
    exact ⟨w2.heap.size + 1 + 1, (w2.heap.size), (w2.heap.size + 1), rfl, hV5, hU5.below hbX0 hbX0.size (by omega) (by omega) (by omega), by omega, by omega, by omega, h1, h2, h3⟩
  · have hS' := ((Blk.new w2 (List.replicate b (.int .i64 0)) 3).alloc (.cells (List.replicate N (.int .u8 0)).toArray 5)).alloc (.cells #[.int .i64 b, .int .i64 z, .slice (some ⟨w2.heap.size + 1, 0, none⟩) N N, .slice (some ⟨w2.heap.size, 0, none⟩) b b, .int .i64 0] 163)
    have hR := (Blk.new (w2.alloc (.cells (List.replicate b (.int .i64 0)).toArray 3)) (List.replicate N (.int .u8 0)) 5).alloc (.cells #[.int .i64 b, .int .i64 z, .slice (some ⟨w2.heap.size + 1, 0, none⟩) N N, .slice (some ⟨w2.heap.size, 0, none⟩) b b, .int .i64 0] 163)
    have hV := Blk.new ((w2.alloc (.cells (List.replicate b (.int .i64 0)).toArray 3)).alloc (.cells (List.replicate N (.int .u8 0)).toArray 5)) [.int .i64 b, .int .i64 z, .slice (some ⟨w2.heap.size + 1, 0, none⟩) N N, .slice (some ⟨w2.heap.size, 0, none⟩) b b, .int .i64 0] 163
    rw [World.size_alloc] at hR
    rw [World.size_alloc, World.size_alloc] at hV
    have hsz := hb02.size
    have hbX : Below w2.heap.size w2 ((((w2.alloc (.cells (List.replicate b (.int .i64 0)).toArray 3)).alloc (.cells (List.replicate N (.int .u8 0)).toArray 5)).alloc (.cells #[.int .i64 b, .int .i64 z, .slice (some ⟨w2.heap.size + 1, 0, none⟩) N N, .slice (some ⟨w2.heap.size, 0, none⟩) b b, .int .i64 0] 163)).drew) := ((((Below.refl _ _).alloc (Nat.le_refl _) _).alloc (by simp) _).alloc (by simp; omega) _).drew
    have hVol : VolIs ((((w2.alloc (.cells (List.replicate b (.int .i64 0)).toArray 3)).alloc (.cells (List.replicate N (.int .u8 0)).toArray 5)).alloc (.cells #[.int .i64 b, .int .i64 z, .slice (some ⟨w2.heap.size + 1, 0, none⟩) N N, .slice (some ⟨w2.heap.size, 0, none⟩) b b, .int .i64 0] 163)).drew) (w2.heap.size + 1 + 1) (w2.heap.size + 1) (w2.heap.size) b z N (List.replicate N 0) (List.replicate b 0) 0 := ⟨hV, by rw [bys_zeros]; exact hR, by rw [ints_zeros]; exact hS', by simp, by simp, HN.out, by omega, by omega, by omega, ⟨hb1', hb2'⟩, ⟨hz1', hz2'⟩⟩
    have hbX0 := hb02.trans (hbX.mono hb02.size)
    refine (lay_any2 _ (w2.heap.size + 1 + 1) (w2.heap.size + 1) (w2.heap.size) b z N (List.replicate N 0) (List.replicate b 0) 0 A n c cs ps hVol hn hnc hc (hr.below hbX0) (fun hne a ha => by have := hAl hne a ha; omega) ((hPg.below hbX0).keep (fun A xs hr _ => hr) (fun q hq => ⟨by omega, by omega, by omega⟩)) hgd).mono ?_
    rintro x w5 ⟨rfl, hV5, hU5⟩
    go_wp2
    go_ret2
    have h1 := hV5.blk.lt
    have h2 := hV5.row.lt
    have h3 := hV5.ver.lt
    exact ⟨w2.heap.size + 1 + 1, (w2.heap.size + 1), (w2.heap.size), rfl, hV5, hU5.below hbX0 hbX0.size (by omega) (by omega) (by omega), by omega, by omega, by omega, h1, h2, h3⟩
theorem RVolIs.lower {w : World} {lo lo' rv gb gv cb cv b z N : Nat} {rows sv : List Value} {bs : List UInt8} {vs : List Int} {last : Int} (h : RVolIs w lo rv gb gv cb cv b z N rows sv bs vs last) (hl : lo' ≤ lo) : RVolIs w lo' rv gb gv cb cv b z N rows sv bs vs last := by
  obtain ⟨l1, l2, l3⟩ := h.hlo
  exact { h with
    hlo := ⟨by omega, by omega, by omega⟩
    cells := fun i hi => by
      obtain ⟨A, c, k1, k2, k3, k4, k5⟩ := h.cells i hi
      exact ⟨A, c, k1, k2, k3, k4, fun a ha => by have := k5 a ha; exact ⟨by omega, this.2⟩⟩ }
set_option maxHeartbeats 1600000 in
theorem rload_okP (b z N : Nat) (w : World) (hb : 1 ≤ b ∧ b ≤ 4096) (hz : 1 ≤ z ∧ z ≤ 4096) (hN : b * z = N) (A : Option Addr) (n c : Nat) (cs : List Value) (ps : List (Int × Int × List UInt8)) (hn : ps.length = n) (hnc : n ≤ c) (hc : c ≤ 9223372036854775807) (hr : Rd w A cs) (hP : PgRows w (fun _ => True) cs ps) (hAl : ps ≠ [] → ∀ a, A = some a → a.block < w.heap.size) (hPg : PgRows w (fun q => q < w.heap.size) cs ps) (hm : mpA b z (-1) ps = true) : Calls Tryz.prog 100 #[shp b z, .slice A n c] w fun e w' =>
    ∃ rv gb gv cb cv rows sv, e = .returned (.tuple #[.pointer (some ⟨rv, 0, none⟩), .int .i64 0]) ∧ RVolIs w' w.heap.size rv gb gv cb cv b z N rows sv (layB z (List.replicate N 0) ps) (layV (List.replicate b 0) ps) (layL 0 ps) ∧ Below w.heap.size w w' := by
  obtain ⟨w0, hw0⟩ : ∃ w0, w.alloc (.cells #[.int .i64 b, .int .i64 z] 23) = w0 := ⟨_, rfl⟩
  obtain ⟨g, hg⟩ : ∃ g, w.heap.size = g := ⟨_, rfl⟩
  have hS : Blk w0 g [.int .i64 b, .int .i64 z] 23 := by rw [← hw0, ← hg]; exact Blk.new w [.int .i64 b, .int .i64 z] _
  have hb0 : Below w.heap.size w w0 := by rw [← hw0]; exact (Below.refl _ _).alloc (Nat.le_refl _) _
  have x0 := hS.cell (j := 0) rfl
  have x1 := hS.cell (j := 1) rfl
  have HR := hide (rnew_full b z N w0 hb hz hN)
  have hsz0 := hb0.size
  have Hm := hide hm
  clear hb hz hN hm
  go_enter Tryz.func100, Tryz.ntmps100
  go_wp2_with fail
  go_fit HR.out
  rintro x w1 ⟨rv, gb, gv, cb, cv, rows, sv, rfl, hV1, hb1⟩
  have hb01 := hb0.trans (hb1.mono hb0.size)
  have hlo := hV1.hlo
  have hV1' : RVolIs w1 w.heap.size rv gb gv cb cv b z N rows sv (List.replicate N 0) (List.replicate b 0) 0 := hV1.lower (by omega)
  go_wp2_with fail
  go_fit (rpatch_ok w1 _ rv gb gv cb cv b z N rows sv _ _ 0 A n c cs ps hV1' hn hnc hc (hr.below hb01) (fun hne a ha => by have := hAl hne a ha; omega) ((hPg.below hb01).keep (fun A xs hr _ => hr) (fun q hq => ⟨by omega, by omega, by omega⟩)) Hm.out)
  rintro x w2 ⟨rfl, ⟨rows2, hV2⟩, hU2⟩
  go_wp2
  go_ret2
  exact ⟨rv, gb, gv, cb, cv, rows2, sv, rfl, hV2, hU2.below hb01 hb01.size (by omega) (by omega) (by omega)⟩
end Go.Proofs.YtkknkdjdneldlaaGreat
namespace Go.Proofs.YtkknkdjdneldlaaGreat
set_option maxRecDepth 20000
open Go.RowKit Go.Px
set_option linter.unusedVariables false
set_option maxHeartbeats 6400000 in
theorem rpages_any (w : World) (lo rv gb gv cb cv b z N : Nat) (rows sv : List Value) (bs : List UInt8) (vs : List Int) (last : Int) (since : Int) (h : RVolIs w lo rv gb gv cb cv b z N rows sv bs vs last) :
    Calls Tryz.prog 57 #[.pointer (some ⟨rv, 0, none⟩), .int .i64 since] w fun e w' => ∃ o cs, e = .returned o ∧ w'.ownsRow w.heap.size 83 3 o (pgL z bs vs since b).length cs ∧
      PgRows w' (fun B => w.heap.size ≤ B ∧ B < w'.heap.size ∧ some B ≠ o.ownBlock) cs (pgL z bs vs since b) ∧ Below w.heap.size w w' := by
  obtain ⟨hb1, hb2⟩ := h.hb
  obtain ⟨hz1, hz2⟩ := h.hz
  go_enter Tryz.func57, Tryz.ntmps57
  go_wp2
  go_loopw [5, 6] (fun o i wr => ∃ (k : Nat) (cs : List Value), k ≤ b ∧ i = .int .i64 k ∧ wr.ownsRow w.heap.size 83 3 o (pgL z bs vs since k).length cs ∧
      PgRows wr (fun B => w.heap.size ≤ B ∧ B < wr.heap.size ∧ some B ≠ o.ownBlock) cs (pgL z bs vs since k) ∧ Below w.heap.size w wr) (fun _ i _ => b - (intOf i).toNat)
  case atStart => exact ⟨0, [], by omega, rfl, World.ownsRow_nil _ _ _ _, PgRows.nil, Below.refl _ _⟩
  case round =>
    obtain ⟨k, cs, hk, rfl, hown, hP, hbw⟩ := hrel
    have hV := h.below hbw
    have hx2 := hV.blk.cell (j := 2) rfl
    have hszw := hbw.size
    by_cases hlt : k < b
    · have hl : k < vs.length := by rw [h.lv]; exact hlt
      have hx3 := hV.blk.cell (j := 3) rfl
      have yv : (ints vs ++ sv)[k]? = some (.int .i64 (vs.getD k 0)) := by
        rw [List.getElem?_append_left (by rw [ints_length]; exact hl), List.getElem?_eq_getElem (by rw [ints_length]; exact hl)]
        simp [ints, List.getD, List.getElem?_eq_getElem hl]
      have y0 := hV.ver.cell yv
      obtain ⟨y, hy⟩ : ∃ y, vs.getD k 0 = y := ⟨_, rfl⟩
      rw [hy] at y0 yv
      have hcl := pgL_length z bs vs since k
      by_cases h2 : 0 < y
      · by_cases h1 : since < y
        · have hc := hide (show pgL z bs vs since (k + 1) = pgL z bs vs since k ++ [((k : Int), y, segB bs k 1 z)] by
            rw [pgL, if_pos (by unfold pgB; rw [hy]; simp [h1, h2]), hy])
          clear hy
          obtain ⟨L, hL⟩ : ∃ L, pgL z bs vs since k = L := ⟨_, rfl⟩
          rw [hL] at hcl hown hP
          have HL := hide hL
          clear hL
          obtain ⟨A, c, q1, q2, q3, q4', q5⟩ := h.cells k hlt
          have q4 := q4'.below hbw
          have hsl := segB_length (bs := bs) (p := k) (n := 1) h.lb h.hN hlt
          rw [Nat.one_mul] at hsl
          have Hsl := hide hsl
          clear hsl
          have Mk := hide (show ∀ X, Below w.heap.size w X → (Below w.heap.size w X ∧ X.cell? ⟨rv, 2, none⟩ = some (.slice (some ⟨gb, 0, none⟩) b cb) ∧ X.cell? ⟨gb, k, none⟩ = some (.slice A z c) ∧ X.cell? ⟨rv, 3, none⟩ = some (.slice (some ⟨gv, 0, none⟩) b cv) ∧ X.cell? ⟨gv, k, none⟩ = some (.int .i64 y)) from fun X hX =>
            ⟨hX, (h.below hX).blk.cell (j := 2) rfl, Blk.cell (h.row.below hX) q1, (h.below hX).blk.cell (j := 3) rfl, Blk.cell (h.ver.below hX) yv⟩)
          have S0 := Mk.out wr.drew hbw.drew
          have MkA := hide (show ∀ X o, (Below w.heap.size w X ∧ X.cell? ⟨rv, 2, none⟩ = some (.slice (some ⟨gb, 0, none⟩) b cb) ∧ X.cell? ⟨gb, k, none⟩ = some (.slice A z c) ∧ X.cell? ⟨rv, 3, none⟩ = some (.slice (some ⟨gv, 0, none⟩) b cv) ∧ X.cell? ⟨gv, k, none⟩ = some (.int .i64 y)) → (Below w.heap.size w (X.alloc o) ∧ (X.alloc o).cell? ⟨rv, 2, none⟩ = some (.slice (some ⟨gb, 0, none⟩) b cb) ∧ (X.alloc o).cell? ⟨gb, k, none⟩ = some (.slice A z c) ∧ (X.alloc o).cell? ⟨rv, 3, none⟩ = some (.slice (some ⟨gv, 0, none⟩) b cv) ∧ (X.alloc o).cell? ⟨gv, k, none⟩ = some (.int .i64 y)) from fun X o h => Mk.out _ (h.1.alloc h.1.size _))
          have ow : (wr.alloc (.cells #[] 5)).drew.ownsRow wr.heap.size 5 1 (.slice (some ⟨wr.heap.size, 0, none⟩) 0 0) 0 [] := (Grow.empty wr 5 1).drew.owns
          have bA : Below wr.heap.size wr (wr.alloc (.cells #[] 5)).drew := ((Below.refl _ _).alloc (Nat.le_refl _) _).drew
          have hDA : Rd (wr.alloc (.cells #[] 5)).drew A (bys (segB bs k 1 z)) := q4.below bA
          have hL0 : (0 + z) * 1 ≤ 140737488355328 := by omega
          have hL1 : 0 + z ≤ 140737488355328 := by omega
          have hP0 : (L.length + 1) * 40 ≤ 140737488355328 := by omega
          have hP1 : L.length + 1 ≤ 140737488355328 := by omega
          have HOb := hide (show ∀ X, Below wr.heap.size wr X → X.ownsRow w.heap.size 83 3 u5 L.length cs from fun X hX => own_below hown hX)
          have HLe := hide (show ∀ X o, Below wr.heap.size wr X → w.heap.size ≤ (X.alloc o).heap.size from fun X o hX => by have := hX.size; simp; omega)
          have one3 : ∀ (c5 : Nat) (A5 : Option Addr), ∀ u ∈ [Value.int .i64 (k : Int), .int .i64 y, .slice A5 z c5], u.oneCell' = true := by intro c5 A5 u hu; simp at hu; rcases hu with rfl | rfl | rfl <;> rfl
          have hlo := own_lt hown
          go_wp2_with fail
          go_region_held_law (fun W => Below w.heap.size w W ∧ W.cell? ⟨rv, 2, none⟩ = some (.slice (some ⟨gb, 0, none⟩) b cb) ∧ W.cell? ⟨gb, k, none⟩ = some (.slice A z c) ∧ W.cell? ⟨rv, 3, none⟩ = some (.slice (some ⟨gv, 0, none⟩) b cv) ∧ W.cell? ⟨gv, k, none⟩ = some (.int .i64 y)) (first | assumption | exact MkA.out _ _ (by assumption)) (first
            | (refine step_own rfl rfl tBytes (by simp [Act.eval]) ow (by simp [Act.eval]; rfl) (by rw [bys_length, Hsl.out, Nat.mul_one]) hDA (bys_one _) hL0 hL1 (by simp) ?_; intro v' w' ho' hg' _; rw [Nat.zero_add, List.nil_append] at ho'; obtain ⟨A5, c5, rfl, hl5, hc5, hcm5, hr5, ha5⟩ := own_out ho'; have hb5 : Below wr.heap.size wr w' := bA.grown hg' (by simp) (fun g hg => by simp [Value.ownBlock] at hg; omega); have s5 := Mk.out _ (hbw.trans (hb5.mono hszw)))
            | (refine step_own (v := u5) rfl rfl tPages (by simp [Act.eval]) (HOb.out _ (hb5.alloc hb5.size _)) (by simp [Act.eval]; rfl) (m := 1) (news := [.int .i64 k, .int .i64 y, .slice A5 z c5]) rfl (Rd.newN w' [.int .i64 k, .int .i64 y, .slice A5 z c5] _ (0, 0)) (one3 c5 A5) hP0 hP1 (HLe.out _ _ hb5) ?_; intro v6 w6 ho6 hg6 hv6; have hb6 : Below w.heap.size w w6 := (hbw.trans ((hb5.alloc hb5.size _).mono hszw)).grown hg6 (HLe.out _ _ hb5) (fun g hg => (hlo g hg).1); have s6 := Mk.out w6 hb6))
          all_goals
            obtain ⟨w4, hw4⟩ : ∃ x, w'.alloc (.cells #[.int .i64 k, .int .i64 y, .slice A5 z c5] 83) = x := ⟨_, rfl⟩
            have hb54 : Below w'.heap.size w' w4 := by rw [← hw4]; exact (Below.refl _ _).alloc (Nat.le_refl _) _
            have hb4 : Below wr.heap.size wr w4 := hb5.trans (hb54.mono hb5.size)
            have hg6' : w4.grownBy w6 (Value.ownBlock u5) := by rw [← hw4]; exact hg6
            have hv6' : v6.ownBlock = Value.ownBlock u5 ∨ v6.ownBlock = some w4.heap.size := by rw [← hw4]; exact hv6
            have hr4 := hr5.below hb54
            have hsz5 := hb5.size
            have hsz4 : w'.heap.size + 1 = w4.heap.size := by rw [← hw4, World.size_alloc]
            have hsz6 := hg6'.size
            clear hg6 hv6 hw4 s5 s6
            have hne : ∀ B, B < w4.heap.size → some B ≠ Value.ownBlock u5 → some B ≠ v6.ownBlock := fun B hB hB' e => by
              rcases hv6' with e' | e'
              · rw [e'] at e; exact hB' e
              · rw [e'] at e; injection e with e; omega
            have hne3 : ∀ a, A5 = some a → some a.block ≠ Value.ownBlock u5 := fun a ha e => by
              have h1 := hlo _ e.symm
              have h2 := ha5 a ha
              omega
            have hP5 : PgRows w6 (fun B => w.heap.size ≤ B ∧ B < w6.heap.size ∧ some B ≠ v6.ownBlock) (cs ++ [.int .i64 k, .int .i64 y, .slice A5 z c5]) (L ++ [((k : Int), y, segB bs k 1 z)]) :=
              (hP.keep (fun A xs hr hq => (hr.below hb4).grown hg6' (fun a ha => (hq a ha).2.2)) (fun B hB => ⟨hB.1, by have := hB.2.1; omega, hne B (by have := hB.2.1; omega) hB.2.2⟩)).snoc Hsl.out hc5 (by unfold maxLen at hcm5; omega) (hr4.grown hg6' hne3)
                (fun a ha => ⟨by have := ha5 a ha; omega, by have := ha5 a ha; omega, hne _ (by have := ha5 a ha; omega) (hne3 a ha)⟩)
            go_wp2
            go_roundw
            case rel => exact ⟨k + 1, _, by omega, by go_num, by rw [hc.out, HL.out]; simpa using ho6, by rw [hc.out, HL.out]; exact hP5, hb6⟩
            case measure => simp [intOf]; omega
        · have hc := hide (show pgL z bs vs since (k + 1) = pgL z bs vs since k by
            rw [pgL, if_neg (by unfold pgB; rw [hy]; simp; omega)])
          clear hy
          go_wp2
          go_roundw
          case rel => exact ⟨k + 1, cs, by omega, by go_num, by rw [hc.out]; exact hown, by rw [hc.out]; exact hP, hbw⟩
          case measure => simp [intOf]; omega
      · have hc := hide (show pgL z bs vs since (k + 1) = pgL z bs vs since k by
          rw [pgL, if_neg (by unfold pgB; rw [hy]; simp; omega)])
        clear hy
        go_wp2
        go_roundw
        case rel => exact ⟨k + 1, cs, by omega, by go_num, by rw [hc.out]; exact hown, by rw [hc.out]; exact hP, hbw⟩
        case measure => simp [intOf]; omega
    · obtain rfl : k = b := by omega
      obtain ⟨A, c, rfl, _, _, _, _, _⟩ := own_out hown
      go_wp2
      go_ret
      exact ⟨_, cs, rfl, hown, hP, hbw⟩
end Go.Proofs.YtkknkdjdneldlaaGreat
namespace Go.Proofs.YtkknkdjdneldlaaGreat
set_option maxRecDepth 20000
open Go.RowKit Go.Px
set_option linter.unusedVariables false
theorem RowsNew.trans {b z B : Nat} {rows rows' rows2 : List Value} (h : RowsNew b z B rows rows') (h2 : RowsNew b z B rows' rows2) : RowsNew b z B rows rows2 := fun i A c hi hr => by
  rcases h2 i A c hi hr with h3 | h3
  · exact h i A c hi h3
  · exact .inr h3
set_option maxHeartbeats 6400000 in
theorem rpatch_okN (w : World) (lo rv gb gv cb cv b z N : Nat) (rows sv : List Value) (bs : List UInt8) (vs : List Int) (last : Int) (A : Option Addr) (n c : Nat) (cs : List Value) (ps : List (Int × Int × List UInt8)) (h : RVolIs w lo rv gb gv cb cv b z N rows sv bs vs last) (hn : ps.length = n) (hnc : n ≤ c) (hc : c ≤ 9223372036854775807)
    (hr : Rd w A cs) (hA : ps ≠ [] → ∀ a, A = some a → a.block ≠ rv ∧ a.block ≠ gb ∧ a.block ≠ gv) (hP : PgRows w (fun B => B ≠ rv ∧ B ≠ gb ∧ B ≠ gv) cs ps) (hm : mpA b z (-1) ps = true) :
    Calls Tryz.prog 62 #[.pointer (some ⟨rv, 0, none⟩), .slice A n c] w fun e w' => e = .returned (.int .i64 0) ∧ (∃ rows', RVolIs w' lo rv gb gv cb cv b z N rows' sv (layB z bs ps) (layV vs ps) (layL last ps) ∧ RowsNew b z w.heap.size rows rows') ∧ Upd rv gb gv w w' := by
  have x0 := h.blk.cell (j := 0) rfl
  have x1 := h.blk.cell (j := 1) rfl
  obtain ⟨hz1, hz2⟩ := h.hz
  have Hm := hide hm
  have hgd := good_of_mpA (by omega) hm
  have hl := hP.1
  clear hm
  go_enter Tryz.func62, Tryz.ntmps62
  go_wp2_with fail
  go_fit (rlaid_any b z A n c cs ps _ w hn hnc hc hr hP)
  rw [Hm.out]
  rintro x w1 ⟨rfl, hb1⟩
  have hU1 := Upd.of_below (v := rv) (r := gb) (s := gv) hb1
  have hV1 := h.below hb1
  have hr1 := hr.below hb1
  have hP1 := hP.below hb1
  clear x0 x1
  go_wp2
  go_loopw [5] (fun i wr => ∃ (k : Nat) (rows' : List Value), k ≤ n ∧ i = .int .i64 k ∧ RVolIs wr lo rv gb gv cb cv b z N rows' sv (layB z bs (ps.take k)) (layV vs (ps.take k)) (layL last (ps.take k)) ∧ RowsNew b z w.heap.size rows rows' ∧ Upd rv gb gv w1 wr) (fun i _ => n - (intOf i).toNat)
  case atStart => exact ⟨0, rows, by omega, rfl, hV1, RowsNew.refl _ _ _ _, Upd.of_below (Below.refl _ _)⟩
  case round =>
    obtain ⟨k, rows', hk, rfl, hV, hRN, hU⟩ := hrel
    by_cases hlt : k < n
    · have hAn := hA (by rintro rfl; simp at hn; omega)
      obtain ⟨p, hp⟩ : ∃ p, ps[k]? = some p := ⟨_, List.getElem?_eq_getElem (by omega)⟩
      obtain ⟨A', m, c', h1, h2, h3, h4, h5, h6, h7, h8⟩ := (hP1.keep (w' := wr) (fun A xs hr hq => Rd.upd hr hU hq) (fun _ h => h)).2 k p hp
      have hrw := Rd.upd hr1 hU hAn
      obtain ⟨P, e1, hPb, hPz, hser⟩ := hgd k p hp
      have t1 : layB z bs (ps.take (k + 1)) = splB (layB z bs (ps.take k)) (P * z) p.2.2 := by unfold layB; rw [take_snoc hp, List.foldl_append, List.foldl_cons, List.foldl_nil, e1]; rfl
      have t2 : layV vs (ps.take (k + 1)) = (layV vs (ps.take k)).set P p.2.1 := by unfold layV; rw [take_snoc hp, List.foldl_append, List.foldl_cons, List.foldl_nil, e1]; rfl
      have t3 : layL last (ps.take (k + 1)) = max (layL last (ps.take k)) p.2.1 := by unfold layL; rw [take_snoc hp, List.foldl_append, List.foldl_cons, List.foldl_nil]
      obtain ⟨p1, p2, pd⟩ := p
      simp only at e1 h1 h2 h4 h7 hPz t1 t2 t3
      subst e1
      obtain ⟨xb, hxb⟩ : ∃ x, layB z bs (ps.take k) = x := ⟨_, rfl⟩
      obtain ⟨xv, hxv⟩ : ∃ x, layV vs (ps.take k) = x := ⟨_, rfl⟩
      obtain ⟨xl, hxl⟩ : ∃ x, layL last (ps.take k) = x := ⟨_, rfl⟩
      rw [hxb] at t1
      rw [hxv] at t2
      rw [hxl] at t3
      rw [hxb, hxv, hxl] at hV
      have T1 := hide t1
      have T2 := hide t2
      have T3 := hide t3
      have hmz : m = z := by omega
      have H4 := hide h4
      have Hmz := hide hmz
      have hin : P + 1 ≤ b := hPb
      obtain ⟨a, rfl, hat⟩ := hrw.some_of (xs := cs) (by omega)
      have y0 := rd3_0 hat h1
      have y1 := rd3_S (i := 0) hat h2
      have y2 := rd3_S (i := 1) hat h3
      have S0 : (wr.drew).cell? (a.add (k * 3)) = some (.int .i64 P) ∧ (wr.drew).cell? ⟨(a.add (k * 3)).block, (a.add (k * 3)).off + 1, none⟩ = some (.int .i64 p2) ∧ (wr.drew).cell? ⟨(a.add (k * 3)).block, (a.add (k * 3)).off + 2, none⟩ = some (.slice A' m c') := ⟨y0, y1, y2⟩
      clear t1 t2 t3 hxb hxv hxl hmz hPz h4
      go_wp2_with fail
      go_region_with (first
        | (go_at_call 108; refine (rwrite_any _ lo rv gb gv cb cv b z N rows' sv xb xv xl P 1 A' m c' pd p2 (hV.drewN2 1) hin H4.out (by rw [Nat.one_mul]; exact Hmz.out) h5 h6 (h7.drewN 1) h8).mono ?_; rintro x w2 ⟨rfl, ⟨rows2, hV2, hRN2⟩, hU2⟩))
      all_goals
        have hU2' : Upd rv gb gv w1 w2 := (hU.drewN2 1).trans hU2
        have hst : stampL xv P p2 1 = xv.set P p2 := rfl
        rw [hst] at hV2
        obtain ⟨xb', hxb'⟩ : ∃ x, splB xb (P * z) pd = x := ⟨_, rfl⟩
        rw [hxb'] at hV2
        rw [hxb'] at T1
        have hr2 := Rd.upd (hrw.drewN 1) hU2 hAn
        clear y0 y1 y2 S0 hxb' hst
        have y1 := rd3_S (i := 0) (fun j u hu => hr2.at_ hu) h2
        have v4 := hV2.blk.cell (j := 4) rfl
        have z4 := hV2.blk.frozen 4
        go_wp2_with fail
        go_region
        have hmx : (if xl < p2 then p2 else xl) = max xl p2 := by split <;> omega
        rw [hmx]
        have hV5 := (hV2.setLast (max xl p2)).drewN2 1
        have hU5 := (hU2'.set_v 4 (.int .i64 (max xl p2))).drewN2 1
        clear hmx v4 z4
        go_wp2
        go_roundw
        case rel => exact ⟨k + 1, rows2, by omega, by go_num, by rw [T1.out, T2.out, T3.out]; exact hV5, hRN.trans (hRN2.mono (Nat.le_trans hb1.size hU.size)), hU5⟩
        case measure => simp [intOf]; omega
    · obtain rfl : k = n := by omega
      rw [List.take_of_length_le (by omega)] at hV
      go_wp2
      go_ret
      exact ⟨rfl, ⟨rows', hV, hRN⟩, hU1.trans hU⟩
end Go.Proofs.YtkknkdjdneldlaaGreat
