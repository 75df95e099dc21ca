/- plinthref05: Patch at any pages. -/
import Derived.Test.YtjilkaciopiabaaDoorF05v
import Derived.Test.YtjilkaciopiabaaDoorG05b
import Derived.Deep.RegionHeldLaw
namespace Go.Proofs.YtjilkaciopiabaaDoor
open Go.RowKit Go.Px
set_option linter.unusedVariables false
theorem rd_lt3 {w : World} {A : Option Addr} {ds : List UInt8} (h : Rd w A (bys ds)) (hne : ds ≠ []) : ∀ a, A = some a → a.block < w.heap.size := by
  intro a ha
  subst ha
  have h0 : 0 < (bys ds).length := by rw [bys_length]; exact List.length_pos_iff.2 hne
  have := h.at_ (List.getElem?_eq_getElem h0)
  have := World.block_lt_of_cell? w _ this
  rwa [add_block] at this
theorem RVolIs.drewN2 {w : World} {lo rv gb gv cb cv b z N : Nat} {rows sv : List Value} {bs : List UInt8} {vs : List Int} {last : Int} (h : RVolIs w lo rv gb gv cb cv b z N rows sv bs vs last) (q : Nat) : RVolIs (w.drewN q) lo rv gb gv cb cv b z N rows sv bs vs last := by
  have hc : ∀ i, i < b → ∃ A c, rows[i]? = some (.slice A z c) ∧ z ≤ c ∧ c ≤ 9223372036854775807 ∧ Rd (w.drewN q) A (bys (segB bs i 1 z)) ∧ ∀ a, A = some a → lo ≤ a.block ∧ a.block ≠ rv ∧ a.block ≠ gb ∧ a.block ≠ gv := fun i hi => by
    obtain ⟨A, c, k1, k2, k3, k4, k5⟩ := h.cells i hi
    exact ⟨A, c, k1, k2, k3, k4.drewN q, k5⟩
  exact { h with blk := h.blk, row := h.row, ver := h.ver, cells := hc }
theorem Upd.drewN2 {v r s : Nat} {w w' : World} (h : Upd v r s w w') (q : Nat) : Upd v r s w (w'.drewN q) := ⟨h.os, h.tape, h.output, h.size, h.blk⟩
theorem PgRows.goodlt {w : World} {Q : Nat → Prop} {cs : List Value} {ps : List (Int × Int × List UInt8)} {b z : Nat} (h : PgRows w Q cs ps) (hg : Good b z ps) (hz : 1 ≤ z) : PgRows w (fun B => B < w.heap.size) cs ps :=
  ⟨h.1, fun j p hp => by
    obtain ⟨A, n, c, h1, h2, h3, h4, h5, h6, h7, h8⟩ := h.2 j p hp
    obtain ⟨P, _, _, hl, _⟩ := hg j p hp
    refine ⟨A, n, c, h1, h2, h3, h4, h5, h6, h7, fun a ha => ?_⟩
    exact rd_lt3 h7 (by intro e; rw [e] at hl; simp at hl; omega) a ha⟩
theorem rd_cells_lt {w : World} {A : Option Addr} {cs : List Value} {ps : List (Int × Int × List UInt8)} (hr : Rd w A cs) (hl : cs.length = 3 * ps.length) (hne : ps ≠ []) : ∀ a, A = some a → a.block < w.heap.size := by
  intro a ha
  subst ha
  have h0 : 0 < cs.length := by
    cases ps with
    | nil => exact absurd rfl hne
    | cons p r => simp at hl; omega
  have := hr.at_ (List.getElem?_eq_getElem h0)
  have := World.block_lt_of_cell? w _ this
  rwa [add_block] at this
set_option maxHeartbeats 3200000 in
theorem rpatch_bad (w : World) (lo rv gb gv cb cv b z N : Nat) (rows sv : List Value) (bs : List UInt8) (vs : List Int) (last : Int) (A : Option Addr) (n c : Nat) (cs : List Value) (ps : List (Int × Int × List UInt8)) (Q : Nat → Prop) (h : RVolIs w lo rv gb gv cb cv b z N rows sv bs vs last) (hn : ps.length = n) (hnc : n ≤ c) (hc : c ≤ 9223372036854775807)
    (hr : Rd w A cs) (hP : PgRows w Q cs ps) (hm : mpA b z (-1) ps = false) :
    Calls Tryd.prog 21 #[.pointer (some ⟨rv, 0, none⟩), .slice A n c] w fun e w' => e = .returned (.int .i64 50) ∧ Below w.heap.size w w' := by
  have x0 := h.blk.cell (j := 0) rfl
  have x1 := h.blk.cell (j := 1) rfl
  have Hm := hide hm
  clear hm
  go_enter Tryd.func21, Tryd.ntmps21
  go_wp2_with fail
  go_fit (rlaid_any b z A n c cs ps _ w hn hnc hc hr hP)
  rw [Hm.out]
  rintro x w1 ⟨rfl, hb1⟩
  go_wp2
  go_ret
  exact ⟨rfl, hb1⟩
set_option maxHeartbeats 6400000 in
theorem rpatch_ok (w : World) (lo rv gb gv cb cv b z N : Nat) (rows sv : List Value) (bs : List UInt8) (vs : List Int) (last : Int) (A : Option Addr) (n c : Nat) (cs : List Value) (ps : List (Int × Int × List UInt8)) (h : RVolIs w lo rv gb gv cb cv b z N rows sv bs vs last) (hn : ps.length = n) (hnc : n ≤ c) (hc : c ≤ 9223372036854775807)
    (hr : Rd w A cs) (hA : ps ≠ [] → ∀ a, A = some a → a.block ≠ rv ∧ a.block ≠ gb ∧ a.block ≠ gv) (hP : PgRows w (fun B => B ≠ rv ∧ B ≠ gb ∧ B ≠ gv) cs ps) (hm : mpA b z (-1) ps = true) :
    Calls Tryd.prog 21 #[.pointer (some ⟨rv, 0, none⟩), .slice A n c] w fun e w' => e = .returned (.int .i64 0) ∧ (∃ rows', RVolIs w' lo rv gb gv cb cv b z N rows' sv (layB z bs ps) (layV vs ps) (layL last ps)) ∧ Upd rv gb gv w w' := by
  have x0 := h.blk.cell (j := 0) rfl
  have x1 := h.blk.cell (j := 1) rfl
  obtain ⟨hz1, hz2⟩ := h.hz
  have Hm := hide hm
  have hgd := good_of_mpA (by omega) hm
  have hl := hP.1
  clear hm
  go_enter Tryd.func21, Tryd.ntmps21
  go_wp2_with fail
  go_fit (rlaid_any b z A n c cs ps _ w hn hnc hc hr hP)
  rw [Hm.out]
  rintro x w1 ⟨rfl, hb1⟩
  have hU1 := Upd.of_below (v := rv) (r := gb) (s := gv) hb1
  have hV1 := h.below hb1
  have hr1 := hr.below hb1
  have hP1 := hP.below hb1
  clear x0 x1
  go_wp2
  go_loopw [5] (fun i wr => ∃ (k : Nat) (rows' : List Value), k ≤ n ∧ i = .int .i64 k ∧ RVolIs wr lo rv gb gv cb cv b z N rows' sv (layB z bs (ps.take k)) (layV vs (ps.take k)) (layL last (ps.take k)) ∧ Upd rv gb gv w1 wr) (fun i _ => n - (intOf i).toNat)
  case atStart => exact ⟨0, rows, by omega, rfl, hV1, Upd.of_below (Below.refl _ _)⟩
  case round =>
    obtain ⟨k, rows', hk, rfl, hV, hU⟩ := hrel
    by_cases hlt : k < n
    · have hAn := hA (by rintro rfl; simp at hn; omega)
      obtain ⟨p, hp⟩ : ∃ p, ps[k]? = some p := ⟨_, List.getElem?_eq_getElem (by omega)⟩
      obtain ⟨A', m, c', h1, h2, h3, h4, h5, h6, h7, h8⟩ := (hP1.keep (w' := wr) (fun A xs hr hq => Rd.upd hr hU hq) (fun _ h => h)).2 k p hp
      have hrw := Rd.upd hr1 hU hAn
      obtain ⟨P, e1, hPb, hPz, hser⟩ := hgd k p hp
      have t1 : layB z bs (ps.take (k + 1)) = splB (layB z bs (ps.take k)) (P * z) p.2.2 := by unfold layB; rw [take_snoc hp, List.foldl_append, List.foldl_cons, List.foldl_nil, e1]; rfl
      have t2 : layV vs (ps.take (k + 1)) = (layV vs (ps.take k)).set P p.2.1 := by unfold layV; rw [take_snoc hp, List.foldl_append, List.foldl_cons, List.foldl_nil, e1]; rfl
      have t3 : layL last (ps.take (k + 1)) = max (layL last (ps.take k)) p.2.1 := by unfold layL; rw [take_snoc hp, List.foldl_append, List.foldl_cons, List.foldl_nil]
      obtain ⟨p1, p2, pd⟩ := p
      simp only at e1 h1 h2 h4 h7 hPz t1 t2 t3
      subst e1
      obtain ⟨xb, hxb⟩ : ∃ x, layB z bs (ps.take k) = x := ⟨_, rfl⟩
      obtain ⟨xv, hxv⟩ : ∃ x, layV vs (ps.take k) = x := ⟨_, rfl⟩
      obtain ⟨xl, hxl⟩ : ∃ x, layL last (ps.take k) = x := ⟨_, rfl⟩
      rw [hxb] at t1
      rw [hxv] at t2
      rw [hxl] at t3
      rw [hxb, hxv, hxl] at hV
      have T1 := hide t1
      have T2 := hide t2
      have T3 := hide t3
      have hmz : m = z := by omega
      have H4 := hide h4
      have Hmz := hide hmz
      have hin : P + 1 ≤ b := hPb
      obtain ⟨a, rfl, hat⟩ := hrw.some_of (xs := cs) (by omega)
      have y0 := rd3_0 hat h1
      have y1 := rd3_S (i := 0) hat h2
      have y2 := rd3_S (i := 1) hat h3
      have S0 : (wr.drew).cell? (a.add (k * 3)) = some (.int .i64 P) ∧ (wr.drew).cell? ⟨(a.add (k * 3)).block, (a.add (k * 3)).off + 1, none⟩ = some (.int .i64 p2) ∧ (wr.drew).cell? ⟨(a.add (k * 3)).block, (a.add (k * 3)).off + 2, none⟩ = some (.slice A' m c') := ⟨y0, y1, y2⟩
      clear t1 t2 t3 hxb hxv hxl hmz hPz h4
      go_wp2_with fail
      go_region_with (first
        | (go_at_call 38; refine (rwrite_any _ lo rv gb gv cb cv b z N rows' sv xb xv xl P 1 A' m c' pd p2 (hV.drewN2 1) hin H4.out (by rw [Nat.one_mul]; exact Hmz.out) h5 h6 (h7.drewN 1) h8).mono ?_; rintro x w2 ⟨rfl, ⟨rows2, hV2, hRN2⟩, hU2⟩))
      all_goals
        have hU2' : Upd rv gb gv w1 w2 := (hU.drewN2 1).trans hU2
        have hst : stampL xv P p2 1 = xv.set P p2 := rfl
        rw [hst] at hV2
        obtain ⟨xb', hxb'⟩ : ∃ x, splB xb (P * z) pd = x := ⟨_, rfl⟩
        rw [hxb'] at hV2
        rw [hxb'] at T1
        have hr2 := Rd.upd (hrw.drewN 1) hU2 hAn
        clear y0 y1 y2 S0 hxb' hst
        have y1 := rd3_S (i := 0) (fun j u hu => hr2.at_ hu) h2
        have v4 := hV2.blk.cell (j := 4) rfl
        have z4 := hV2.blk.frozen 4
        go_wp2_with fail
        go_region
        have hmx : (if xl < p2 then p2 else xl) = max xl p2 := by split <;> omega
        rw [hmx]
        have hV5 := (hV2.setLast (max xl p2)).drewN2 1
        have hU5 := (hU2'.set_v 4 (.int .i64 (max xl p2))).drewN2 1
        clear hmx v4 z4
        go_wp2
        go_roundw
        case rel => exact ⟨k + 1, rows2, by omega, by go_num, by rw [T1.out, T2.out, T3.out]; exact hV5, hU5⟩
        case measure => simp [intOf]; omega
    · obtain rfl : k = n := by omega
      rw [List.take_of_length_le (by omega)] at hV
      go_wp2
      go_ret
      exact ⟨rfl, ⟨rows', hV⟩, hU1.trans hU⟩
end Go.Proofs.YtjilkaciopiabaaDoor
