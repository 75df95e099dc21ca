/- volume.lay, Patch, at any pages. -/
import Derived.Test.YtjilkaciopiabaaDoorF05o
namespace Go.Proofs.YtjilkaciopiabaaDoor
open Go.RowKit Go.Px
set_option linter.unusedVariables false
def layB (z : Nat) (bs : List UInt8) (ps : List (Int × Int × List UInt8)) : List UInt8 := ps.foldl (fun x p => splB x (p.1.toNat * z) p.2.2) bs
def layV (vs : List Int) (ps : List (Int × Int × List UInt8)) : List Int := ps.foldl (fun x p => x.set p.1.toNat p.2.1) vs
def layL (last : Int) (ps : List (Int × Int × List UInt8)) : Int := ps.foldl (fun x p => max x p.2.1) last
theorem take_snoc {α : Type} {l : List α} {k : Nat} {p : α} (h : l[k]? = some p) : l.take (k + 1) = l.take k ++ [p] := by
  rw [List.take_add_one, h]; rfl
/-- A reading of what lies apart from the volume's blocks. -/
theorem Rd.upd {w w' : World} {v r s : Nat} {A : Option Addr} {xs : List Value} (hR : Rd w A xs) (hU : Upd v r s w w') (hA : ∀ a, A = some a → a.block ≠ v ∧ a.block ≠ r ∧ a.block ≠ s) : Rd w' A xs := fun j u hu => by
  obtain ⟨a, rfl, hc⟩ := hR j u hu
  obtain ⟨a1, a2, a3⟩ := hA a rfl
  have hlt : (a.add j).block < w.heap.size := World.block_lt_of_cell? w _ hc
  refine ⟨a, rfl, ?_⟩
  rw [← hc]
  unfold World.cell?
  rw [hU.blk (a.add j).block hlt (by rw [add_block]; exact a1) (by rw [add_block]; exact a2) (by rw [add_block]; exact a3)]
theorem Upd.setS {v r s : Nat} (w : World) (j : Nat) (u : Value) : Upd v r s w (w.setCell ⟨s, j, none⟩ u) := ⟨rfl, rfl, rfl, by simp, fun k _ _ _ h => heap_setCell_other w ⟨s, j, none⟩ k u h⟩
theorem Upd.drew {v r s : Nat} {w w' : World} (h : Upd v r s w w') : Upd v r s w w'.drew := h.trans (Upd.of_below (Below.refl _ _).drew)
/-- Pages that may be laid on a volume of b blocks of z bytes. -/
def Good (b z : Nat) (ps : List (Int × Int × List UInt8)) : Prop := ∀ (j : Nat) (p : Int × Int × List UInt8), ps[j]? = some p → ∃ P : Nat, p.1 = (P : Int) ∧ P < b ∧ p.2.2.length = z ∧ serB p.2.1 = true
theorem good_of_mpA {b z : Nat} : ∀ {ps : List (Int × Int × List UInt8)} {ah : Int}, -1 ≤ ah → mpA b z ah ps = true → Good b z ps
  | [], _, _, _ => fun j p h => by simp at h
  | p :: r, ah, ha, h => by
    by_cases hp : ¬ p.1 ≤ ah ∧ ¬ (b : Int) ≤ p.1 ∧ serB p.2.1 = true ∧ (p.2.2.length : Int) = z
    · rw [mpA_yes hp] at h
      obtain ⟨h1, h2, h3, h4⟩ := hp
      intro j q hq
      cases j with
      | zero =>
        simp at hq
        subst hq
        exact ⟨p.1.toNat, by omega, by omega, by omega, h3⟩
      | succ j => exact good_of_mpA (ah := p.1) (by omega) h j q (by simpa using hq)
    · rw [mpA_no hp] at h; cases h
set_option maxHeartbeats 3200000 in
theorem lay_any (w : World) (v r s b z N : Nat) (bs : List UInt8) (vs : List Int) (last : Int) (A : Option Addr) (n c : Nat) (cs : List Value) (ps : List (Int × Int × List UInt8)) (h : VolIs w v r s b z N bs vs last) (hn : ps.length = n) (hnc : n ≤ c) (hc : c ≤ 9223372036854775807)
    (hr : Rd w A cs) (hA : ∀ a, A = some a → a.block ≠ v ∧ a.block ≠ r ∧ a.block ≠ s) (hP : PgRows w (fun B => B ≠ v ∧ B ≠ r ∧ B ≠ s) cs ps) (hg : Good b z ps) :
    Calls Tryd.prog 33 #[.pointer (some ⟨v, 0, none⟩), .slice A n c] w fun e w' => e = .returned (.tuple #[]) ∧ VolIs w' v r s b z N (layB z bs ps) (layV vs ps) (layL last ps) ∧ Upd v r s w w' := by
  obtain ⟨hb1, hb2⟩ := h.hb
  obtain ⟨hz1, hz2⟩ := h.hz
  have hl := hP.1
  have vlt := h.blk.lt
  have rlt := h.row.lt
  have slt := h.ver.lt
  go_enter Tryd.func33, Tryd.ntmps33
  go_wp2
  go_loopw [8] (fun i wr => ∃ (k : Nat), k ≤ n ∧ i = .int .i64 k ∧ VolIs wr v r s b z N (layB z bs (ps.take k)) (layV vs (ps.take k)) (layL last (ps.take k)) ∧ Upd v r s w wr) (fun i _ => n - (intOf i).toNat)
  case atStart => exact ⟨0, by omega, rfl, h, Upd.of_below (Below.refl _ _)⟩
  case round =>
    obtain ⟨k, hk, rfl, hV, hU⟩ := hrel
    have gsz := hU.size
    by_cases hlt : k < n
    · obtain ⟨p, hp⟩ : ∃ p, ps[k]? = some p := ⟨_, List.getElem?_eq_getElem (by omega)⟩
      obtain ⟨A', m, c', h1, h2, h3, h4, h5, h6, h7, h8⟩ := (hP.keep (w' := wr) (fun A xs hr hq => Rd.upd hr hU hq) (fun _ h => h)).2 k p hp
      obtain ⟨a, rfl, hat⟩ := (Rd.upd hr hU hA).some_of (xs := cs) (by omega)
      obtain ⟨P, e1, hPb, hPz, hser⟩ := hg k p hp
      have y0 := rd3_0 hat h1
      have y1 := rd3_S (i := 0) hat h2
      have y2 := rd3_S (i := 1) hat h3
      have t1 : layB z bs (ps.take (k + 1)) = splB (layB z bs (ps.take k)) (P * z) p.2.2 := by unfold layB; rw [take_snoc hp, List.foldl_append, List.foldl_cons, List.foldl_nil, e1]; rfl
      have t2 : layV vs (ps.take (k + 1)) = (layV vs (ps.take k)).set P p.2.1 := by unfold layV; rw [take_snoc hp, List.foldl_append, List.foldl_cons, List.foldl_nil, e1]; rfl
      have t3 : layL last (ps.take (k + 1)) = max (layL last (ps.take k)) p.2.1 := by unfold layL; rw [take_snoc hp, List.foldl_append, List.foldl_cons, List.foldl_nil]
      obtain ⟨p1, p2, pd⟩ := p
      simp only at e1 h1 h2 h4 h7 y0 y1 hPz t1 t2 t3
      subst e1
      obtain ⟨xb, hxb⟩ : ∃ x, layB z bs (ps.take k) = x := ⟨_, rfl⟩
      obtain ⟨xv, hxv⟩ : ∃ x, layV vs (ps.take k) = x := ⟨_, rfl⟩
      obtain ⟨xl, hxl⟩ : ∃ x, layL last (ps.take k) = x := ⟨_, rfl⟩
      rw [hxb] at t1
      rw [hxv] at t2
      rw [hxl] at t3
      rw [hxb, hxv, hxl] at hV
      have T1 := hide t1
      have T2 := hide t2
      have T3 := hide t3
      clear t1 t2 t3 hxb hxv hxl
      have hmz : m = z := by omega
      obtain ⟨g1, hg1⟩ : ∃ g, wr.heap.size = g := ⟨_, rfl⟩
      obtain ⟨w1, hw1⟩ : ∃ x, wr.alloc (.cells #[.int .i64 P, .int .i64 p2, .slice A' m c'] 80) = x := ⟨_, rfl⟩
      have hB1 : Blk w1 g1 [.int .i64 P, .int .i64 p2, .slice A' m c'] 80 := by rw [← hw1, ← hg1]; exact Blk.new wr [.int .i64 P, .int .i64 p2, .slice A' m c'] _
      have hb01 : Below wr.heap.size wr w1 := by rw [← hw1]; exact (Below.refl _ _).alloc (Nat.le_refl _) _
      have hV1 := hV.below hb01
      have hD1 := h7.below hb01
      have hU1 := hU.trans (Upd.of_below (v := v) (r := r) (s := s) hb01)
      have Hw1 := hide hw1
      have H4 := hide h4
      have Hmz := hide hmz
      have hin : P + 1 ≤ b := hPb
      clear hw1 h4 hmz hPz
      have k0 := hB1.cell (j := 0) rfl
      have k1 := hB1.cell (j := 1) rfl
      have k2 := hB1.cell (j := 2) rfl
      go_wp2_with fail
      rw [Hw1.out]
      go_region_with (first
        | (go_at_call 31; refine (blocks_one _ v r s b z N xb xv xl P (by exact hV1.drewN 1) hin).mono ?_; rintro x w2 ⟨rfl, q1, rfl⟩; have cp := fun ty => copy_one (w := w1.drewN (1 + q1)) (dc := c') (hV1.drewN (1 + q1)) H4.out hD1 Hmz.out hin ty))
      all_goals
        clear cp
        have hpn := mul_le hin h.hN
        rw [Nat.add_mul] at hpn
        have hl' := splB_length (bs := xb) (xs := pd) (off := P * z) (by rw [H4.out, hV.lb]; have := Hmz.out; omega)
        rw [hV.lb] at hl'
        have hV3 := (hV1.drewN (1 + q1)).setRow (splB xb (P * z) pd) hl'
        have G3 : (w1.drewN (1 + q1)).grownBy _ (some r) := setRow_grown (cs := bys (splB xb (P * z) pd))
        have hB3 := blk_grown (show Blk (w1.drewN (1 + q1)) g1 _ _ from hB1) G3 (by omega)
        have hU3 : Upd v r s w ((w1.drewN (1 + q1)).setRow r (bys (splB xb (P * z) pd)).toArray) := hU1.trans ⟨G3.os, G3.tape, G3.output, G3.size, fun q hq _ hqr _ => G3.block q hq (by intro e; injection e with e; exact hqr e)⟩
        obtain ⟨w3, hw3⟩ : ∃ w3, (w1.drewN (1 + q1)).setRow r (bys (splB xb (P * z) pd)).toArray = w3 := ⟨_, rfl⟩
        rw [hw3] at hV3 G3 hB3 hU3
        rw [hw3]
        obtain ⟨xb', hxb'⟩ : ∃ x, splB xb (P * z) pd = x := ⟨_, rfl⟩
        rw [hxb'] at hV3
        rw [hxb'] at T1
        clear k0 k1 k2 hl' hxb' hw3 y0 y1 y2 hpn
        have k0 := hB3.cell (j := 0) rfl
        have k1 := hB3.cell (j := 1) rfl
        have v3 := hV3.blk.cell (j := 3) rfl
        have hlv : P < (ints xv).length := by rw [ints_length, hV3.lv]; omega
        have z0 := hV3.ver.cell (List.getElem?_eq_getElem hlv)
        have z1 := hV3.ver.frozen P
        go_wp2_with fail
        go_region
        have hV4 := (hV3.setVer P p2).drew
        have hB4 := (hB3.apart (show g1 ≠ s by omega) P (.int .i64 p2)).drew
        have hU4 := (hU3.trans (Upd.setS (v := v) (r := r) (s := s) w3 P (.int .i64 p2))).drew
        obtain ⟨w4, hw4⟩ : ∃ w4, (w3.setCell ⟨s, P, none⟩ (.int .i64 p2)).drew = w4 := ⟨_, rfl⟩
        rw [hw4] at hV4 hB4 hU4
        rw [hw4]
        clear k0 k1 v3 z0 z1 hw4
        have k1 := hB4.cell (j := 1) rfl
        have v4 := hV4.blk.cell (j := 4) rfl
        have z4 := hV4.blk.frozen 4
        go_wp2_with fail
        go_region
        have hmx : (if xl < p2 then p2 else xl) = max xl p2 := by split <;> omega
        rw [hmx]
        have hV5 := (hV4.setLast (max xl p2)).drew
        have hU5 := (hU4.set_v 4 (.int .i64 (max xl p2))).drew
        clear hmx k1 v4 z4
        go_wp2
        go_roundw
        case rel => exact ⟨k + 1, by omega, by go_num, by rw [T1.out, T2.out, T3.out]; exact hV5, hU5⟩
        case measure => simp [intOf]; omega
    · obtain rfl : k = n := by omega
      rw [List.take_of_length_le (by omega)] at hV
      go_wp2
      go_end0
      exact ⟨rfl, hV, hU⟩
set_option maxHeartbeats 1600000 in
theorem patch_ok (w : World) (v r s b z N : Nat) (bs : List UInt8) (vs : List Int) (last : Int) (A : Option Addr) (n c : Nat) (cs : List Value) (ps : List (Int × Int × List UInt8)) (h : VolIs w v r s b z N bs vs last) (hn : ps.length = n) (hnc : n ≤ c) (hc : c ≤ 9223372036854775807)
    (hr : Rd w A cs) (hA : ∀ a, A = some a → a.block ≠ v ∧ a.block ≠ r ∧ a.block ≠ s) (hP : PgRows w (fun B => B ≠ v ∧ B ≠ r ∧ B ≠ s) cs ps) (hm : mpA b z (-1) ps = true) :
    Calls Tryd.prog 13 #[.pointer (some ⟨v, 0, none⟩), .slice A n c] w fun e w' => e = .returned (.int .i64 0) ∧ VolIs w' v r s b z N (layB z bs ps) (layV vs ps) (layL last ps) ∧ Upd v r s w w' := by
  have x0 := h.blk.cell (j := 0) rfl
  have x1 := h.blk.cell (j := 1) rfl
  have Hm := hide hm
  have hgd := good_of_mpA (by omega) hm
  clear hm
  go_enter Tryd.func13, Tryd.ntmps13
  go_wp2_with fail
  go_fit (made_any w v r s b z N bs vs last h)
  rintro x w1 ⟨rfl, rfl⟩
  go_wp2_with fail
  go_fit (mayPages_any b z A n c cs ps _ w hn hnc hc hr hP)
  rw [Hm.out]
  rintro x w1 ⟨rfl, hb1⟩
  have hU1 := Upd.of_below (v := v) (r := r) (s := s) hb1
  go_wp2_with fail
  go_fit (lay_any w1 v r s b z N bs vs last A n c cs ps (h.below hb1) hn hnc hc (hr.below hb1) hA (hP.below hb1) hgd)
  rintro x w2 ⟨rfl, hV2, hU2⟩
  go_wp2
  go_ret
  exact ⟨rfl, hV2, hU1.trans hU2⟩
theorem patch_bad (w : World) (v r s b z N : Nat) (bs : List UInt8) (vs : List Int) (last : Int) (A : Option Addr) (n c : Nat) (cs : List Value) (ps : List (Int × Int × List UInt8)) (Q : Nat → Prop) (h : VolIs w v r s b z N bs vs last) (hn : ps.length = n) (hnc : n ≤ c) (hc : c ≤ 9223372036854775807)
    (hr : Rd w A cs) (hP : PgRows w Q cs ps) (hm : mpA b z (-1) ps = false) :
    Calls Tryd.prog 13 #[.pointer (some ⟨v, 0, none⟩), .slice A n c] w fun e w' => e = .returned (.int .i64 50) ∧ Below w.heap.size w w' := by
  have x0 := h.blk.cell (j := 0) rfl
  have x1 := h.blk.cell (j := 1) rfl
  have Hm := hide hm
  clear hm
  go_enter Tryd.func13, Tryd.ntmps13
  go_wp2_with fail
  go_fit (made_any w v r s b z N bs vs last h)
  rintro x w1 ⟨rfl, rfl⟩
  go_wp2_with fail
  go_fit (mayPages_any b z A n c cs ps _ w hn hnc hc hr hP)
  rw [Hm.out]
  rintro x w1 ⟨rfl, hb1⟩
  go_wp2
  go_ret
  exact ⟨rfl, hb1⟩
end Go.Proofs.YtjilkaciopiabaaDoor
