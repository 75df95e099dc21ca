/- The law's step: both volumes, together. -/
import Derived.Test.YtjilkaciopiabaaDoorF05y
import Derived.Test.YtjilkaciopiabaaDoorG05c
import Derived.Test.YtjilkaciopiabaaDoorSt2
namespace Go.Proofs.YtjilkaciopiabaaDoor
open Go.RowKit Go.Px
set_option linter.unusedVariables false
def eqR (k : Nat) (ds : List UInt8) (k' : Nat) (ds' : List UInt8) : Bool := ((k : Int) == (k' : Int)) && (ds == ds')
theorem eqR_self (k : Nat) (ds : List UInt8) : eqR k ds k ds = true := by unfold eqR; simp
theorem bool_or (b : Bool) : b = true ∨ b = false := by cases b <;> simp
set_option maxHeartbeats 1600000 in
theorem rsames_any (k : Nat) (D : Option Addr) (d dc : Nat) (ds : List UInt8) (k' : Nat) (D' : Option Addr) (d' dc' : Nat) (ds' : List UInt8) (w : World) (hd : ds.length = d) (hd' : ds'.length = d') (hD : Rd w D (bys ds)) (hD' : Rd w D' (bys ds')) :
    Calls Tryd.prog 23 #[resv k D d dc, resv k' D' d' dc'] w fun e w' => e = .returned (.bool (eqR k ds k' ds')) ∧ Below w.heap.size w w' := by
  have hb0 : Below w.heap.size w ((w.alloc (.cells #[.int .u8 k, .slice D d dc] 49)).alloc (.cells #[.int .u8 k', .slice D' d' dc'] 49)) := ((Below.refl _ _).alloc (Nat.le_refl _) _).alloc (by simp) _
  have c1 := convB dc hd (hD.below hb0)
  have c2 := convB dc' hd' (hD'.below hb0)
  clear hd hd'
  rcases bool_or ((k : Int) == (k' : Int)) with q1 | q1
  · rcases bool_or (ds == ds') with q4 | q4
    all_goals
      have hF : eqR k ds k' ds' = (ds == ds') := by unfold eqR; rw [q1]; rfl
      rw [q4] at hF
      have HF := hide hF
      clear hF
      go_enter Tryd.func23, Tryd.ntmps23
      go_wp2
      go_ret
      exact ⟨by rw [HF.out]; rfl, hb0⟩
  · have HF := hide (show eqR k ds k' ds' = false by unfold eqR; rw [q1]; rfl)
    go_enter Tryd.func23, Tryd.ntmps23
    go_wp2
    go_ret
    exact ⟨by rw [HF.out]; rfl, hb0⟩
theorem VolIs.upd2 {w w' : World} {v r s b z N : Nat} {bs : List UInt8} {vs : List Int} {last : Int} {v' r' s' : Nat} (h : VolIs w v r s b z N bs vs last) (hU : Upd v' r' s' w w') (hv : v ≠ v' ∧ v ≠ r' ∧ v ≠ s') (hr : r ≠ v' ∧ r ≠ r' ∧ r ≠ s') (hs : s ≠ v' ∧ s ≠ r' ∧ s ≠ s') : VolIs w' v r s b z N bs vs last :=
  { h with
    blk := (hU.blk v h.blk.lt hv.1 hv.2.1 hv.2.2).trans h.blk
    row := (hU.blk r h.row.lt hr.1 hr.2.1 hr.2.2).trans h.row
    ver := (hU.blk s h.ver.lt hs.1 hs.2.1 hs.2.2).trans h.ver }
theorem rd_updB {w w' : World} {v r s : Nat} {A : Option Addr} {xs : List UInt8} (hR : Rd w A (bys xs)) (hU : Upd v r s w w') (hA : xs ≠ [] → ∀ a, A = some a → a.block ≠ v ∧ a.block ≠ r ∧ a.block ≠ s) : Rd w' A (bys xs) := by
  cases xs with
  | nil => exact Rd.nil
  | cons x xs => exact Rd.upd hR hU (hA (by simp))
abbrev stpv (k : Nat) (p n : Int) (D : Option Addr) (d dc : Nat) (O : Option Addr) (o oc : Nat) (num : Int) (A : Option Addr) (m mc : Nat) : Value := .agg #[.int .u8 k, .int .i64 p, .int .i64 n, .slice D d dc, .slice O o oc, .int .i64 num, .slice A m mc]
/-- Both volumes in memory: they hold the same; what was below B is no part of them. -/
def Both (w : World) (B lo v r s rv gb gv cb cv b z N : Nat) (sv : List Value) : Prop := ∃ (rows : List Value) (bs : List UInt8) (vs : List Int) (last : Int), VolIs w v r s b z N bs vs last ∧ RVolIs w lo rv gb gv cb cv b z N rows sv bs vs last
structure BothAt (B lo v r s rv gb gv : Nat) : Prop where
  h1 : B ≤ v ∧ B ≤ r ∧ B ≤ s
  h2 : v < lo ∧ r < lo ∧ s < lo
  h3 : lo ≤ rv ∧ lo ≤ gb ∧ lo ≤ gv
  h4 : B ≤ lo
set_option maxHeartbeats 6400000 in
/-- A request of both. -/
theorem step_do (B : Nat) (w : World) (v r s rv gb gv cb cv b z N : Nat) (sv rows : List Value) (bs : List UInt8) (vs : List Int) (last : Int) (lo : Nat) (k : Nat) (p n : Int) (D : Option Addr) (d dc : Nat) (ds : List UInt8) (O : Option Addr) (o oc : Nat) (os : List UInt8) (num : Int) (A : Option Addr) (mc : Nat)
    (hk : k < 256) (hV : VolIs w v r s b z N bs vs last) (hR : RVolIs w lo rv gb gv cb cv b z N rows sv bs vs last) (hAt : BothAt B lo v r s rv gb gv) (hBw : B ≤ w.heap.size)
    (hd : ds.length = d) (hdc : d ≤ dc) (hdm : dc ≤ 9223372036854775807) (ho : os.length = o) (hD : Rd w D (bys ds)) (hO : Rd w O (bys os)) (hDB : ds ≠ [] → ∀ a, D = some a → a.block < B) (hOB : os ≠ [] → ∀ a, O = some a → a.block < B) :
    Calls Tryd.prog 9 #[.pointer (some ⟨v, 0, none⟩), .pointer (some ⟨rv, 0, none⟩), stpv k p n D d dc O o oc num A 0 mc] w
      fun e w' => e = .returned (.bool true) ∧ Both w' B lo v r s rv gb gv cb cv b z N sv ∧ Below B w w' := by
  obtain ⟨g, hg⟩ : ∃ g, w.heap.size = g := ⟨_, rfl⟩
  obtain ⟨w0, hw0⟩ : ∃ x, w.alloc (.cells #[.int .u8 k, .int .i64 p, .int .i64 n, .slice D d dc, .slice O o oc, .int .i64 num, .slice A 0 mc] 40) = x := ⟨_, rfl⟩
  have hS0 : Blk w0 g [.int .u8 k, .int .i64 p, .int .i64 n, .slice D d dc, .slice O o oc, .int .i64 num, .slice A 0 mc] 40 := by rw [← hw0, ← hg]; exact Blk.new w [.int .u8 k, .int .i64 p, .int .i64 n, .slice D d dc, .slice O o oc, .int .i64 num, .slice A 0 mc] _
  have hb0 : Below w.heap.size w w0 := by rw [← hw0]; exact (Below.refl _ _).alloc (Nat.le_refl _) _
  have Hw0 := hide hw0
  clear hw0
  have hV0 := hV.below hb0
  have hR0 := hR.below hb0
  have vlt := hV.blk.lt
  have rlt := hV.row.lt
  have slt := hV.ver.lt
  have rvl := hR.blk.lt
  have gbl := hR.row.lt
  have gvl := hR.ver.lt
  obtain ⟨lo1, lo2, lo3⟩ := hAt.h3
  obtain ⟨vl1, vl2, vl3⟩ := hAt.h2
  obtain ⟨bl1, bl2, bl3⟩ := hAt.h1
  have bl4 := hAt.h4
  have glt := hS0.lt
  have szw := hb0.size
  have x0 := hS0.cell (j := 0) rfl
  have x1 := hS0.cell (j := 1) rfl
  have x2 := hS0.cell (j := 2) rfl
  have x3 := hS0.cell (j := 3) rfl
  have x4 := hS0.cell (j := 4) rfl
  have x5 := hS0.cell (j := 5) rfl
  have x6 := hS0.cell (j := 6) rfl
  have hDw := hD.below hb0
  have hOw := hO.below hb0
  have c1 := do_any w0 v r s b z N bs vs last k p n D d dc ds O o oc os num hk hV0 hd ho hDw hOw (fun hh a ha => by have := hDB hh a ha; omega) (fun hh a ha => by have := hOB hh a ha; omega)
  have c2 := fun W (hR : RVolIs W lo rv gb gv cb cv b z N rows sv bs vs last) (hD : Rd W D (bys ds)) (hO : Rd W O (bys os)) => rdo_any W lo rv gb gv cb cv b z N rows sv bs vs last k p n D d dc ds O o oc os num hk hR hd hdc hdm ho hD hO (fun hh a ha => by have := hDB hh a ha; omega) (fun hh a ha => by have := hOB hh a ha; omega)
  generalize doE b z last k p n ds.length os.length num = E at c1 c2
  generalize doKE b z bs last k p n ds os num = K at c1 c2
  generalize doDE b z bs last k p n ds os num = DD at c1 c2
  generalize doBE b z bs last k p n ds os num = BB at c1 c2
  generalize doVE b z bs vs last k p n ds os num = VV at c1 c2
  generalize doLE b z last k p n ds os num = LL at c1 c2
  have C1 := hide c1
  have C2 := hide c2
  clear c1 c2 hd ho
  go_enter Tryd.func9, Tryd.ntmps9
  go_wp2_with fail
  rw [Hw0.out]
  go_fit C1.out
  rintro x w1 ⟨A1, c1, rfl, hr1, ha1, hV1, hU1⟩
  have sz1 := hU1.size
  have hS1 := (hU1.blk g glt (by omega) (by omega) (by omega)).trans hS0
  have hR1 := hR0.upd hU1 ⟨by omega, by omega, by omega⟩
  have hD1 := rd_updB hDw hU1 (fun hh a ha => by have := hDB hh a ha; omega)
  have hO1 := rd_updB hOw hU1 (fun hh a ha => by have := hOB hh a ha; omega)
  obtain ⟨g2, hg2⟩ : ∃ g, w1.heap.size = g := ⟨_, rfl⟩
  obtain ⟨w2, hw2⟩ : ∃ x, w1.alloc (.cells #[.int .u8 K, .slice A1 DD.length c1] 49) = x := ⟨_, rfl⟩
  have hA2 : Blk w2 g2 [.int .u8 K, .slice A1 DD.length c1] 49 := by rw [← hw2, ← hg2]; exact Blk.new w1 [.int .u8 K, .slice A1 DD.length c1] _
  have hb12 : Below w1.heap.size w1 w2 := by rw [← hw2]; exact (Below.refl _ _).alloc (Nat.le_refl _) _
  have hS2 := Blk.below hS1 hb12
  have hV2 := hV1.below hb12
  have hR2 := hR1.below hb12
  have hD2 := hD1.below hb12
  have hO2 := hO1.below hb12
  have hr2 := hr1.below hb12
  have sz2 := hb12.size
  have g2l := hA2.lt
  have Hw2 := hide hw2
  clear x0 x1 x2 x3 x4 x5 x6 hw2
  have x0 := ((show Blk w1 g _ _ from hS1).alloc (.cells #[.int .u8 K, .slice A1 DD.length c1] 49)).cell (j := 0) rfl
  have x1 := ((show Blk w1 g _ _ from hS1).alloc (.cells #[.int .u8 K, .slice A1 DD.length c1] 49)).cell (j := 1) rfl
  have x2 := ((show Blk w1 g _ _ from hS1).alloc (.cells #[.int .u8 K, .slice A1 DD.length c1] 49)).cell (j := 2) rfl
  have x3 := ((show Blk w1 g _ _ from hS1).alloc (.cells #[.int .u8 K, .slice A1 DD.length c1] 49)).cell (j := 3) rfl
  have x4 := ((show Blk w1 g _ _ from hS1).alloc (.cells #[.int .u8 K, .slice A1 DD.length c1] 49)).cell (j := 4) rfl
  have x5 := ((show Blk w1 g _ _ from hS1).alloc (.cells #[.int .u8 K, .slice A1 DD.length c1] 49)).cell (j := 5) rfl
  go_wp2_with fail
  rw [Hw2.out]
  go_fit (C2.out w2 hR2 hD2 hO2)
  rintro x w3 ⟨A3, c3, rfl, hl3, hcm3, hr3, ha3, ⟨rows3, hR3⟩, hU3⟩
  have sz3 := hU3.size
  have hV3 := hV2.upd2 hU3 ⟨by omega, by omega, by omega⟩ ⟨by omega, by omega, by omega⟩ ⟨by omega, by omega, by omega⟩
  have hA3 := (hU3.blk g2 g2l (by omega) (by omega) (by omega)).trans hA2
  have hr23 := rd_updB hr2 hU3 (fun hh a ha => by have := ha1 a ha; omega)
  obtain ⟨g4, hg4⟩ : ∃ g, w3.heap.size = g := ⟨_, rfl⟩
  obtain ⟨w4, hw4⟩ : ∃ x, w3.alloc (.cells #[.int .u8 K, .slice A3 DD.length c3] 49) = x := ⟨_, rfl⟩
  have hB4 : Blk w4 g4 [.int .u8 K, .slice A3 DD.length c3] 49 := by rw [← hw4, ← hg4]; exact Blk.new w3 [.int .u8 K, .slice A3 DD.length c3] _
  have hb34 : Below w3.heap.size w3 w4 := by rw [← hw4]; exact (Below.refl _ _).alloc (Nat.le_refl _) _
  have hA4 := Blk.below hA3 hb34
  have hV4 := hV3.below hb34
  have hR4 := hR3.below hb34
  have Hw4 := hide hw4
  clear x0 x1 x2 x3 x4 x5 hw4
  have x0 := ((show Blk w3 g2 _ _ from hA3).alloc (.cells #[.int .u8 K, .slice A3 DD.length c3] 49)).cell (j := 0) rfl
  have x1 := ((show Blk w3 g2 _ _ from hA3).alloc (.cells #[.int .u8 K, .slice A3 DD.length c3] 49)).cell (j := 1) rfl
  have y0 : (w3.alloc (.cells #[.int .u8 K, .slice A3 DD.length c3] 49)).cell? ⟨g4, 0, none⟩ = some (.int .u8 K) := by rw [← hg4]; exact (Blk.new w3 [.int .u8 K, .slice A3 DD.length c3] _).cell (j := 0) rfl
  have y1 : (w3.alloc (.cells #[.int .u8 K, .slice A3 DD.length c3] 49)).cell? ⟨g4, 1, none⟩ = some (.slice A3 DD.length c3) := by rw [← hg4]; exact (Blk.new w3 [.int .u8 K, .slice A3 DD.length c3] _).cell (j := 1) rfl
  have hB3 : Below B w w3 := hU3.below (((hU1.below (hb0.mono hBw) (by omega) (by omega) (by omega) (by omega)).trans (hb12.mono (by omega)))) (by omega) (by omega) (by omega) (by omega)
  go_wp2_with fail
  rw [Hw4.out]
  go_fit (rsames_any K A1 DD.length c1 DD K A3 DD.length c3 DD w4 rfl rfl (hr23.below hb34) (hr3.below hb34))
  rw [eqR_self]
  rintro x w5 ⟨rfl, hb5⟩
  have hB5 : Below B w w5 := (hB3.trans (hb34.mono (by omega))).trans (hb5.mono (by have := hb34.size; omega))
  go_wp2
  go_ret
  exact ⟨by simp, ⟨rows3, BB, VV, LL, hV4.below hb5, hR4.below hb5⟩, hB5⟩
set_option maxHeartbeats 6400000 in
/-- Pages laid on both. -/
theorem step_patch (B : Nat) (w : World) (v r s rv gb gv cb cv b z N : Nat) (sv rows : List Value) (bs : List UInt8) (vs : List Int) (last : Int) (lo : Nat) (k : Nat) (p n : Int) (D : Option Addr) (d dc : Nat) (O : Option Addr) (o oc : Nat) (num : Int) (A : Option Addr) (m mc : Nat) (cs : List Value) (ps : List (Int × Int × List UInt8))
    (hV : VolIs w v r s b z N bs vs last) (hR : RVolIs w lo rv gb gv cb cv b z N rows sv bs vs last) (hAt : BothAt B lo v r s rv gb gv) (hBw : B ≤ w.heap.size)
    (hm1 : 1 ≤ m) (hm : ps.length = m) (hmc : m ≤ mc) (hcm : mc ≤ 9223372036854775807) (hr : Rd w A cs) (hA : ∀ a, A = some a → a.block < B) (hP : PgRows w (fun _ => True) cs ps) (hPB : Good b z ps → PgRows w (fun q => q < B) cs ps) :
    Calls Tryd.prog 9 #[.pointer (some ⟨v, 0, none⟩), .pointer (some ⟨rv, 0, none⟩), stpv k p n D d dc O o oc num A m mc] w
      fun e w' => e = .returned (.bool true) ∧ Both w' B lo v r s rv gb gv cb cv b z N sv ∧ Below B w w' := by
  obtain ⟨g, hg⟩ : ∃ g, w.heap.size = g := ⟨_, rfl⟩
  obtain ⟨w0, hw0⟩ : ∃ x, w.alloc (.cells #[.int .u8 k, .int .i64 p, .int .i64 n, .slice D d dc, .slice O o oc, .int .i64 num, .slice A m mc] 40) = x := ⟨_, rfl⟩
  have hS0 : Blk w0 g [.int .u8 k, .int .i64 p, .int .i64 n, .slice D d dc, .slice O o oc, .int .i64 num, .slice A m mc] 40 := by rw [← hw0, ← hg]; exact Blk.new w [.int .u8 k, .int .i64 p, .int .i64 n, .slice D d dc, .slice O o oc, .int .i64 num, .slice A m mc] _
  have hb0 : Below w.heap.size w w0 := by rw [← hw0]; exact (Below.refl _ _).alloc (Nat.le_refl _) _
  have Hw0 := hide hw0
  clear hw0
  have hV0 := hV.below hb0
  have hR0 := hR.below hb0
  have vlt := hV.blk.lt
  have rlt := hV.row.lt
  have slt := hV.ver.lt
  have rvl := hR.blk.lt
  have gbl := hR.row.lt
  have gvl := hR.ver.lt
  obtain ⟨lo1, lo2, lo3⟩ := hAt.h3
  obtain ⟨vl1, vl2, vl3⟩ := hAt.h2
  obtain ⟨bl1, bl2, bl3⟩ := hAt.h1
  have bl4 := hAt.h4
  have glt := hS0.lt
  have szw := hb0.size
  have x6 := hS0.cell (j := 6) rfl
  have hmI : (0 : Int) < (m : Int) := by omega
  cases hmp : mpA b z (-1) ps with
  | false =>
    have HPV := hide (fun X (hX : Below w0.heap.size w0 X) => patch_bad X v r s b z N bs vs last A m mc cs ps _ (hV0.below hX) hm hmc hcm ((hr.below hb0).below hX) ((hP.below hb0).below hX) hmp)
    have HPR := hide (fun X (hX : Below w0.heap.size w0 X) => rpatch_bad X lo rv gb gv cb cv b z N rows sv bs vs last A m mc cs ps _ (hR0.below hX) hm hmc hcm ((hr.below hb0).below hX) ((hP.below hb0).below hX) hmp)
    have HT := hide (show ∀ X Y, Below w0.heap.size w0 X → Below X.heap.size X Y → Below w0.heap.size w0 Y from fun X Y hX hY => hX.trans (hY.mono hX.size))
    have HC := hide (show ∀ X, Below w0.heap.size w0 X → X.cell? ⟨g, 6, none⟩ = some (.slice A m mc) from fun X hX => (hS0.below hX).cell (j := 6) rfl)
    have S0 : Below w0.heap.size w0 w0.drew := (Below.refl _ _).drew
    clear hmp hm
    go_enter Tryd.func9, Tryd.ntmps9
    go_wp2_with fail
    rw [Hw0.out]
    go_region_with (first
      | (go_at_call 13; refine (HPV.out _ (by assumption)).mono ?_; rintro x wa ⟨rfl, hba⟩; have sa := HT.out _ _ (by assumption) hba; have ya := HC.out _ sa)
      | (go_at_call 21; refine (HPR.out _ (by assumption)).mono ?_; rintro x wb ⟨rfl, hbb⟩; have sb := HT.out _ _ (by assumption) hbb; have yb := HC.out _ sb))
    all_goals
      go_wp2
      go_ret
      first
      | (have hbX := HT.out _ _ (HT.out _ _ S0 hba) hbb; exact ⟨by first | rfl | (simp; done), ⟨rows, bs, vs, last, hV0.below hbX, hR0.below hbX⟩, (hb0.mono hBw).trans (hbX.mono (by omega))⟩)
      | (have hbX := HT.out _ _ (HT.out _ _ S0 hbb) hba; exact ⟨by first | rfl | (simp; done), ⟨rows, bs, vs, last, hV0.below hbX, hR0.below hbX⟩, (hb0.mono hBw).trans (hbX.mono (by omega))⟩)
  | true =>
    have hPg := hPB (good_of_mpA (by omega) hmp)
    have hr0 := hr.below hb0
    have hPg0 := hPg.below hb0
    have hBd : Below B w w0.drew := (hb0.mono hBw).drew
    have HPV := hide (fun X (hX : Upd rv gb gv w0 X) => patch_ok X v r s b z N bs vs last A m mc cs ps (hV0.upd2 hX ⟨by omega, by omega, by omega⟩ ⟨by omega, by omega, by omega⟩ ⟨by omega, by omega, by omega⟩) hm hmc hcm (Rd.upd hr0 hX (fun a ha => by have := hA a ha; omega)) (fun a ha => by have := hA a ha; omega)
      (hPg0.keep (w' := X) (fun A xs hr hq => Rd.upd hr hX (fun a ha => by have := hq a ha; omega)) (fun q hq => ⟨by omega, by omega, by omega⟩)) hmp)
    have HPR := hide (fun X (hX : Upd v r s w0 X) => rpatch_ok X lo rv gb gv cb cv b z N rows sv bs vs last A m mc cs ps (hR0.upd hX ⟨by omega, by omega, by omega⟩) hm hmc hcm (Rd.upd hr0 hX (fun a ha => by have := hA a ha; omega)) (fun _ a ha => by have := hA a ha; omega)
      (hPg0.keep (w' := X) (fun A xs hr hq => Rd.upd hr hX (fun a ha => by have := hq a ha; omega)) (fun q hq => ⟨by omega, by omega, by omega⟩)) hmp)
    have S1 : Upd rv gb gv w0 w0.drew := (Upd.of_below (Below.refl _ _)).drew
    have S2 : Upd v r s w0 w0.drew := (Upd.of_below (Below.refl _ _)).drew
    have HC1 := hide (show ∀ X, Upd rv gb gv w0 X → X.cell? ⟨g, 6, none⟩ = some (.slice A m mc) from fun X hX => Blk.cell ((hX.blk g glt (by omega) (by omega) (by omega)).trans hS0) (j := 6) rfl)
    have HC2 := hide (show ∀ X, Upd v r s w0 X → X.cell? ⟨g, 6, none⟩ = some (.slice A m mc) from fun X hX => Blk.cell ((hX.blk g glt (by omega) (by omega) (by omega)).trans hS0) (j := 6) rfl)
    clear hmp hm hPB
    go_enter Tryd.func9, Tryd.ntmps9
    go_wp2_with fail
    rw [Hw0.out]
    go_region_with (first
      | (go_at_call 13; refine (HPV.out _ (by assumption)).mono ?_; rintro x wa ⟨rfl, hVa, hUa⟩; (try have sa := S2.trans hUa); (try have ya := HC2.out _ sa))
      | (go_at_call 21; refine (HPR.out _ (by assumption)).mono ?_; rintro x wb ⟨rfl, ⟨rowsb, hRb⟩, hUb⟩; (try have sb := S1.trans hUb); (try have yb := HC1.out _ sb)))
    all_goals
      go_wp2
      go_ret
      first
      | (have szb := hUa.size; exact ⟨by first | rfl | (simp; done), ⟨rowsb, _, _, _, hVa.upd2 hUb ⟨by omega, by omega, by omega⟩ ⟨by omega, by omega, by omega⟩ ⟨by omega, by omega, by omega⟩, hRb⟩, hUb.below (hUa.below hBd (show B ≤ w0.heap.size by omega) bl1 bl2 bl3) (Nat.le_trans (show B ≤ w0.heap.size by omega) szb) (by omega) (by omega) (by omega)⟩)
      | (have szb := hUb.size; exact ⟨by first | rfl | (simp; done), ⟨rowsb, _, _, _, hVa, hRb.upd hUa ⟨by omega, by omega, by omega⟩⟩, hUa.below (hUb.below hBd (show B ≤ w0.heap.size by omega) (by omega) (by omega) (by omega)) (Nat.le_trans (show B ≤ w0.heap.size by omega) szb) bl1 bl2 bl3⟩)
end Go.Proofs.YtjilkaciopiabaaDoor
