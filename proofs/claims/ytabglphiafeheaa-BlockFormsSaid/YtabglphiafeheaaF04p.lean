/- The law BlockForms, walked. -/
import Derived.Test.YtabglphiafeheaaF04n
import Derived.Test.YtabglphiafeheaaF04g
import Derived.Deep.RegionHeldLaw
namespace Go.Proofs.Ytabglphiafeheaa
open Go.RowKit Go.Px
set_option linter.unusedVariables false

set_option maxHeartbeats 6400000 in
theorem blockForms_walk (b z : Int) (k : Nat) (p n : Int) (D : Option Addr) (d dc : Nat) (ds : List UInt8) (O : Option Addr) (o oc : Nat) (os : List UInt8) (k' : Nat) (p' n' : Int) (D' : Option Addr) (d' dc' : Nat) (ds' : List UInt8) (O' : Option Addr) (o' oc' : Nat) (os' : List UInt8) (rk : Nat) (R : Option Addr) (rd rc : Nat) (w : World) (hk : k < 256) (hk' : k' < 256) (hrk : rk < 256)
    (hd : ds.length = d) (ho : os.length = o) (hd' : ds'.length = d') (ho' : os'.length = o') (hD : Rd w D (bys ds)) (hO : Rd w O (bys os)) (hD' : Rd w D' (bys ds')) (hO' : Rd w O' (bys os')) :
    Calls Try.prog 3 #[shp b z, opv k p n D d dc O o oc, opv k' p' n' D' d' dc' O' o' oc', resv rk R rd rc] w fun x w' => x = .returned (.bool true) ∧ Below w.heap.size w w' := by
  obtain ⟨g, hg⟩ : ∃ g, w.heap.size = g := ⟨_, rfl⟩
  obtain ⟨g1, hg1⟩ : ∃ x, g + 1 = x := ⟨_, rfl⟩
  obtain ⟨g2, hg2⟩ : ∃ x, g1 + 1 = x := ⟨_, rfl⟩
  obtain ⟨g3, hg3⟩ : ∃ x, g2 + 1 = x := ⟨_, rfl⟩
  obtain ⟨w0, hw0⟩ : ∃ w0, (((w.alloc (.cells #[.int .i64 b, .int .i64 z] 23)).alloc (.cells #[.int .u8 k, .int .i64 p, .int .i64 n, .slice D d dc, .slice O o oc] 27)).alloc (.cells #[.int .u8 k', .int .i64 p', .int .i64 n', .slice D' d' dc', .slice O' o' oc'] 27)).alloc (.cells #[.int .u8 rk, .slice R rd rc] 30) = w0 := ⟨_, rfl⟩
  have hS : Blk w0 g [.int .i64 b, .int .i64 z] 23 := by rw [← hw0, ← hg]; exact (((Blk.new w [.int .i64 b, .int .i64 z] _).alloc _).alloc _).alloc _
  have h1 : Blk w0 g1 [.int .u8 k, .int .i64 p, .int .i64 n, .slice D d dc, .slice O o oc] 27 := by
    rw [← hw0, ← hg1, ← hg]
    have := ((Blk.new (w.alloc (.cells #[.int .i64 b, .int .i64 z] 23)) [.int .u8 k, .int .i64 p, .int .i64 n, .slice D d dc, .slice O o oc] 27).alloc (.cells #[.int .u8 k', .int .i64 p', .int .i64 n', .slice D' d' dc', .slice O' o' oc'] 27)).alloc (.cells #[.int .u8 rk, .slice R rd rc] 30)
    rwa [World.size_alloc] at this
  have h2 : Blk w0 g2 [.int .u8 k', .int .i64 p', .int .i64 n', .slice D' d' dc', .slice O' o' oc'] 27 := by
    rw [← hw0, ← hg2, ← hg1, ← hg]
    have := (Blk.new ((w.alloc (.cells #[.int .i64 b, .int .i64 z] 23)).alloc (.cells #[.int .u8 k, .int .i64 p, .int .i64 n, .slice D d dc, .slice O o oc] 27)) [.int .u8 k', .int .i64 p', .int .i64 n', .slice D' d' dc', .slice O' o' oc'] 27).alloc (.cells #[.int .u8 rk, .slice R rd rc] 30)
    rwa [World.size_alloc, World.size_alloc] at this
  have h3 : Blk w0 g3 [.int .u8 rk, .slice R rd rc] 30 := by
    rw [← hw0, ← hg3, ← hg2, ← hg1, ← hg]
    have := Blk.new (((w.alloc (.cells #[.int .i64 b, .int .i64 z] 23)).alloc (.cells #[.int .u8 k, .int .i64 p, .int .i64 n, .slice D d dc, .slice O o oc] 27)).alloc (.cells #[.int .u8 k', .int .i64 p', .int .i64 n', .slice D' d' dc', .slice O' o' oc'] 27)) [.int .u8 rk, .slice R rd rc] 30
    rwa [World.size_alloc, World.size_alloc, World.size_alloc] at this
  have hb0 : Below w.heap.size w w0 := by
    rw [← hw0]
    exact ((((Below.refl _ _).alloc (Nat.le_refl _) _).alloc (by simp) _).alloc (by simp; omega) _).alloc (by simp; omega) _
  have mkA : ∀ X, Below w0.heap.size w0 X → (Below w0.heap.size w0 X ∧ X.cell? ⟨g, 0, none⟩ = some (.int .i64 b) ∧ X.cell? ⟨g, 1, none⟩ = some (.int .i64 z) ∧ X.cell? ⟨g1, 0, none⟩ = some (.int .u8 k) ∧ X.cell? ⟨g1, 1, none⟩ = some (.int .i64 p) ∧ X.cell? ⟨g1, 2, none⟩ = some (.int .i64 n) ∧ X.cell? ⟨g1, 3, none⟩ = some (.slice D d dc) ∧ X.cell? ⟨g1, 4, none⟩ = some (.slice O o oc) ∧ X.cell? ⟨g3, 0, none⟩ = some (.int .u8 rk) ∧ X.cell? ⟨g3, 1, none⟩ = some (.slice R rd rc)) := fun X hX => ⟨hX, (hS.below hX).cell (j := 0) rfl, (hS.below hX).cell (j := 1) rfl, (h1.below hX).cell (j := 0) rfl, (h1.below hX).cell (j := 1) rfl, (h1.below hX).cell (j := 2) rfl, (h1.below hX).cell (j := 3) rfl, (h1.below hX).cell (j := 4) rfl, (h3.below hX).cell (j := 0) rfl, (h3.below hX).cell (j := 1) rfl⟩
  have mkB : ∀ X, Below w0.heap.size w0 X → (Below w0.heap.size w0 X ∧ X.cell? ⟨g1, 0, none⟩ = some (.int .u8 k) ∧ X.cell? ⟨g1, 1, none⟩ = some (.int .i64 p) ∧ X.cell? ⟨g1, 2, none⟩ = some (.int .i64 n) ∧ X.cell? ⟨g1, 3, none⟩ = some (.slice D d dc) ∧ X.cell? ⟨g1, 4, none⟩ = some (.slice O o oc) ∧ X.cell? ⟨g2, 0, none⟩ = some (.int .u8 k') ∧ X.cell? ⟨g2, 1, none⟩ = some (.int .i64 p') ∧ X.cell? ⟨g2, 2, none⟩ = some (.int .i64 n') ∧ X.cell? ⟨g2, 3, none⟩ = some (.slice D' d' dc') ∧ X.cell? ⟨g2, 4, none⟩ = some (.slice O' o' oc')) := fun X hX => ⟨hX, (h1.below hX).cell (j := 0) rfl, (h1.below hX).cell (j := 1) rfl, (h1.below hX).cell (j := 2) rfl, (h1.below hX).cell (j := 3) rfl, (h1.below hX).cell (j := 4) rfl, (h2.below hX).cell (j := 0) rfl, (h2.below hX).cell (j := 1) rfl, (h2.below hX).cell (j := 2) rfl, (h2.below hX).cell (j := 3) rfl, (h2.below hX).cell (j := 4) rfl⟩
  have hbX : ∀ X, Below w0.heap.size w0 X → Below w.heap.size w X := fun X h => hb0.trans (h.mono hb0.size)
  obtain ⟨ce, hce⟩ : ∃ x, shE b z = x := ⟨_, rfl⟩
  obtain ⟨fe, hfe⟩ : ∃ x, fmE k p n d o = x := ⟨_, rfl⟩
  obtain ⟨re, hre⟩ : ∃ x, rsE rk rd = x := ⟨_, rfl⟩
  obtain ⟨eq, heq⟩ : ∃ x, eqO k p n ds os k' p' n' ds' os' = x := ⟨_, rfl⟩
  obtain ⟨ch, hch⟩ : ∃ x, chB k = x := ⟨_, rfl⟩
  have Hce := hide hce
  have Hfe := hide hfe
  have Hre := hide hre
  have Heq := hide heq
  have Hch := hide hch
  have Hd := hide hd
  have Ho := hide ho
  have Hd' := hide hd'
  have Ho' := hide ho'
  have z1 : (ce != ce) = false := by simp
  have z2 : (fe != fe) = false := by simp
  have z3 : (re != re) = false := by simp
  have z4 : (eq == eq) = true := by simp
  have z5 : (ch == ch) = true := by simp
  have S0 := mkA w0.drew (Below.refl _ _).drew
  have MkA := hide mkA
  have MkB := hide mkB
  have HX := hide hbX
  have Hw0 := hide hw0
  clear hce hfe hre heq hch hd ho hd' ho' mkA mkB hbX hw0
  go_enter Try.func3, Try.ntmps3
  go_wp2_with fail
  rw [Hw0.out]
  go_region_held_law (fun W => Below w0.heap.size w0 W ∧ W.cell? ⟨g, 0, none⟩ = some (.int .i64 b) ∧ W.cell? ⟨g, 1, none⟩ = some (.int .i64 z) ∧ W.cell? ⟨g1, 0, none⟩ = some (.int .u8 k) ∧ W.cell? ⟨g1, 1, none⟩ = some (.int .i64 p) ∧ W.cell? ⟨g1, 2, none⟩ = some (.int .i64 n) ∧ W.cell? ⟨g1, 3, none⟩ = some (.slice D d dc) ∧ W.cell? ⟨g1, 4, none⟩ = some (.slice O o oc) ∧ W.cell? ⟨g3, 0, none⟩ = some (.int .u8 rk) ∧ W.cell? ⟨g3, 1, none⟩ = some (.slice R rd rc)) (assumption) (first
      | (go_at_call 9; refine (shape_any b z _).mono ?_; rw [Hce.out]; rintro x w1 ⟨rfl, hb1⟩; have hs1 := MkA.out _ ((Below.refl _ _).drew.trans hb1))
      | (go_at_call 10; refine (rshape_any b z _).mono ?_; rw [Hce.out]; rintro x w2 ⟨rfl, hb2⟩; have hs2 := MkA.out _ (hs1.1.trans (hb2.mono hs1.1.size)))
      | (go_at_call 11; refine (form_any k p n D d dc O o oc _ hk).mono ?_; rw [Hfe.out]; rintro x w3 ⟨rfl, hb3⟩; have hs3 := MkA.out _ (hs2.1.trans (hb3.mono hs2.1.size)))
      | (go_at_call 12; refine (rform_any k p n D d dc O o oc _ hk).mono ?_; rw [Hfe.out]; rintro x w4 ⟨rfl, hb4⟩; have hs4 := MkA.out _ (hs3.1.trans (hb4.mono hs3.1.size)))
      | (go_at_call 13; refine (result_any rk R rd rc _ hrk).mono ?_; rw [Hre.out]; rintro x w5 ⟨rfl, hb5⟩; have hs5 := MkA.out _ (hs4.1.trans (hb5.mono hs4.1.size)))
      | (go_at_call 14; refine (rresult_any rk R rd rc _ hrk).mono ?_; rw [Hre.out]; rintro x w6 ⟨rfl, hb6⟩; have hs6 := MkA.out _ (hs5.1.trans (hb6.mono hs5.1.size))))
  all_goals
    have S6 := MkB.out _ (hs6.1.trans (Below.refl _ _).drew)
    have hw6 := hs6.1
    clear S0 hs1 hs2 hs3 hs4 hs5 hs6
    go_wp2_with fail
    go_region_held_law (fun W => Below w0.heap.size w0 W ∧ W.cell? ⟨g1, 0, none⟩ = some (.int .u8 k) ∧ W.cell? ⟨g1, 1, none⟩ = some (.int .i64 p) ∧ W.cell? ⟨g1, 2, none⟩ = some (.int .i64 n) ∧ W.cell? ⟨g1, 3, none⟩ = some (.slice D d dc) ∧ W.cell? ⟨g1, 4, none⟩ = some (.slice O o oc) ∧ W.cell? ⟨g2, 0, none⟩ = some (.int .u8 k') ∧ W.cell? ⟨g2, 1, none⟩ = some (.int .i64 p') ∧ W.cell? ⟨g2, 2, none⟩ = some (.int .i64 n') ∧ W.cell? ⟨g2, 3, none⟩ = some (.slice D' d' dc') ∧ W.cell? ⟨g2, 4, none⟩ = some (.slice O' o' oc')) (assumption) (first
      | (go_at_call_of 15 (Value.slice D' d' dc'); refine (osame_any k p n D d dc ds O o oc os k' p' n' D' d' dc' ds' O' o' oc' os' _ Hd.out Ho.out Hd'.out Ho'.out (hD.below (HX.out _ (And.left (by assumption)))) (hO.below (HX.out _ (And.left (by assumption)))) (hD'.below (HX.out _ (And.left (by assumption)))) (hO'.below (HX.out _ (And.left (by assumption))))).mono ?_; rw [Heq.out]; rintro x w7 ⟨rfl, hb7⟩; have hs7 := MkB.out _ ((hw6.trans (Below.refl _ _).drew).trans (hb7.mono hw6.size)))
      | (go_at_call 16; refine (rosame_any k p n D d dc ds O o oc os k' p' n' D' d' dc' ds' O' o' oc' os' _ Hd.out Ho.out Hd'.out Ho'.out (hD.below (HX.out _ hs7.1)) (hO.below (HX.out _ hs7.1)) (hD'.below (HX.out _ hs7.1)) (hO'.below (HX.out _ hs7.1))).mono ?_; rw [Heq.out]; rintro x w8 ⟨rfl, hb8⟩; have hs8 := MkB.out _ (hs7.1.trans (hb8.mono hs7.1.size)))
      | (go_at_call 15; refine (osame_any k p n D d dc ds O o oc os k p n D d dc ds O o oc os _ Hd.out Ho.out Hd.out Ho.out (hD.below (HX.out _ hs8.1)) (hO.below (HX.out _ hs8.1)) (hD.below (HX.out _ hs8.1)) (hO.below (HX.out _ hs8.1))).mono ?_; rw [eqO_self]; rintro x w9 ⟨rfl, hb9⟩; have hs9 := MkB.out _ (hs8.1.trans (hb9.mono hs8.1.size)))
      | (go_at_call 17; refine (changes_any k p n D d dc O o oc _ hk).mono ?_; rw [Hch.out]; rintro x w10 ⟨rfl, hb10⟩; have hs10 := MkB.out _ (hs9.1.trans (hb10.mono hs9.1.size)))
      | (go_at_call 18; refine (rchanges_any k p n D d dc O o oc _ hk).mono ?_; rw [Hch.out]; rintro x w11 ⟨rfl, hb11⟩; have hs11 := MkB.out _ (hs10.1.trans (hb11.mono hs10.1.size)))
      | (go_at_call 19; refine (awake04_any _).mono ?_; rintro x w12 ⟨rfl, hb12⟩; have hs12 := MkB.out _ (hs11.1.trans (hb12.mono hs11.1.size))))
  all_goals
    go_wp2
    go_ret
    exact ⟨by simp, HX.out _ hs12.1⟩
end Go.Proofs.Ytabglphiafeheaa
