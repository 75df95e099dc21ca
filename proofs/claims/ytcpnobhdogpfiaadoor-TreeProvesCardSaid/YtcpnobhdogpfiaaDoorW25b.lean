/- The law TreeProves walked. -/
import Derived.Test.YtcpnobhdogpfiaaDoorF25q
import Derived.Test.YtcpnobhdogpfiaaDoorG25b
import Derived.Test.YtcpnobhdogpfiaaDoorQui
import Derived.Deep.DeepFit
import Derived.Deep.CutRange
namespace Go.Proofs.YtcpnobhdogpfiaaDoor
set_option maxRecDepth 20000
open Go.RowKit Go.Px
set_option linter.unusedVariables false
set_option maxRecDepth 100000 in
set_option maxHeartbeats 6400000 in
theorem treeProves_walk (A : Option Addr) (n c : Nat) (ls : List (List Nat)) (i : Int) (root : Nat) (N : Int) (D : Nat) (J : Int) (B : Option Addr) (m d : Nat) (us : List (List Nat)) (w : World) {Q Q' : Nat → Prop} (hT : tyTree.Is w Q ls [.slice A n c]) (hU : tyTree.Is w Q' us [.slice B m d]) (hr : root < 4294967296) (hD : D < 4294967296) (ht : Tab w) :
    Calls Tryd.prog 6 #[.agg #[.slice A n c], .int .i64 i, .int .u32 (root : Int), .int .i64 N, .int .u32 (D : Int), .agg #[.int .i64 J, .slice B m d]] w fun e w' => e = .returned (.bool true) ∧ Below w.heap.size w w' := by
  obtain ⟨w0, hw0⟩ : ∃ x, (w.alloc (.cells #[.slice A n c] 29)).alloc (.cells #[.int .i64 J, .slice B m d] 58) = x := ⟨_, rfl⟩
  have hb0 : Below w.heap.size w w0 := by rw [← hw0]; exact ((Below.refl _ _).alloc (Nat.le_refl _) _).alloc (by simp) _
  have zw0 : w0.heap.size = w.heap.size + 2 := by rw [← hw0]; simp
  have B4 : Blk w0 w.heap.size [.slice A n c] 29 := by rw [← hw0]; exact (Blk.new w [.slice A n c] 29).alloc _
  have B5 : Blk w0 (w.heap.size + 1) [.int .i64 J, .slice B m d] 58 := by
    rw [← hw0]
    have := Blk.new (w.alloc (.cells #[.slice A n c] 29)) [.int .i64 J, .slice B m d] 58
    rwa [World.size_alloc] at this
  have hT0 := hT.low.below hb0
  have hU0 := hU.low.below hb0
  have ht0 : Tab w0 := Rd.below ht hb0
  have CA := hide (fun (X : World) (hX : Below w0.heap.size w0 X) => cut_any A n c ls X (hT0.below hX))
  have CB := hide (fun (X : World) (hX : Below w0.heap.size w0 X) => light_any J B m d us X (hU0.below hX))
  have Hw0 := hide hw0
  have HB4 := hide B4
  have HB5 := hide B5
  have K4 := hide (fun (X : World) (hX : Below w0.heap.size w0 X) => (B4.below hX).cell (j := 0) rfl)
  have K5 := hide (fun (X : World) (hX : Below w0.heap.size w0 X) => (B5.below hX).cell (j := 0) rfl)
  have K6 := hide (fun (X : World) (hX : Below w0.heap.size w0 X) => (B5.below hX).cell (j := 1) rfl)
  have c4 := K4.out w0.drew (Below.refl _ _).drew
  have c5 := K5.out w0.drew (Below.refl _ _).drew
  have c6 := K6.out w0.drew (Below.refl _ _).drew
  have Hz := hide zw0
  clear hw0 hT hU hT0 hU0 B4 B5 zw0
  go_enter Tryd.func6, Tryd.ntmps6
  go_wp2_with fail
  rw [Hw0.out]
  go_cut [] from 17 to 20 (fun wx => ∃ (A1 : Option Addr) (n1 c1 : Nat) (l1 : List (List Nat)) (B1 : Option Addr) (m1 d1 : Nat) (u1 : List (List Nat)), Blk wx w.heap.size [.slice A1 n1 c1] 29 ∧ Blk wx (w.heap.size + 1) [.int .i64 J, .slice B1 m1 d1] 58 ∧ tyTree.Is wx (fun b => b < w.heap.size) l1 [.slice A1 n1 c1] ∧ tyTree.Is wx (fun b => b < w.heap.size) u1 [.slice B1 m1 d1] ∧ Below w.heap.size w wx)
  case first =>
    have HA0 := hide (CA.out w0.drew (Below.refl _ _).drew)
    have HC0 := hide (CB.out w0.drew (Below.refl _ _).drew)
    go_region_with (first
      | (go_at_call 32; refine (CB.out wa ha).mono ?_; rintro e wb ⟨B1, m1, d1, u1, rfl, hB1, hbb⟩; have hb := ha.trans (hbb.mono ha.size); have hA2 := hA1.below hbb; have c4b := K4.out _ hb; have c5b := K5.out _ hb; have c6b := K6.out _ hb; have f4 := (HB4.out.below hb).frozen 0; have f5 := (HB5.out.below hb).frozen 0; have f6 := (HB5.out.below hb).frozen 1)
      | (go_at_call 24; refine (CA.out wv hv).mono ?_; rintro e wb ⟨A1, n1, c1, l1, rfl, hA2, hbb⟩; have hb := hv.trans (hbb.mono hv.size); have hB1 := hB0.below hbb; have c4b := K4.out _ hb; have c5b := K5.out _ hb; have c6b := K6.out _ hb; have f4 := (HB4.out.below hb).frozen 0; have f5 := (HB5.out.below hb).frozen 0; have f6 := (HB5.out.below hb).frozen 1)
      | (go_at_call 24; refine HA0.out.mono ?_; rintro e wa ⟨A1, n1, c1, l1, rfl, hA1, hba⟩; have ha := (Below.refl _ w0).drew.trans hba; have c4a := K4.out _ ha; have c5a := K5.out _ ha; have c6a := K6.out _ ha)
      | (go_at_call 32; refine HC0.out.mono ?_; rintro e wv ⟨B1, m1, d1, u1, rfl, hB0, hba⟩; have hv := (Below.refl _ w0).drew.trans hba; have c4a := K4.out _ hv; have c5a := K5.out _ hv; have c6a := K6.out _ hv))
    all_goals
      have hbw : Below w.heap.size w wb := hb0.trans (hb.mono hb0.size)
      have E4 : Blk (((wb.setCell ⟨w.heap.size, 0, none⟩ (.slice A1 n1 c1)).setCell ⟨w.heap.size + 1, 0, none⟩ (.int .i64 J)).setCell ⟨w.heap.size + 1, 1, none⟩ (.slice B1 m1 d1)) w.heap.size [.slice A1 n1 c1] 29 := (((HB4.out.below hb).set 0 _).apart (by omega) 0 _).apart (by omega) 1 _
      have E5 : Blk (((wb.setCell ⟨w.heap.size, 0, none⟩ (.slice A1 n1 c1)).setCell ⟨w.heap.size + 1, 0, none⟩ (.int .i64 J)).setCell ⟨w.heap.size + 1, 1, none⟩ (.slice B1 m1 d1)) (w.heap.size + 1) [.int .i64 J, .slice B1 m1 d1] 58 := (((HB5.out.below hb).apart (by omega) 0 _).set 0 _).set 1 _
      have hA3 := ((hA2.grown (setCell_grown wb w.heap.size 0 (.slice A1 n1 c1)) (fun b hb e => by injection e with e; omega)).grown (setCell_grown _ (w.heap.size + 1) 0 (.int .i64 J)) (fun b hb e => by injection e with e; omega)).grown (setCell_grown _ (w.heap.size + 1) 1 (.slice B1 m1 d1)) (fun b hb e => by injection e with e; omega)
      have hB3 := ((hB1.grown (setCell_grown wb w.heap.size 0 (.slice A1 n1 c1)) (fun b hb e => by injection e with e; omega)).grown (setCell_grown _ (w.heap.size + 1) 0 (.int .i64 J)) (fun b hb e => by injection e with e; omega)).grown (setCell_grown _ (w.heap.size + 1) 1 (.slice B1 m1 d1)) (fun b hb e => by injection e with e; omega)
      have hbx : Below w.heap.size w (((wb.setCell ⟨w.heap.size, 0, none⟩ (.slice A1 n1 c1)).setCell ⟨w.heap.size + 1, 0, none⟩ (.int .i64 J)).setCell ⟨w.heap.size + 1, 1, none⟩ (.slice B1 m1 d1)) := ((hbw.setCell (Nat.le_refl _) _).setCell (by show w.heap.size ≤ w.heap.size + 1; omega) _).setCell (by show w.heap.size ≤ w.heap.size + 1; omega) _
      obtain ⟨wx, hwx⟩ : ∃ y, (((wb.setCell ⟨w.heap.size, 0, none⟩ (.slice A1 n1 c1)).setCell ⟨w.heap.size + 1, 0, none⟩ (.int .i64 J)).setCell ⟨w.heap.size + 1, 1, none⟩ (.slice B1 m1 d1)) = y := ⟨_, rfl⟩
      rw [hwx] at E4 E5 hA3 hB3 hbx ⊢
      have HH := hide (And.intro E4 (And.intro E5 (And.intro hA3 (And.intro hB3 hbx))))
      clear hwx E4 E5 hA3 hB3 hbx hbw c4b c5b c6b f4 f5 f6 c4a c5a c6a
      go_wp2_with fail
      go_meet
      case rel => exact ⟨A1, n1, c1, l1, B1, m1, d1, u1, HH.out⟩
  case rest =>
    obtain ⟨A1, n1, c1, l1, B1, m1, d1, u1, E4, E5, hA, hB, hbw⟩ := hcut
    have ht1 : Tab wc := Rd.below ht hbw
    have K4' := hide (fun (X : World) (hX : Below wc.heap.size wc X) => (E4.below hX).cell (j := 0) rfl)
    have d4 := E4.cell (j := 0) rfl
    have HE5 := hide E5
    obtain ⟨G, hG⟩ : ∃ y, plE l1 i = y := ⟨_, rfl⟩
    obtain ⟨I, hI⟩ : ∃ y, pvI l1 i = y := ⟨_, rfl⟩
    obtain ⟨V, hV⟩ : ∃ y, pvR l1 i = y := ⟨_, rfl⟩
    obtain ⟨F, hF⟩ : ∃ y, pvE root N D J u1 = y := ⟨_, rfl⟩
    have P1 := hide (fun (X : World) (hX : Below wc.heap.size wc X) => prove_any A1 n1 c1 l1 i X (hA.below hX) (Rd.below ht1 hX))
    have P2 := hide (fun (X : World) (hX : Below wc.heap.size wc X) => rprove_any A1 n1 c1 l1 i X (hA.below hX))
    have C1 := hide (fun (X : World) (hX : Below wc.heap.size wc X) => proved_any root D N J B1 m1 d1 u1 X (hB.below hX) hD hr (Rd.below ht1 hX))
    have C2 := hide (fun (X : World) (hX : Below wc.heap.size wc X) => rproved_any root D N J B1 m1 d1 u1 X (hB.below hX) hD hr)
    rw [hG, hV, hI] at P1 P2
    rw [hF] at C1 C2
    have AW := hide (fun (X : World) (hX : Below wc.heap.size wc X) => awake_any X (Rd.below ht1 hX))
    clear hG hV hI hF E4 E5 hA hB HB4 HB5 K4 K5 K6 CA CB c4 c5 c6 Hw0
    go_wp2_with fail
    go_fit (P1.out wc (Below.refl _ _))
    rintro e w4 ⟨P, p, pc, rfl, hP, hb4⟩
    obtain ⟨w5, hw5⟩ : ∃ y, w4.alloc (.cells #[.int .i64 I, .slice P p pc] 58) = y := ⟨_, rfl⟩
    have hb45 : Below w4.heap.size w4 w5 := by rw [← hw5]; exact (Below.refl _ _).alloc (Nat.le_refl _) _
    have hb5 := hb4.trans (hb45.mono hb4.size)
    have B13 : Blk w5 w4.heap.size [.int .i64 I, .slice P p pc] 58 := by rw [← hw5]; exact Blk.new w4 [.int .i64 I, .slice P p pc] _
    have d4c := K4'.out w5 hb5
    rw [← hw5] at d4c
    have Hw5 := hide hw5
    have HP := hide hP
    clear hw5 hP d4
    go_wp2_with fail
    rw [Hw5.out]
    go_fit (P2.out w5 hb5)
    rintro e w6 ⟨R, rn, rc, rfl, hR, hb6'⟩
    have hb6 := hb5.trans (hb6'.mono hb5.size)
    obtain ⟨w7, hw7⟩ : ∃ y, w6.alloc (.cells #[.int .i64 I, .slice R rn rc] 58) = y := ⟨_, rfl⟩
    have hb67 : Below w6.heap.size w6 w7 := by rw [← hw7]; exact (Below.refl _ _).alloc (Nat.le_refl _) _
    have hb7 := hb6.trans (hb67.mono hb6.size)
    have hb57 := hb6'.trans (hb67.mono hb6'.size)
    have B15 : Blk w7 w6.heap.size [.int .i64 I, .slice R rn rc] 58 := by rw [← hw7]; exact Blk.new w6 [.int .i64 I, .slice R rn rc] _
    have hP7 := (HP.out.below hb45).below hb57
    have hR7 := hR.below hb67
    have z7 := hb7.size
    have up : ∀ z : InC (fun W => Below w7.heap.size w7 W), Below wc.heap.size wc z.W := fun z => hb7.trans (z.h.mono z7)
    have g5 : ∀ z : InC (fun W => Below w7.heap.size w7 W), z.W.cell? ⟨w.heap.size + 1, 0, none⟩ = some (.int .i64 J) := fun z => (HE5.out.below (up z)).cell (j := 0) rfl
    have g6 : ∀ z : InC (fun W => Below w7.heap.size w7 W), z.W.cell? ⟨w.heap.size + 1, 1, none⟩ = some (.slice B1 m1 d1) := fun z => (HE5.out.below (up z)).cell (j := 1) rfl
    have g13 : ∀ z : InC (fun W => Below w7.heap.size w7 W), z.W.cell? ⟨w4.heap.size, 0, none⟩ = some (.int .i64 I) := fun z => ((B13.below hb57).below z.h).cell (j := 0) rfl
    have g14 : ∀ z : InC (fun W => Below w7.heap.size w7 W), z.W.cell? ⟨w4.heap.size, 1, none⟩ = some (.slice P p pc) := fun z => ((B13.below hb57).below z.h).cell (j := 1) rfl
    have g15 : ∀ z : InC (fun W => Below w7.heap.size w7 W), z.W.cell? ⟨w6.heap.size, 0, none⟩ = some (.int .i64 I) := fun z => (B15.below z.h).cell (j := 0) rfl
    have g16 : ∀ z : InC (fun W => Below w7.heap.size w7 W), z.W.cell? ⟨w6.heap.size, 1, none⟩ = some (.slice R rn rc) := fun z => (B15.below z.h).cell (j := 1) rfl
    have S0 := fun (z : InC (fun W => Below w7.heap.size w7 W)) => rsameproof_any I I P p pc V R rn rc V z.W (hP7.below z.h) (hR7.below z.h)
    simp only [eqL_self, decide_true, Bool.and_self] at S0
    have HS0 := hide S0
    have HC1 := hide (fun (z : InC (fun W => Below w7.heap.size w7 W)) => C1.out z.W (up z))
    have HC2 := hide (fun (z : InC (fun W => Below w7.heap.size w7 W)) => C2.out z.W (up z))
    have HAW := hide (fun (z : InC (fun W => Below w7.heap.size w7 W)) => AW.out z.W (up z))
    have Hw7 := hide hw7
    have hb07 := hbw.trans (hb7.mono hbw.size)
    clear hw7 hP7 hR7 hR S0 up d4c C1 C2 AW P1 P2 B13 B15 HE5 K4'
    go_wp2_with fail
    rw [Hw7.out]
    refine wp_region_in (fun W => Below w7.heap.size w7 W) (Below.refl _ _).drew (by kernel_rfl) (by kernel_rfl) ?_
    repeat (go_big_quiet_step (first
      | (go_at_call 36; with_reducible exact Calls.in_below (HC1.out _))
      | (go_at_call 37; with_reducible exact Calls.in_below (HC2.out _))
      | (go_at_call 35; with_reducible exact Calls.in_below (HS0.out _))
      | (go_at_call 20; with_reducible exact Calls.in_below (HAW.out _))))
    refine wpQuiet_nil ?_
    rintro _ ⟨nq, rfl⟩
    have hbq := nq.h
    obtain ⟨w8, hw8⟩ : ∃ y, nq.W = y := ⟨_, rfl⟩
    rw [hw8] at hbq ⊢
    have hb8 := hb07.trans (hbq.mono hb07.size)
    clear g5 g6 g13 g14 g15 g16 hw8
    go_wp2
    go_ret
    exact ⟨by simp, hb8⟩
end Go.Proofs.YtcpnobhdogpfiaaDoor
