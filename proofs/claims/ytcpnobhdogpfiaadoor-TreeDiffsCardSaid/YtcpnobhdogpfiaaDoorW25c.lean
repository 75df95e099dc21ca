/- The law TreeDiffs walked. -/
import Derived.Test.YtcpnobhdogpfiaaDoorF25q
import Derived.Test.YtcpnobhdogpfiaaDoorG25f
import Derived.Test.YtcpnobhdogpfiaaDoorQui
import Derived.Deep.DeepFit
import Derived.Deep.CutRange
namespace Go.Proofs.YtcpnobhdogpfiaaDoor
set_option maxRecDepth 20000
open Go.RowKit Go.Px
set_option linter.unusedVariables false
set_option maxRecDepth 100000 in
set_option maxHeartbeats 6400000 in
theorem treeDiffs_walk (A : Option Addr) (n c : Nat) (ls : List (List Nat)) (B : Option Addr) (m d : Nat) (us : List (List Nat)) (w : World) {Q Q' : Nat → Prop} (hT : tyTree.Is w Q ls [.slice A n c]) (hU : tyTree.Is w Q' us [.slice B m d]) (ht : Tab w) :
    Calls Tryd.prog 7 #[.agg #[.slice A n c], .agg #[.slice B m d]] w fun e w' => e = .returned (.bool true) ∧ Below w.heap.size w w' := by
  obtain ⟨w0, hw0⟩ : ∃ x, (w.alloc (.cells #[.slice A n c] 29)).alloc (.cells #[.slice B m d] 29) = x := ⟨_, rfl⟩
  have hb0 : Below w.heap.size w w0 := by rw [← hw0]; exact ((Below.refl _ _).alloc (Nat.le_refl _) _).alloc (by simp) _
  have zw0 : w0.heap.size = w.heap.size + 2 := by rw [← hw0]; simp
  have B4 : Blk w0 w.heap.size [.slice A n c] 29 := by rw [← hw0]; exact (Blk.new w [.slice A n c] 29).alloc _
  have B5 : Blk w0 (w.heap.size + 1) [.slice B m d] 29 := by
    rw [← hw0]
    have := Blk.new (w.alloc (.cells #[.slice A n c] 29)) [.slice B m d] 29
    rwa [World.size_alloc] at this
  have hT0 := hT.low.below hb0
  have hU0 := hU.low.below hb0
  have ht0 : Tab w0 := Rd.below ht hb0
  have CA := hide (fun (X : World) (hX : Below w0.heap.size w0 X) => cut_any A n c ls X (hT0.below hX))
  have CB := hide (fun (X : World) (hX : Below w0.heap.size w0 X) => cut_any B m d us X (hU0.below hX))
  have Hw0 := hide hw0
  have HB4 := hide B4
  have HB5 := hide B5
  have K4 := hide (fun (X : World) (hX : Below w0.heap.size w0 X) => (B4.below hX).cell (j := 0) rfl)
  have K5 := hide (fun (X : World) (hX : Below w0.heap.size w0 X) => (B5.below hX).cell (j := 0) rfl)
  have c4 := K4.out w0.drew (Below.refl _ _).drew
  have c5 := K5.out w0.drew (Below.refl _ _).drew
  have Hz := hide zw0
  clear hw0 hT hU hT0 hU0 B4 B5 zw0
  go_enter Tryd.func7, Tryd.ntmps7
  go_wp2_with fail
  rw [Hw0.out]
  go_cut [] from 11 to 14 (fun wx => ∃ (A1 : Option Addr) (n1 c1 : Nat) (l1 : List (List Nat)) (B1 : Option Addr) (m1 d1 : Nat) (u1 : List (List Nat)), Blk wx w.heap.size [.slice A1 n1 c1] 29 ∧ Blk wx (w.heap.size + 1) [.slice B1 m1 d1] 29 ∧ tyTree.Is wx (fun b => b < w.heap.size) l1 [.slice A1 n1 c1] ∧ tyTree.Is wx (fun b => b < w.heap.size) u1 [.slice B1 m1 d1] ∧ Below w.heap.size w wx)
  case first =>
    have HA0 := hide (CA.out w0.drew (Below.refl _ _).drew)
    have HC0 := hide (CB.out w0.drew (Below.refl _ _).drew)
    go_region_with (first
      | (go_at_call 24; refine (CB.out wa ha).mono ?_; rintro e wb ⟨B1, m1, d1, u1, rfl, hB1, hbb⟩; have hb := ha.trans (hbb.mono ha.size); have hA2 := hA1.below hbb; have c4b := K4.out _ hb; have c5b := K5.out _ hb; have f4 := (HB4.out.below hb).frozen 0; have f5 := (HB5.out.below hb).frozen 0)
      | (go_at_call 24; refine (CA.out wv hv).mono ?_; rintro e wb ⟨A1, n1, c1, l1, rfl, hA2, hbb⟩; have hb := hv.trans (hbb.mono hv.size); have hB1 := hB0.below hbb; have c4b := K4.out _ hb; have c5b := K5.out _ hb; have f4 := (HB4.out.below hb).frozen 0; have f5 := (HB5.out.below hb).frozen 0)
      | (go_at_call 24; refine HA0.out.mono ?_; rintro e wa ⟨A1, n1, c1, l1, rfl, hA1, hba⟩; have ha := (Below.refl _ w0).drew.trans hba; have c4a := K4.out _ ha; have c5a := K5.out _ ha)
      | (go_at_call 24; refine HC0.out.mono ?_; rintro e wv ⟨B1, m1, d1, u1, rfl, hB0, hba⟩; have hv := (Below.refl _ w0).drew.trans hba; have c4a := K4.out _ hv; have c5a := K5.out _ hv))
    all_goals
      have hbw : Below w.heap.size w wb := hb0.trans (hb.mono hb0.size)
      have E4 : Blk ((wb.setCell ⟨w.heap.size, 0, none⟩ (.slice A1 n1 c1)).setCell ⟨w.heap.size + 1, 0, none⟩ (.slice B1 m1 d1)) w.heap.size [.slice A1 n1 c1] 29 := ((HB4.out.below hb).set 0 _).apart (by omega) 0 _
      have E5 : Blk ((wb.setCell ⟨w.heap.size, 0, none⟩ (.slice A1 n1 c1)).setCell ⟨w.heap.size + 1, 0, none⟩ (.slice B1 m1 d1)) (w.heap.size + 1) [.slice B1 m1 d1] 29 := ((HB5.out.below hb).apart (by omega) 0 _).set 0 _
      have hA3 := (hA2.grown (setCell_grown wb w.heap.size 0 (.slice A1 n1 c1)) (fun b hb e => by injection e with e; omega)).grown (setCell_grown _ (w.heap.size + 1) 0 (.slice B1 m1 d1)) (fun b hb e => by injection e with e; omega)
      have hB3 := (hB1.grown (setCell_grown wb w.heap.size 0 (.slice A1 n1 c1)) (fun b hb e => by injection e with e; omega)).grown (setCell_grown _ (w.heap.size + 1) 0 (.slice B1 m1 d1)) (fun b hb e => by injection e with e; omega)
      have hbx : Below w.heap.size w ((wb.setCell ⟨w.heap.size, 0, none⟩ (.slice A1 n1 c1)).setCell ⟨w.heap.size + 1, 0, none⟩ (.slice B1 m1 d1)) := (hbw.setCell (Nat.le_refl _) _).setCell (by show w.heap.size ≤ w.heap.size + 1; omega) _
      obtain ⟨wx, hwx⟩ : ∃ y, ((wb.setCell ⟨w.heap.size, 0, none⟩ (.slice A1 n1 c1)).setCell ⟨w.heap.size + 1, 0, none⟩ (.slice B1 m1 d1)) = y := ⟨_, rfl⟩
      rw [hwx] at E4 E5 hA3 hB3 hbx ⊢
      have HH := hide (And.intro E4 (And.intro E5 (And.intro hA3 (And.intro hB3 hbx))))
      clear hwx E4 E5 hA3 hB3 hbx hbw c4b c5b f4 f5 c4a c5a
      go_wp2_with fail
      go_meet
      case rel => exact ⟨A1, n1, c1, l1, B1, m1, d1, u1, HH.out⟩
  case rest =>
    obtain ⟨A1, n1, c1, l1, B1, m1, d1, u1, E4, E5, hA, hB, hbw⟩ := hcut
    have ht1 : Tab wc := Rd.below ht hbw
    have HE5 := hide E5
    have HE4 := hide E4
    have d4 := E4.cell (j := 0) rfl
    have d5 := E5.cell (j := 0) rfl
    obtain ⟨G, hG⟩ : ∃ y, dfE l1 u1 = y := ⟨_, rfl⟩
    obtain ⟨V, hV⟩ : ∃ y, dfR l1 u1 = y := ⟨_, rfl⟩
    have P1 := hide (fun (X : World) (hX : Below wc.heap.size wc X) => tdiff_any A1 n1 c1 B1 m1 d1 l1 u1 X (hA.below hX) (hB.below hX) (Rd.below ht1 hX))
    have P2 := hide (fun (X : World) (hX : Below wc.heap.size wc X) => rdiff_any A1 n1 c1 B1 m1 d1 l1 u1 X (hA.below hX) (hB.below hX))
    rw [hG, hV] at P1 P2
    have AW := hide (fun (X : World) (hX : Below wc.heap.size wc X) => awake_any X (Rd.below ht1 hX))
    clear hG hV E4 E5 hA hB HB4 HB5 K4 K5 CA CB c4 c5 Hw0
    go_wp2_with fail
    go_fit (P1.out wc (Below.refl _ _))
    rintro e w4 ⟨P, p, pc, rfl, hp, hp6, hP, hb4⟩
    have d4a := (HE4.out.below hb4).cell (j := 0) rfl
    have d5a := (HE5.out.below hb4).cell (j := 0) rfl
    have HP := hide hP
    have Hp := hide hp
    clear hP hp d4 d5
    go_wp2_with fail
    go_fit (P2.out w4 hb4)
    rintro e w5 ⟨R, r, rc, rfl, hr, hr6, hR, hb5'⟩
    have hb5 := hb4.trans (hb5'.mono hb4.size)
    have hrp : r = p := by rw [← hr, Hp.out]
    subst hrp
    have hb05 := hbw.trans (hb5.mono hbw.size)
    have HS := hide (sameplaces_eq P r pc R rc V.1 w5 Hp.out (by omega) (HP.out.below hb5') hR)
    clear hr hR d4a d5a
    go_wp2_with fail
    go_fit HS.out
    rintro e w6 ⟨rfl, hb6⟩
    have hbq := hb5.trans (hb6.mono hb5.size)
    have hb06 := hbw.trans (hbq.mono hbw.size)
    have HA := hide (AW.out w6 hbq)
    go_wp2_with fail
    go_fit HA.out
    rintro e w7 ⟨rfl, hb7⟩
    have hb07 := hb06.trans (hb7.mono hb06.size)
    go_wp2
    go_ret
    exact ⟨by simp, hb07⟩
end Go.Proofs.YtcpnobhdogpfiaaDoor
