/- The law TreeMakes walked. -/
import Derived.Test.YtcpnobhdogpfiaaDoorG25i
import Derived.Test.YtcpnobhdogpfiaaDoorG25j
import Derived.Test.YtcpnobhdogpfiaaDoorF25o
import Derived.Test.YtcpnobhdogpfiaaDoorF25j
import Derived.Test.YtcpnobhdogpfiaaDoorQui
import Derived.Deep.DeepFit
namespace Go.Proofs.YtcpnobhdogpfiaaDoor
set_option maxRecDepth 20000
open Go.RowKit Go.Px
set_option linter.unusedVariables false
theorem few_le (A : Option Addr) (n c : Nat) (l : List Nat) (w : World) (hn : l.length = n) (hnc : n ≤ c) (hr : Rd w A (u32s l)) :
    Calls Tryd.prog 12 #[.slice A n c] w fun e w' => ∃ (n' : Nat) (l' : List Nat), e = .returned (.slice A n' c) ∧ l'.length = n' ∧ n' ≤ c ∧ n' ≤ n ∧ Rd w A (u32s l') ∧ (∀ x ∈ l', x ∈ l) ∧ w = w' := by
  rcases (show n ≤ 300 ∨ (300 < n ∧ n ≤ 4096) ∨ (300 < n ∧ 4096 < n) by omega) with h | ⟨h, h'⟩ | ⟨h, h'⟩
  · have Hn := hide hn
    clear hn
    go_enter Tryd.func12, Tryd.ntmps12
    go_wp2
    go_ret
    exact ⟨n, rfl, l, Hn.out, hnc, Nat.le_refl _, hr, fun x hx => hx, rfl⟩
  · have Hn := hide hn
    clear hn
    go_enter Tryd.func12, Tryd.ntmps12
    go_wp2
    go_ret
    exact ⟨300, l.take 300, rfl, by rw [List.length_take, Hn.out]; omega, by omega, by omega, by unfold u32s; rw [List.map_take]; exact hr.take 300, fun x hx => List.mem_of_mem_take hx, rfl⟩
  · have Hn := hide hn
    clear hn
    go_enter Tryd.func12, Tryd.ntmps12
    go_wp2
    go_ret
    exact ⟨n, l, rfl, Hn.out, hnc, Nat.le_refl _, hr, fun x hx => hx, rfl⟩
set_option maxRecDepth 100000 in
set_option maxHeartbeats 6400000 in
theorem treeMakes_walk (p v : Int) (D : Option Addr) (dn dc : Nat) (ds : List UInt8) (A : Option Addr) (n c : Nat) (l0 : List Nat) (w : World) (hdn : ds.length = dn) (hdc : dn ≤ dc) (hd63 : dc ≤ 9223372036854775807) (hrd : Rd w D (bys ds)) (hn0 : l0.length = n) (hn8 : n ≤ 35184372087808) (hnc0 : n ≤ c) (hc63 : c ≤ 9223372036854775807) (hr0 : Rd w A (u32s l0)) (hb0 : ∀ y ∈ l0, y < 4294967296) (ht : Tab w) :
    Calls Tryd.prog 3 #[.agg #[.int .i64 p, .int .i64 v, .slice D dn dc], .slice A n c] w fun e w' => e = .returned (.bool true) ∧ Below w.heap.size w w' := by
  obtain ⟨w0, hw0⟩ : ∃ x, w.alloc (.cells #[.int .i64 p, .int .i64 v, .slice D dn dc] 24) = x := ⟨_, rfl⟩
  have hbw0 : Below w.heap.size w w0 := by rw [← hw0]; exact (Below.refl _ _).alloc (Nat.le_refl _) _
  have B2 : Blk w0 w.heap.size [.int .i64 p, .int .i64 v, .slice D dn dc] 24 := by rw [← hw0]; exact Blk.new w [.int .i64 p, .int .i64 v, .slice D dn dc] _
  obtain ⟨X, hX⟩ : ∃ X, X = if 5000 < dn then w0.setCell ⟨w.heap.size, 2, none⟩ (.slice D 5000 dc) else w0 := ⟨_, rfl⟩
  obtain ⟨m, hm⟩ : ∃ m, m = if 5000 < dn then 5000 else dn := ⟨_, rfl⟩
  have hm5 : m ≤ 5000 := by rw [hm]; split <;> omega
  have hmd : m ≤ dn := by rw [hm]; split <;> omega
  have BX : Blk X w.heap.size [.int .i64 p, .int .i64 v, .slice D m dc] 24 := by
    rw [hX, hm]
    split
    · exact B2.set 2 _
    · exact B2
  have hbX : Below w.heap.size w X := by
    rw [hX]
    split
    · exact hbw0.setCell (Nat.le_refl _) _
    · exact hbw0
  have hrX : Rd X D (bys (ds.take m)) := by
    have := (hrd.below hbX).take m
    unfold bys at this ⊢
    rwa [← List.map_take] at this
  have hml : (ds.take m).length = m := by rw [List.length_take, hdn]; omega
  have hlX := hr0.below hbX
  have htX : Tab X := Rd.below ht hbX
  have d2 := B2.cell (j := 2) rfl
  have f2 := B2.frozen 2
  have hl0 := hr0.below hbw0
  have Hw0 := hide hw0
  have Hrd := hide hrX
  have Hml := hide hml
  clear hw0 hrX hml hrd hdn B2 ht
  go_enter Tryd.func3, Tryd.ntmps3
  go_wp2_with fail
  rw [Hw0.out]
  go_fit (few_le A n c l0 w0 hn0 hnc0 hl0)
  rintro e w1 ⟨N, l, rfl, hn, hnc, hNn, hr, hsub, rfl⟩
  have hb : ∀ y ∈ l, y < 4294967296 := fun y hy => hb0 y (hsub y hy)
  have hlN : Rd X A (u32s l) := by
    rw [hX]
    split
    · exact hr.fr (Fr.set (X := fun b => b = w.heap.size) w0 ⟨w.heap.size, 2, none⟩ _ rfl) (fun hne a ha hx => by
        obtain ⟨y, hy⟩ : ∃ y, y ∈ l := by
          cases l with
          | nil => exact absurd rfl hne
          | cons y r => exact ⟨y, List.mem_cons_self ..⟩
        have hy0 := hsub y hy
        have := rd_block hr0 (fun e => by
          have h0 : (u32s l0).length = 0 := by rw [e]; rfl
          rw [u32s_length] at h0
          rw [List.length_eq_zero_iff.1 h0] at hy0
          cases hy0) a ha
        omega)
    · exact hr
  have M1 := hide (makeA_any A N c l X hn hnc hc63 hlN hb htX)
  have M2 := hide (fun (Z : World) (hZ : Below X.heap.size X Z) => rmakeA_any A N c l Z hn hnc hc63 (hlN.below hZ) hb)
  have R1 := hide (fun (Z : World) (hZ : Below X.heap.size X Z) => row_big A N c l Z hn (by omega) (hlN.below hZ) hb (Rd.below htX hZ))
  have R2 := hide (fun (Z : World) (hZ : Below X.heap.size X Z) => rrow_big A N c l Z hn (by omega) (hlN.below hZ) hb)
  have L1 := hide (fun (Z : World) (hZ : Below X.heap.size X Z) => leaf_any p v D m dc (ds.take m) Z Hml.out (by omega) (by omega) hd63 (Hrd.out.below hZ) (Rd.below htX hZ))
  have L2 := hide (fun (Z : World) (hZ : Below X.heap.size X Z) => rleaf_any p v D m dc (ds.take m) Z Hml.out (by omega) (by omega) hd63 (Hrd.out.below hZ))
  have AW := hide (fun (Z : World) (hZ : Below X.heap.size X Z) => awake_any Z (Rd.below htX hZ))
  obtain ⟨LV, hLV⟩ : ∃ y, leafN p v (ds.take m) = y := ⟨_, rfl⟩
  obtain ⟨RV, hRV⟩ : ∃ y, rowD l = y := ⟨_, rfl⟩
  obtain ⟨G, hG⟩ : ∃ y, mkE N = y := ⟨_, rfl⟩
  obtain ⟨V, hV⟩ : ∃ y, mkT l = y := ⟨_, rfl⟩
  rw [hLV] at L1 L2
  rw [hRV] at R1 R2
  rw [hG, hV] at M1 M2
  have HBX := hide BX
  have hsp : (¬ 5000 < dn ∧ w0 = X) ∨ (5000 < dn ∧ w0.setCell ⟨w.heap.size, 2, none⟩ (.slice D 5000 dc) = X) := by
    by_cases h : 5000 < dn
    · exact .inr ⟨h, by rw [hX, if_pos h]⟩
    · exact .inl ⟨h, by rw [hX, if_neg h]⟩
  clear hX hm hLV hRV hG hV BX hr hlN hlX hl0 hsub hb hb0 hr0 hn0 hbw0
  rcases hsp with ⟨hs1, hs2⟩ | ⟨hs1, hs2⟩
  all_goals
    have Hs2 := hide hs2
    clear hs2
    go_wp2_with fail
    try rw [Hs2.out]
    go_fit M1.out
    rintro e w4 ⟨P, q, pc, rfl, hP, hb4⟩
    obtain ⟨w5, hw5⟩ : ∃ y, w4.alloc (.cells #[.slice P q pc] 29) = y := ⟨_, rfl⟩
    have hb45 : Below w4.heap.size w4 w5 := by rw [← hw5]; exact (Below.refl _ _).alloc (Nat.le_refl _) _
    have hb5 := hb4.trans (hb45.mono hb4.size)
    have B13 : Blk w5 w4.heap.size [.slice P q pc] 29 := by rw [← hw5]; exact Blk.new w4 [.slice P q pc] _
    have Hw5 := hide hw5
    have HP := hide hP
    clear hw5 hP d2 f2
    go_wp2_with fail
    rw [Hw5.out]
    go_fit (M2.out w5 hb5)
    rintro e w6 ⟨R, rn, rc, rfl, hR, hb6'⟩
    have hb6 := hb5.trans (hb6'.mono hb5.size)
    obtain ⟨w7, hw7⟩ : ∃ y, w6.alloc (.cells #[.slice R rn rc] 29) = y := ⟨_, rfl⟩
    have hb67 : Below w6.heap.size w6 w7 := by rw [← hw7]; exact (Below.refl _ _).alloc (Nat.le_refl _) _
    have hb7 := hb6.trans (hb67.mono hb6.size)
    have hb57 := hb6'.trans (hb67.mono hb6'.size)
    have B15 : Blk w7 w6.heap.size [.slice R rn rc] 29 := by rw [← hw7]; exact Blk.new w6 [.slice R rn rc] _
    have hP7 := (HP.out.below hb45).below hb57
    have hR7 := hR.below hb67
    have z7 := hb7.size
    have up : ∀ z : InC (fun W => Below w7.heap.size w7 W), Below X.heap.size X z.W := fun z => hb7.trans (z.h.mono z7)
    have g1 : ∀ z : InC (fun W => Below w7.heap.size w7 W), z.W.cell? ⟨w.heap.size, 0, none⟩ = some (.int .i64 p) := fun z => (HBX.out.below (up z)).cell (j := 0) rfl
    have g2 : ∀ z : InC (fun W => Below w7.heap.size w7 W), z.W.cell? ⟨w.heap.size, 1, none⟩ = some (.int .i64 v) := fun z => (HBX.out.below (up z)).cell (j := 1) rfl
    have g3 : ∀ z : InC (fun W => Below w7.heap.size w7 W), z.W.cell? ⟨w.heap.size, 2, none⟩ = some (.slice D m dc) := fun z => (HBX.out.below (up z)).cell (j := 2) rfl
    have g13 : ∀ z : InC (fun W => Below w7.heap.size w7 W), z.W.cell? ⟨w4.heap.size, 0, none⟩ = some (.slice P q pc) := fun z => ((B13.below hb57).below z.h).cell (j := 0) rfl
    have g15 : ∀ z : InC (fun W => Below w7.heap.size w7 W), z.W.cell? ⟨w6.heap.size, 0, none⟩ = some (.slice R rn rc) := fun z => (B15.below z.h).cell (j := 0) rfl
    have S0 := fun (z : InC (fun W => Below w7.heap.size w7 W)) => rsame_any P q pc V R rn rc V z.W (hP7.below z.h) (hR7.below z.h)
    rw [eqL_self] at S0
    have HS0 := hide S0
    have HL1 := hide (fun (z : InC (fun W => Below w7.heap.size w7 W)) => L1.out z.W (up z))
    have HL2 := hide (fun (z : InC (fun W => Below w7.heap.size w7 W)) => L2.out z.W (up z))
    have HR1 := hide (fun (z : InC (fun W => Below w7.heap.size w7 W)) => R1.out z.W (up z))
    have HR2 := hide (fun (z : InC (fun W => Below w7.heap.size w7 W)) => R2.out z.W (up z))
    have HAW := hide (fun (z : InC (fun W => Below w7.heap.size w7 W)) => AW.out z.W (up z))
    have Hw7 := hide hw7
    have hb07 := hbX.trans (hb7.mono hbX.size)
    clear hw7 hP7 hR7 hR S0 up L1 L2 R1 R2 AW M1 M2 B13 B15 HBX Hrd Hml
    go_wp2_with fail
    rw [Hw7.out]
    refine wp_region_in (fun W => Below w7.heap.size w7 W) (Below.refl _ _).drew (by kernel_rfl) (by kernel_rfl) ?_
    repeat (go_big_quiet_step (first
      | (go_at_call 15; with_reducible exact Calls.in_below (HL1.out _))
      | (go_at_call 16; with_reducible exact Calls.in_below (HL2.out _))
      | (go_at_call 17; with_reducible exact Calls.in_below (HR1.out _))
      | (go_at_call 18; with_reducible exact Calls.in_below (HR2.out _))
      | (go_at_call 19; with_reducible exact Calls.in_below (HS0.out _))
      | (go_at_call 20; with_reducible exact Calls.in_below (HAW.out _))))
    refine wpQuiet_nil ?_
    rintro _ ⟨nq, rfl⟩
    have hbq := nq.h
    obtain ⟨w8, hw8⟩ : ∃ y, nq.W = y := ⟨_, rfl⟩
    rw [hw8] at hbq ⊢
    have hb8 := hb07.trans (hbq.mono hb07.size)
    clear g1 g2 g3 g13 g15 hw8
    go_wp2
    go_ret
    exact ⟨by simp, hb8⟩
end Go.Proofs.YtcpnobhdogpfiaaDoor
