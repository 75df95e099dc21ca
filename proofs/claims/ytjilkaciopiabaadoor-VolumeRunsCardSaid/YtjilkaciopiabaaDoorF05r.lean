/- plinthref05.New, Load of no pages; begin. -/
import Derived.Test.YtjilkaciopiabaaDoorF05q
import Derived.Deep.RegionLaw
import Derived.Test.YtjilkaciopiabaaDoorReg
namespace Go.Proofs.YtjilkaciopiabaaDoor
open Go.RowKit Go.Px
set_option linter.unusedVariables false
theorem tRows : SlT Tryd.prog 68 36 1 24 := slT_mk Tryd.underlying68 (z := .slice none 0 0) (by kernel_rfl) rfl (by decide)
theorem own_grown {w w' : World} {base e size n : Nat} {v : Value} {xs : List Value} {row : Option Nat} (h : w.ownsRow base e size v n xs) (hg : w.grownBy w' row) (hne : ∀ g, v.ownBlock = some g → row ≠ some g) : w'.ownsRow base e size v n xs := by
  refine ⟨h.1, ?_⟩
  rcases h.2 with h2 | ⟨g, cap, cur, rfl, hbg, hgg, r⟩
  · exact .inl h2
  · exact .inr ⟨g, cap, cur, rfl, hbg, (hg.block g (Array.getElem?_eq_some_iff.1 hgg).1 (fun e => hne g rfl e.symm)).trans hgg, r⟩
theorem one_slice (A : Option Addr) (n c : Nat) : ∀ u ∈ [Value.slice A n c], u.oneCell' = true := by intro u hu; simp at hu; subst hu; rfl
theorem one_int (x : Int) : ∀ u ∈ [Value.int .i64 x], u.oneCell' = true := by intro u hu; simp at hu; subst hu; rfl
set_option maxHeartbeats 3200000 in
theorem rnew_ok (b z : Nat) (w : World) (hb : 1 ≤ b ∧ b ≤ 4096) (hz : 1 ≤ z ∧ z ≤ 4096) :
    Calls Tryd.prog 36 #[shp b z] w fun e w' => ∃ rv, e = .returned (.tuple #[.pointer (some ⟨rv, 0, none⟩), .int .i64 0]) ∧ w'.cell? ⟨rv, 0, none⟩ = some (.int .i64 b) ∧ w'.cell? ⟨rv, 1, none⟩ = some (.int .i64 z) ∧ w.heap.size ≤ rv ∧ rv < w'.heap.size ∧ Below w.heap.size w w' := by
  obtain ⟨hb1', hb2'⟩ := hb
  obtain ⟨hz1', hz2'⟩ := hz
  obtain ⟨w0, hw0⟩ : ∃ w0, w.alloc (.cells #[.int .i64 b, .int .i64 z] 23) = w0 := ⟨_, rfl⟩
  obtain ⟨g, hg⟩ : ∃ g, w.heap.size = g := ⟨_, rfl⟩
  have hS : Blk w0 g [.int .i64 b, .int .i64 z] 23 := by rw [← hw0, ← hg]; exact Blk.new w [.int .i64 b, .int .i64 z] _
  have hb0 : Below w.heap.size w w0 := by rw [← hw0]; exact (Below.refl _ _).alloc (Nat.le_refl _) _
  have hgs : w.heap.size + 1 = w0.heap.size := by rw [← hw0, World.size_alloc]
  have x0 := hS.cell (j := 0) rfl
  have x1 := hS.cell (j := 1) rfl
  have HE := hide (show shE b z = 0 by unfold shE; rw [if_pos ⟨⟨by omega, by omega⟩, by omega, by omega⟩])
  have Hw0 := hide hw0
  clear hw0
  go_enter Tryd.func36, Tryd.ntmps36
  go_wp2_with fail
  rw [Hw0.out]
  go_fit (rshape_any b z w0)
  rw [HE.out]
  rintro x w1 ⟨rfl, hb1⟩
  have hb01 := hb0.trans (hb1.mono hb0.size)
  have hS1 := hS.below hb1
  have hsz1 := hb1.size
  clear x0 x1
  have x0 := hS1.cell (j := 0) rfl
  have x1 := hS1.cell (j := 1) rfl
  obtain ⟨rv, hrv⟩ : ∃ g, w1.heap.size = g := ⟨_, rfl⟩
  have hR0 := Blk.new w1 [.int .i64 b, .int .i64 z, .slice none 0 0, .slice none 0 0, .int .i64 0] 70
  have hS2 := hS1.alloc (.cells #[.int .i64 b, .int .i64 z, .slice none 0 0, .slice none 0 0, .int .i64 0] 70)
  have hb2 : Below w.heap.size w (w1.alloc (.cells #[.int .i64 b, .int .i64 z, .slice none 0 0, .slice none 0 0, .int .i64 0] 70)) := hb01.alloc hb01.size _
  rw [hrv] at hR0
  have hglt := hS1.lt
  rw [hrv] at hglt
  have hm1 := fun W => run_mkB (P := Tryd.prog) (t := 36) (e := 5) (z := .int .u8 0) (bytes := 1) Tryd.underlying36 (by kernel_rfl) rfl (N := z) (by omega) (by omega) W
  go_wp2
  go_loopw [6] (fun i wr => ∃ (k : Nat) (Bv Vv : Value) (bc vc : List Value), k ≤ b ∧ i = .int .i64 k ∧ Blk wr rv [.int .i64 b, .int .i64 z, Bv, Vv, .int .i64 0] 70 ∧ wr.ownsRow (rv + 1) 36 1 Bv k bc ∧ wr.ownsRow (rv + 1) 3 1 Vv k vc ∧
      (∀ x, Bv.ownBlock = some x → Vv.ownBlock ≠ some x) ∧ Blk wr g [.int .i64 b, .int .i64 z] 23 ∧ Below w.heap.size w wr) (fun i _ => b - (intOf i).toNat)
  case atStart => exact ⟨0, _, _, [], [], by omega, rfl, hR0, World.ownsRow_nil _ _ _ _, World.ownsRow_nil _ _ _ _, by intro x hx; simp [Value.ownBlock] at hx, hS2, hb2⟩
  case round =>
    obtain ⟨k, Bv, Vv, bc, vc, hk, rfl, hR, hBo, hVo, hne, hSr, hbw⟩ := hrel
    clear x0 x1 hR0 hS2 hb2
    have x0 := hSr.cell (j := 0) rfl
    have x1 := hSr.cell (j := 1) rfl
    by_cases hlt : k < b
    · have rvl := hR.lt
      have mkX : ∀ X, Below (rv + 1) wr X → (Below (rv + 1) wr X ∧ X.cell? ⟨rv, 2, none⟩ = some Bv ∧ X.cell? ⟨g, 1, none⟩ = some (.int .i64 z)) := fun X hX => ⟨hX, (hR.lo hX (by omega)).cell (j := 2) rfl, (hSr.lo hX (by omega)).cell (j := 1) rfl⟩
      have mkA : ∀ X o, (Below (rv + 1) wr X ∧ X.cell? ⟨rv, 2, none⟩ = some Bv ∧ X.cell? ⟨g, 1, none⟩ = some (.int .i64 z)) → (Below (rv + 1) wr (X.alloc o) ∧ (X.alloc o).cell? ⟨rv, 2, none⟩ = some Bv ∧ (X.alloc o).cell? ⟨g, 1, none⟩ = some (.int .i64 z)) := fun X o h => mkX _ (h.1.alloc (by have := h.1.size; omega) _)
      have S0 := mkX wr.drew (Below.refl _ _).drew
      have hBW : ∀ X, Below wr.heap.size wr X → X.ownsRow (rv + 1) 36 1 Bv k bc := fun X hX => own_below hBo hX
      have HBW := hide hBW
      have LeW := hide (show ∀ X, Below (rv + 1) wr X → rv + 1 ≤ X.heap.size from fun X hX => by have := hX.size; omega)
      have HG := hide (show ∀ X Y, Below (rv + 1) wr X → X.grownBy Y Bv.ownBlock → Below (rv + 1) wr Y from fun X Y hX hg => hX.grown hg (by have := hX.size; omega) (fun q hq => (own_lt hBo q hq).1))
      have HF := hide (show ∀ X, Below (rv + 1) wr X → X.frozen? ⟨rv, 2, none⟩ = false from fun X hX => (hR.lo hX (by omega)).frozen 2)
      have MkA := hide mkA
      have MkX := hide mkX
      have hk1 : (k + 1) * 24 ≤ 140737488355328 := by omega
      have hk2 : k + 1 ≤ 140737488355328 := by omega
      clear hBW mkX mkA
      have x2 := hR.cell (j := 2) rfl
      have xa2 := fun o => (hR.alloc o).cell (j := 2) rfl
      have xb2 := fun o o' => ((hR.alloc o).alloc o').cell (j := 2) rfl
      have xa1 := fun o => (hSr.alloc o).cell (j := 1) rfl
      have xb1 := fun o o' => ((hSr.alloc o).alloc o').cell (j := 1) rfl
      go_wp2_with fail
      go_region_law (refine step_own (v := Bv) rfl rfl tRows (by simp [Act.eval]) (HBW.out _ (by first | exact (((Below.refl _ _).alloc (Nat.le_refl _) _).alloc (by simp) _).drew | exact (((Below.refl _ _).drew.alloc (Nat.le_refl _) _).alloc (by simp) _))) (by simp [Act.eval]; rfl) (m := 1) rfl (Rd.new1 _ _ _) (one_slice _ _ _) hk1 hk2 (LeW.out _ (by first | exact (((Below.refl _ _).alloc rvl _).alloc (by simp; omega) _).drew | exact (((Below.refl _ _).drew.alloc rvl _).alloc (by simp; omega) _))) ?_; intro v5 w5 hown5 hg5 hv5; have hs5 := MkX.out _ (HG.out _ _ (by first | exact (((Below.refl _ _).alloc rvl _).alloc (by simp; omega) _).drew | exact (((Below.refl _ _).drew.alloc rvl _).alloc (by simp; omega) _)) hg5); have fz5 := HF.out _ (And.left hs5); have ce5 := And.left (And.right hs5); have lt5 := own_lt hown5; obtain ⟨A5, c5, rfl, _, _, _, _, _⟩ := own_out hown5)
      all_goals
        have hsz5 := hg5.size
        simp at hsz5
        have hR6 := (hR.lo (And.left hs5) (show rv < rv + 1 by omega)).set 2 (.slice A5 (k + 1) c5)
        have hB6 := ownsRow_setCell_below hown5 (show (⟨rv, 2, none⟩ : Addr).block < rv + 1 by show rv < rv + 1; omega) (.slice A5 (k + 1) c5)
        have hV5 := own_grown (own_below hVo (show Below wr.heap.size wr _ by first | exact (((Below.refl _ _).alloc (Nat.le_refl _) _).alloc (by simp) _).drew | exact (((Below.refl _ _).drew.alloc (Nat.le_refl _) _).alloc (by simp) _))) hg5 (fun x hx e => hne x e hx)
        have hV6 := ownsRow_setCell_below hV5 (show (⟨rv, 2, none⟩ : Addr).block < rv + 1 by show rv < rv + 1; omega) (.slice A5 (k + 1) c5)
        have hne6 : ∀ x, (Value.slice A5 (k + 1) c5).ownBlock = some x → Vv.ownBlock ≠ some x := fun x hx e => by
          rcases hv5 with e' | e'
          · rw [e'] at hx; exact hne x hx e
          · have := (own_lt hVo x e).2
            rw [e'] at hx
            simp at hx
            omega
        have hS6 := (hSr.lo (And.left hs5) (show g < rv + 1 by omega)).apart (show g ≠ rv by omega) 2 (.slice A5 (k + 1) c5)
        have hb6 : Below w.heap.size w (w5.setCell ⟨rv, 2, none⟩ (.slice A5 (k + 1) c5)) := (hbw.trans ((And.left hs5).mono (by omega))).setCell (show w.heap.size ≤ rv by omega) _
        obtain ⟨w6, hw6⟩ : ∃ x, w5.setCell ⟨rv, 2, none⟩ (.slice A5 (k + 1) c5) = x := ⟨_, rfl⟩
        rw [hw6] at hR6 hB6 hV6 hS6 hb6
        rw [hw6]
        have ltV := own_lt hV6
        have ltB := own_lt hB6
        have rvl6 := hR6.lt
        clear hv5 hg5 hs5 fz5 ce5 lt5 hw6 xa1 xa2 xb1 xb2 x0 x1 x2 hV5
        have y3 := hR6.cell (j := 3) rfl
        have hk3 : (k + 1) * 8 ≤ 140737488355328 := by omega
        obtain ⟨w7, hw7⟩ : ∃ x, w6.alloc (.cells #[.int .i64 0] 3) = x := ⟨_, rfl⟩
        have hb67 : Below w6.heap.size w6 w7 := by rw [← hw7]; exact (Below.refl _ _).alloc (Nat.le_refl _) _
        have hV7 := own_below hV6 hb67
        have hB7 := own_below hB6 hb67
        have hR7 := hR6.below hb67
        have hS7 := hS6.below hb67
        have hb7 := hb6.trans (hb67.mono hb6.size)
        have hnew : Rd w7 (some ⟨w6.heap.size, 0, none⟩) [.int .i64 0] := by rw [← hw7]; exact Rd.new1 _ _ _
        have hsz7 : w6.heap.size + 1 = w7.heap.size := by rw [← hw7, World.size_alloc]
        have Hw7 := hide hw7
        clear hw7
        go_wp2_with (first | (with_reducible refine stop_append rfl ?_) | (with_reducible refine stop_copy rfl ?_) | (with_reducible refine stop_make rfl ?_))
        rw [Hw7.out]
        refine go_append (v := Vv) rfl rfl tInts rfl hV7 rfl (m := 1) rfl hnew (one_int _) hk3 hk2 (by omega) ?_
        intro v8 w8 hown8 hg8 hv8
        obtain ⟨A8, c8, rfl, _, _, _, _, _⟩ := own_out hown8
        have hb78 : Below (rv + 1) w7 w8 := (Below.refl _ _).grown hg8 (by omega) (fun q hq => (ltV q hq).1)
        have hR8 := hR7.lo hb78 (show rv < rv + 1 by omega)
        have y8 := hR8.cell (j := 3) rfl
        have z8 := hR8.frozen 3
        have hB8 := own_grown hB7 hg8 (fun x hx e => hne6 x hx e)
        go_wp2
        go_roundw
        case rel =>
          refine ⟨k + 1, _, _, _, _, by omega, by go_num, hR8.set 3 _, ownsRow_setCell_below hB8 (show (⟨rv, 3, none⟩ : Addr).block < rv + 1 by show rv < rv + 1; omega) _, ownsRow_setCell_below hown8 (show (⟨rv, 3, none⟩ : Addr).block < rv + 1 by show rv < rv + 1; omega) _, ?_, (hS7.lo hb78 (show g < rv + 1 by omega)).apart (show g ≠ rv by omega) 3 _, ?_⟩
          · intro x hx e
            rcases hv8 with e' | e'
            · rw [e'] at e; exact hne6 x hx e
            · have := (ltB x hx).2
              rw [e'] at e
              injection e with e
              omega
          · exact (hb7.trans (hb78.mono (by omega))).setCell (show w.heap.size ≤ rv by omega) _
        case measure => simp [intOf]; omega
    · obtain rfl : k = b := by omega
      have z0 := hR.cell (j := 0) rfl
      have z1 := hR.cell (j := 1) rfl
      have hrl := hR.lt
      go_wp2
      go_ret2
      exact ⟨rv, rfl, z0, z1, by omega, hrl, hbw⟩
end Go.Proofs.YtjilkaciopiabaaDoor
