/- plinthref05.New, exactly. -/
import Derived.Test.YtjilkaciopiabaaDoorF05s
import Derived.Test.YtjilkaciopiabaaDoorF05u
namespace Go.Proofs.YtjilkaciopiabaaDoor
open Go.RowKit Go.Px
set_option linter.unusedVariables false
/-- The rows that New has made so far: each in a block of its own, all zeros. -/
def ZRows (w : World) (B k z : Nat) (Bv Vv : Value) (bc : List Value) : Prop := bc.length = k ∧ ∀ i, i < k → ∃ A c, bc[i]? = some (.slice A z c) ∧ z ≤ c ∧ c ≤ 9223372036854775807 ∧ Rd w A (List.replicate z (.int .u8 0)) ∧ ∀ a, A = some a → B ≤ a.block ∧ a.block < w.heap.size ∧ Bv.ownBlock ≠ some a.block ∧ Vv.ownBlock ≠ some a.block
section
variable {w w' : World} {B k z : Nat} {Bv Vv : Value} {bc : List Value}
theorem ZRows.nil (w : World) (B z : Nat) (Bv Vv : Value) : ZRows w B 0 z Bv Vv [] := ⟨rfl, fun i hi => by omega⟩
theorem ZRows.below (h : ZRows w B k z Bv Vv bc) (hb : Below w.heap.size w w') : ZRows w' B k z Bv Vv bc :=
  ⟨h.1, fun i hi => by obtain ⟨A, c, h1, h2, h3, h4, h5⟩ := h.2 i hi; exact ⟨A, c, h1, h2, h3, h4.below hb, fun a ha => ⟨(h5 a ha).1, by have := (h5 a ha).2.1; have := hb.size; omega, (h5 a ha).2.2⟩⟩⟩
theorem ZRows.set (h : ZRows w B k z Bv Vv bc) {g : Nat} (hg : g < B) (j : Nat) (u : Value) : ZRows (w.setCell ⟨g, j, none⟩ u) B k z Bv Vv bc :=
  ⟨h.1, fun i hi => by obtain ⟨A, c, h1, h2, h3, h4, h5⟩ := h.2 i hi; exact ⟨A, c, h1, h2, h3, h4.upset (fun a ha => (h5 a ha).1) hg, fun a ha => ⟨(h5 a ha).1, by have := (h5 a ha).2.1; simpa using this, (h5 a ha).2.2⟩⟩⟩
theorem ZRows.push {X w5 : World} {Bv' : Value} (h : ZRows w B k z Bv Vv bc) (hX : Below w.heap.size w X) (hg : X.grownBy w5 Bv.ownBlock) (hb : ∀ g, Bv.ownBlock = some g → g < w.heap.size) (hv : ∀ g, Vv.ownBlock = some g → g < w.heap.size) (hB : B ≤ w.heap.size)
    (hz : Rd X (some ⟨w.heap.size, 0, none⟩) (List.replicate z (.int .u8 0))) (hsz : w.heap.size + 1 ≤ X.heap.size) (h5 : Bv'.ownBlock = Bv.ownBlock ∨ Bv'.ownBlock = some X.heap.size) (hz4 : z ≤ 4096) : ZRows w5 B (k + 1) z Bv' Vv (bc ++ [.slice (some ⟨w.heap.size, 0, none⟩) z z]) := by
  have hs5 := hg.size
  refine ⟨by simp [h.1], fun i hi => ?_⟩
  by_cases hlt : i < k
  · obtain ⟨A, c, h1, h2, h3, h4, h6⟩ := h.2 i hlt
    refine ⟨A, c, by rw [List.getElem?_append_left (by rw [h.1]; exact hlt)]; exact h1, h2, h3, (h4.below hX).grown hg (fun a ha => (h6 a ha).2.2.1.symm), fun a ha => ?_⟩
    obtain ⟨q1, q2, q3, q4⟩ := h6 a ha
    refine ⟨q1, by omega, ?_, q4⟩
    rcases h5 with h5 | h5
    · rw [h5]; exact q3
    · rw [h5]; intro e; injection e with e; omega
  · obtain rfl : i = k := by omega
    refine ⟨_, z, by rw [← h.1]; simp, Nat.le_refl _, by omega, hz.grown hg (fun a ha e => ?_), fun a ha => ?_⟩
    · injection ha with ha; subst ha
      have := hb _ e.symm
      simp at this
    · injection ha with ha; subst ha
      refine ⟨hB, by show w.heap.size < _; omega, ?_, ?_⟩
      · rcases h5 with h5 | h5
        · rw [h5]; intro e; have := hb _ e; simp at this
        · rw [h5]; intro e; injection e with e; have e2 : X.heap.size = w.heap.size := e; omega
      · intro e; have := hv _ e; simp at this
theorem ZRows.pushV {w8 : World} {Vv' : Value} (h : ZRows w B k z Bv Vv bc) (hg : w.grownBy w8 Vv.ownBlock) (h5 : Vv'.ownBlock = Vv.ownBlock ∨ Vv'.ownBlock = some w.heap.size) : ZRows w8 B k z Bv Vv' bc := by
  have hs := hg.size
  refine ⟨h.1, fun i hi => ?_⟩
  obtain ⟨A, c, h1, h2, h3, h4, h6⟩ := h.2 i hi
  refine ⟨A, c, h1, h2, h3, h4.grown hg (fun a ha => (h6 a ha).2.2.2.symm), fun a ha => ?_⟩
  obtain ⟨q1, q2, q3, q4⟩ := h6 a ha
  refine ⟨q1, by omega, q3, ?_⟩
  rcases h5 with h5 | h5
  · rw [h5]; exact q4
  · rw [h5]; intro e; injection e with e; omega
end
theorem segB_zeros {N b z i : Nat} (hN : b * z = N) (hi : i < b) : bys (segB (List.replicate N 0) i 1 z) = List.replicate z (.int .u8 0) := by
  have hiz : i * z + z ≤ N := by rw [← hN]; have := Nat.mul_le_mul_right z (show i + 1 ≤ b by omega); rw [Nat.add_mul, Nat.one_mul] at this; exact this
  unfold segB
  rw [Nat.one_mul, List.drop_replicate, List.take_replicate, show min z (N - i * z) = z by omega]
  simp [bys]
set_option maxHeartbeats 3200000 in
theorem rnew_full (b z N : Nat) (w : World) (hb : 1 ≤ b ∧ b ≤ 4096) (hz : 1 ≤ z ∧ z ≤ 4096) (hN : b * z = N) :
    Calls Tryd.prog 36 #[shp b z] w fun e w' => ∃ rv gb gv cb cv rows sv, e = .returned (.tuple #[.pointer (some ⟨rv, 0, none⟩), .int .i64 0]) ∧ RVolIs w' w.heap.size rv gb gv cb cv b z N rows sv (List.replicate N 0) (List.replicate b 0) 0 ∧ Below w.heap.size w w' := by
  have HN := hide hN
  clear hN
  obtain ⟨hb1', hb2'⟩ := hb
  obtain ⟨hz1', hz2'⟩ := hz
  obtain ⟨w0, hw0⟩ : ∃ w0, w.alloc (.cells #[.int .i64 b, .int .i64 z] 23) = w0 := ⟨_, rfl⟩
  obtain ⟨g, hg⟩ : ∃ g, w.heap.size = g := ⟨_, rfl⟩
  have hS : Blk w0 g [.int .i64 b, .int .i64 z] 23 := by rw [← hw0, ← hg]; exact Blk.new w [.int .i64 b, .int .i64 z] _
  have hb0 : Below w.heap.size w w0 := by rw [← hw0]; exact (Below.refl _ _).alloc (Nat.le_refl _) _
  have hgs : w.heap.size + 1 = w0.heap.size := by rw [← hw0, World.size_alloc]
  have x0 := hS.cell (j := 0) rfl
  have x1 := hS.cell (j := 1) rfl
  have HE := hide (show shE b z = 0 by unfold shE; rw [if_pos ⟨⟨by omega, by omega⟩, by omega, by omega⟩])
  have Hw0 := hide hw0
  clear hw0
  go_enter Tryd.func36, Tryd.ntmps36
  go_wp2_with fail
  rw [Hw0.out]
  go_fit (rshape_any b z w0)
  rw [HE.out]
  rintro x w1 ⟨rfl, hb1⟩
  have hb01 := hb0.trans (hb1.mono hb0.size)
  have hS1 := hS.below hb1
  have hsz1 := hb1.size
  clear x0 x1
  have x0 := hS1.cell (j := 0) rfl
  have x1 := hS1.cell (j := 1) rfl
  obtain ⟨rv, hrv⟩ : ∃ g, w1.heap.size = g := ⟨_, rfl⟩
  have hR0 := Blk.new w1 [.int .i64 b, .int .i64 z, .slice none 0 0, .slice none 0 0, .int .i64 0] 70
  have hS2 := hS1.alloc (.cells #[.int .i64 b, .int .i64 z, .slice none 0 0, .slice none 0 0, .int .i64 0] 70)
  have hb2 : Below w.heap.size w (w1.alloc (.cells #[.int .i64 b, .int .i64 z, .slice none 0 0, .slice none 0 0, .int .i64 0] 70)) := hb01.alloc hb01.size _
  rw [hrv] at hR0
  have hglt := hS1.lt
  rw [hrv] at hglt
  have hm1 := fun W => run_mkB (P := Tryd.prog) (t := 36) (e := 5) (z := .int .u8 0) (bytes := 1) Tryd.underlying36 (by kernel_rfl) rfl (N := z) (by omega) (by omega) W
  go_wp2
  go_loopw [6] (fun i wr => ∃ (k : Nat) (Bv Vv : Value) (bc vc : List Value), k ≤ b ∧ i = .int .i64 k ∧ Blk wr rv [.int .i64 b, .int .i64 z, Bv, Vv, .int .i64 0] 70 ∧ wr.ownsRow (rv + 1) 36 1 Bv k bc ∧ wr.ownsRow (rv + 1) 3 1 Vv k vc ∧ ZRows wr (rv + 1) k z Bv Vv bc ∧ vc = ints (List.replicate k 0) ∧
      (∀ x, Bv.ownBlock = some x → Vv.ownBlock ≠ some x) ∧ Blk wr g [.int .i64 b, .int .i64 z] 23 ∧ Below w.heap.size w wr) (fun i _ => b - (intOf i).toNat)
  case atStart => exact ⟨0, _, _, [], [], by omega, rfl, hR0, World.ownsRow_nil _ _ _ _, World.ownsRow_nil _ _ _ _, ZRows.nil _ _ _ _ _, rfl, by intro x hx; simp [Value.ownBlock] at hx, hS2, hb2⟩
  case round =>
    obtain ⟨k, Bv, Vv, bc, vc, hk, rfl, hR, hBo, hVo, hZR, hvc, hne, hSr, hbw⟩ := hrel
    have Hvc := hide hvc
    clear hvc
    clear x0 x1 hR0 hS2 hb2
    have x0 := hSr.cell (j := 0) rfl
    have x1 := hSr.cell (j := 1) rfl
    by_cases hlt : k < b
    · have rvl := hR.lt
      have mkX : ∀ X, Below (rv + 1) wr X → (Below (rv + 1) wr X ∧ X.cell? ⟨rv, 2, none⟩ = some Bv ∧ X.cell? ⟨g, 1, none⟩ = some (.int .i64 z)) := fun X hX => ⟨hX, (hR.lo hX (by omega)).cell (j := 2) rfl, (hSr.lo hX (by omega)).cell (j := 1) rfl⟩
      have mkA : ∀ X o, (Below (rv + 1) wr X ∧ X.cell? ⟨rv, 2, none⟩ = some Bv ∧ X.cell? ⟨g, 1, none⟩ = some (.int .i64 z)) → (Below (rv + 1) wr (X.alloc o) ∧ (X.alloc o).cell? ⟨rv, 2, none⟩ = some Bv ∧ (X.alloc o).cell? ⟨g, 1, none⟩ = some (.int .i64 z)) := fun X o h => mkX _ (h.1.alloc (by have := h.1.size; omega) _)
      have S0 := mkX wr.drew (Below.refl _ _).drew
      have hBW : ∀ X, Below wr.heap.size wr X → X.ownsRow (rv + 1) 36 1 Bv k bc := fun X hX => own_below hBo hX
      have HBW := hide hBW
      have LeW := hide (show ∀ X, Below (rv + 1) wr X → rv + 1 ≤ X.heap.size from fun X hX => by have := hX.size; omega)
      have HG := hide (show ∀ X Y, Below (rv + 1) wr X → X.grownBy Y Bv.ownBlock → Below (rv + 1) wr Y from fun X Y hX hg => hX.grown hg (by have := hX.size; omega) (fun q hq => (own_lt hBo q hq).1))
      have HF := hide (show ∀ X, Below (rv + 1) wr X → X.frozen? ⟨rv, 2, none⟩ = false from fun X hX => (hR.lo hX (by omega)).frozen 2)
      have MkA := hide mkA
      have MkX := hide mkX
      have hk1 : (k + 1) * 24 ≤ 140737488355328 := by omega
      have hk2 : k + 1 ≤ 140737488355328 := by omega
      have HZ := hide (show Rd (wr.alloc (.cells (Array.replicate z (.int .u8 0)) 5)) (some ⟨wr.heap.size, 0, none⟩) (List.replicate z (.int .u8 0)) by have := Rd.newN wr (List.replicate z (.int .u8 0)) 5 (0, 0); rwa [List.toArray_replicate] at this)
      clear hBW mkX mkA
      have x2 := hR.cell (j := 2) rfl
      have xa2 := fun o => (hR.alloc o).cell (j := 2) rfl
      have xb2 := fun o o' => ((hR.alloc o).alloc o').cell (j := 2) rfl
      have xa1 := fun o => (hSr.alloc o).cell (j := 1) rfl
      have xb1 := fun o o' => ((hSr.alloc o).alloc o').cell (j := 1) rfl
      go_wp2_with fail
      go_region_law (refine step_own (v := Bv) rfl rfl tRows (by simp [Act.eval]) (HBW.out _ (by first | exact (((Below.refl _ _).alloc (Nat.le_refl _) _).alloc (by simp) _).drew | exact (((Below.refl _ _).drew.alloc (Nat.le_refl _) _).alloc (by simp) _))) (by simp [Act.eval]; rfl) (m := 1) rfl (Rd.new1 _ _ _) (one_slice _ _ _) hk1 hk2 (LeW.out _ (by first | exact (((Below.refl _ _).alloc rvl _).alloc (by simp; omega) _).drew | exact (((Below.refl _ _).drew.alloc rvl _).alloc (by simp; omega) _))) ?_; intro v5 w5 hown5 hg5 hv5; have hs5 := MkX.out _ (HG.out _ _ (by first | exact (((Below.refl _ _).alloc rvl _).alloc (by simp; omega) _).drew | exact (((Below.refl _ _).drew.alloc rvl _).alloc (by simp; omega) _)) hg5); have fz5 := HF.out _ (And.left hs5); have ce5 := And.left (And.right hs5); have lt5 := own_lt hown5; obtain ⟨A5, c5, rfl, _, _, _, _, _⟩ := own_out hown5)
      all_goals
        have hsz5 := hg5.size
        simp at hsz5
        have hz5 : ZRows w5 (rv + 1) (k + 1) z (.slice A5 (k + 1) c5) Vv (bc ++ [.slice (some ⟨wr.heap.size, 0, none⟩) z z]) := by
          exact hZR.push (X := ((wr.alloc (.cells (Array.replicate z (.int .u8 0)) 5)).alloc (.cells #[.slice (some ⟨wr.heap.size, 0, none⟩) z z] 36)).drew) (((Below.refl _ _).alloc (Nat.le_refl _) _).alloc (by simp) _).drew hg5 (fun g hg => (own_lt hBo g hg).2) (fun g hg => (own_lt hVo g hg).2) (by omega) ((HZ.out.alloc _).drew) (by simp) hv5 hz2'
        have hz6 := hz5.set (show rv < rv + 1 by omega) 2 (.slice A5 (k + 1) c5)
        have hR6 := (hR.lo (And.left hs5) (show rv < rv + 1 by omega)).set 2 (.slice A5 (k + 1) c5)
        have hB6 := ownsRow_setCell_below hown5 (show (⟨rv, 2, none⟩ : Addr).block < rv + 1 by show rv < rv + 1; omega) (.slice A5 (k + 1) c5)
        have hV5 := own_grown (own_below hVo (show Below wr.heap.size wr _ by first | exact (((Below.refl _ _).alloc (Nat.le_refl _) _).alloc (by simp) _).drew | exact (((Below.refl _ _).drew.alloc (Nat.le_refl _) _).alloc (by simp) _))) hg5 (fun x hx e => hne x e hx)
        have hV6 := ownsRow_setCell_below hV5 (show (⟨rv, 2, none⟩ : Addr).block < rv + 1 by show rv < rv + 1; omega) (.slice A5 (k + 1) c5)
        have hne6 : ∀ x, (Value.slice A5 (k + 1) c5).ownBlock = some x → Vv.ownBlock ≠ some x := fun x hx e => by
          rcases hv5 with e' | e'
          · rw [e'] at hx; exact hne x hx e
          · have := (own_lt hVo x e).2
            rw [e'] at hx
            simp at hx
            omega
        have hS6 := (hSr.lo (And.left hs5) (show g < rv + 1 by omega)).apart (show g ≠ rv by omega) 2 (.slice A5 (k + 1) c5)
        have hb6 : Below w.heap.size w (w5.setCell ⟨rv, 2, none⟩ (.slice A5 (k + 1) c5)) := (hbw.trans ((And.left hs5).mono (by omega))).setCell (show w.heap.size ≤ rv by omega) _
        obtain ⟨w6, hw6⟩ : ∃ x, w5.setCell ⟨rv, 2, none⟩ (.slice A5 (k + 1) c5) = x := ⟨_, rfl⟩
        rw [hw6] at hR6 hB6 hV6 hS6 hb6 hz6
        rw [hw6]
        have ltV := own_lt hV6
        have ltB := own_lt hB6
        have rvl6 := hR6.lt
        clear hz5 hv5 hg5 hs5 fz5 ce5 lt5 hw6 xa1 xa2 xb1 xb2 x0 x1 x2 hV5
        have y3 := hR6.cell (j := 3) rfl
        have hk3 : (k + 1) * 8 ≤ 140737488355328 := by omega
        obtain ⟨w7, hw7⟩ : ∃ x, w6.alloc (.cells #[.int .i64 0] 3) = x := ⟨_, rfl⟩
        have hb67 : Below w6.heap.size w6 w7 := by rw [← hw7]; exact (Below.refl _ _).alloc (Nat.le_refl _) _
        have hV7 := own_below hV6 hb67
        have hz7 := hz6.below hb67
        have hB7 := own_below hB6 hb67
        have hR7 := hR6.below hb67
        have hS7 := hS6.below hb67
        have hb7 := hb6.trans (hb67.mono hb6.size)
        have hnew : Rd w7 (some ⟨w6.heap.size, 0, none⟩) [.int .i64 0] := by rw [← hw7]; exact Rd.new1 _ _ _
        have hsz7 : w6.heap.size + 1 = w7.heap.size := by rw [← hw7, World.size_alloc]
        have Hw7 := hide hw7
        clear hw7
        go_wp2_with (first | (with_reducible refine stop_append rfl ?_) | (with_reducible refine stop_copy rfl ?_) | (with_reducible refine stop_make rfl ?_))
        rw [Hw7.out]
        refine go_append (v := Vv) rfl rfl tInts rfl hV7 rfl (m := 1) rfl hnew (one_int _) hk3 hk2 (by omega) ?_
        intro v8 w8 hown8 hg8 hv8
        obtain ⟨A8, c8, rfl, _, _, _, _, _⟩ := own_out hown8
        have hb78 : Below (rv + 1) w7 w8 := (Below.refl _ _).grown hg8 (by omega) (fun q hq => (ltV q hq).1)
        have hR8 := hR7.lo hb78 (show rv < rv + 1 by omega)
        have y8 := hR8.cell (j := 3) rfl
        have z8 := hR8.frozen 3
        have hB8 := own_grown hB7 hg8 (fun x hx e => hne6 x hx e)
        go_wp2
        go_roundw
        case rel =>
          refine ⟨k + 1, _, _, _, _, by omega, by go_num, hR8.set 3 _, ownsRow_setCell_below hB8 (show (⟨rv, 3, none⟩ : Addr).block < rv + 1 by show rv < rv + 1; omega) _, ownsRow_setCell_below hown8 (show (⟨rv, 3, none⟩ : Addr).block < rv + 1 by show rv < rv + 1; omega) _, (hz7.pushV hg8 hv8).set (show rv < rv + 1 by omega) 3 _, by rw [Hvc.out, List.replicate_succ', ints_append]; rfl, ?_, (hS7.lo hb78 (show g < rv + 1 by omega)).apart (show g ≠ rv by omega) 3 _, ?_⟩
          · intro x hx e
            rcases hv8 with e' | e'
            · rw [e'] at e; exact hne6 x hx e
            · have := (ltB x hx).2
              rw [e'] at e
              injection e with e
              omega
          · exact (hb7.trans (hb78.mono (by omega))).setCell (show w.heap.size ≤ rv by omega) _
        case measure => simp [intOf]; omega
    · obtain rfl : k = b := by omega
      have hrl := hR.lt
      rcases hBo.2 with ⟨_, h0⟩ | ⟨gb, cb, cur, rfl, hbg, hgg, hnc, hcm, hcs, htake⟩
      · omega
      rcases hVo.2 with ⟨_, h0⟩ | ⟨gv, cv, cur', rfl, hbg', hgg', hnc', hcm', hcs', htake'⟩
      · omega
      rw [Nat.mul_one] at htake htake'
      have hVI : RVolIs wr w.heap.size rv gb gv cb cv k z N cur.toList (cur'.toList.drop k) (List.replicate N 0) (List.replicate k 0) 0 := {
        blk := hR
        row := by unfold Blk; rw [hgg]
        ver := by
          unfold Blk
          rw [← Hvc.out, ← htake', List.take_append_drop, hgg']
        cells := fun i hi => by
          obtain ⟨A, c, q1, q2, q3, q4, q5⟩ := hZR.2 i hi
          refine ⟨A, c, ?_, q2, q3, by rw [segB_zeros HN.out hi]; exact q4, fun a ha => ?_⟩
          · rw [← htake, List.getElem?_take, if_pos hi] at q1
            exact q1
          · obtain ⟨p1, p2, p3, p4⟩ := q5 a ha
            refine ⟨by omega, by omega, ?_, ?_⟩
            · intro e; apply p3; rw [e]; rfl
            · intro e; apply p4; rw [e]; rfl
        hlo := ⟨by omega, by omega, by omega⟩
        lb := by simp
        lv := by simp
        hN := HN.out
        rb := by omega
        rg := by omega
        bg := by intro e; subst e; exact hne _ rfl rfl
        hb := ⟨hb1', hb2'⟩
        hz := ⟨hz1', hz2'⟩
        hcb := ⟨hnc, by unfold maxLen at hcm; omega⟩
        hcv := ⟨hnc', by unfold maxLen at hcm'; omega⟩ }
      clear hBo hVo hgg hgg' htake htake' hZR hne hcs hcs' hnc hnc' hcm hcm'
      go_wp2
      go_ret2
      exact ⟨rv, gb, gv, cb, cv, _, _, rfl, hVI, hbw⟩
end Go.Proofs.YtjilkaciopiabaaDoor
