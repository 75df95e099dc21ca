/- package table: Same. -/
import Derived.Test.YtplodjccjobjbaaF06v
namespace Go.Proofs.Ytplodjccjobjbaa
open Go.RowKit Go.Px Go.Maps
set_option linter.unusedVariables false
abbrev rowv (x1 x2 : Int) (x3 : Nat) (D : Option Addr) (d dc : Nat) : Value := .agg #[.int .i64 x1, .int .i64 x2, .int .u8 x3, .slice D d dc]
set_option maxRecDepth 20000 in
set_option maxHeartbeats 3200000 in
theorem sameC_any (x1 x2 : Int) (x3 : Nat) (D : Option Addr) (d dc : Nat) (x4 : List UInt8) (z1 z2 : Int) (z3 : Nat) (D' : Option Addr) (d' dc' : Nat) (z4 : List UInt8) (w : World) (hd : x4.length = d) (hd' : z4.length = d') (hD : Rd w D (bys x4)) (hD' : Rd w D' (bys z4)) :
    Calls Try.prog 34 #[rowv x1 x2 x3 D d dc, rowv z1 z2 z3 D' d' dc'] w fun e w' => e = .returned (.bool (decide (((x1, x2, x3, x4) : RowT) = (z1, z2, z3, z4)))) ∧ Below w.heap.size w w' := by
  obtain ⟨w0, hw0⟩ : ∃ x, (w.alloc (.cells #[.int .i64 x1, .int .i64 x2, .int .u8 x3, .slice D d dc] 68)).alloc (.cells #[.int .i64 z1, .int .i64 z2, .int .u8 z3, .slice D' d' dc'] 68) = x := ⟨_, rfl⟩
  have hb0 : Below w.heap.size w w0 := by rw [← hw0]; exact ((Below.refl _ _).alloc (Nat.le_refl _) _).alloc (by simp) _
  have HE := hide (bequal_any D d dc x4 D' d' dc' z4 w0 hd (hD.below hb0) hd' (hD'.below hb0))
  have Hw0 := hide hw0
  have k1 : Blk w0 w.heap.size [.int .i64 x1, .int .i64 x2, .int .u8 x3, .slice D d dc] 68 := by rw [← hw0]; exact (Blk.new w [.int .i64 x1, .int .i64 x2, .int .u8 x3, .slice D d dc] _).alloc _
  have k2 : Blk w0 (w.heap.size + 1) [.int .i64 z1, .int .i64 z2, .int .u8 z3, .slice D' d' dc'] 68 := by rw [← hw0]; have := Blk.new (w.alloc (.cells #[.int .i64 x1, .int .i64 x2, .int .u8 x3, .slice D d dc] 68)) [.int .i64 z1, .int .i64 z2, .int .u8 z3, .slice D' d' dc'] 68; rw [World.size_alloc] at this; exact this
  have a0 := k1.cell (j := 0) rfl
  have a1 := k1.cell (j := 1) rfl
  have a2 := k1.cell (j := 2) rfl
  have a3 := k1.cell (j := 3) rfl
  have b0 := k2.cell (j := 0) rfl
  have b1 := k2.cell (j := 1) rfl
  have b2 := k2.cell (j := 2) rfl
  have b3 := k2.cell (j := 3) rfl
  clear hw0 hd hd' hD hD' k1 k2
  by_cases e1 : x1 = z1
  case neg =>
    have q1 : (x1 == z1) = false := by simpa using e1
    have hf := hide (show decide (((x1, x2, x3, x4) : RowT) = (z1, z2, z3, z4)) = false from decide_eq_false (fun h => e1 (congrArg Prod.fst h)))
    clear e1
    go_enter Try.func34, Try.ntmps34
    go_wp2
    go_ret
    exact ⟨by rw [hf.out]; rfl, by rw [Hw0.out]; exact hb0⟩
  have q1 : (x1 == z1) = true := by simpa using e1
  by_cases e2 : x2 = z2
  case neg =>
    have q2 : (x2 == z2) = false := by simpa using e2
    have hf := hide (show decide (((x1, x2, x3, x4) : RowT) = (z1, z2, z3, z4)) = false from decide_eq_false (fun h => e2 (congrArg (fun p => p.2.1) h)))
    clear e1 e2
    go_enter Try.func34, Try.ntmps34
    go_wp2
    go_ret
    exact ⟨by rw [hf.out]; rfl, by rw [Hw0.out]; exact hb0⟩
  have q2 : (x2 == z2) = true := by simpa using e2
  by_cases e3 : x3 = z3
  case neg =>
    have q3 : ((x3 : Int) == (z3 : Int)) = false := by simp; omega
    have hf := hide (show decide (((x1, x2, x3, x4) : RowT) = (z1, z2, z3, z4)) = false from decide_eq_false (fun h => e3 (congrArg (fun p => p.2.2.1) h)))
    clear e1 e2 e3
    go_enter Try.func34, Try.ntmps34
    go_wp2
    go_ret
    exact ⟨by rw [hf.out]; rfl, by rw [Hw0.out]; exact hb0⟩
  have q3 : ((x3 : Int) == (z3 : Int)) = true := by simp; omega
  have hf := hide (show decide (((x1, x2, x3, x4) : RowT) = (z1, z2, z3, z4)) = (x4 == z4) by rw [e1, e2, e3]; by_cases h : x4 = z4 <;> simp [h])
  clear e1 e2 e3
  go_enter Try.func34, Try.ntmps34
  go_wp2_with fail
  rw [Hw0.out]
  go_fit HE.out
  rintro x w1 ⟨rfl, rfl⟩
  go_wp2
  go_ret
  exact ⟨by rw [hf.out]; rfl, hb0⟩
set_option maxRecDepth 20000 in
set_option maxHeartbeats 3200000 in
theorem equalR_any (A : Option Addr) (n c : Nat) (cs : List Value) (es : List RowT) (Q : Nat → Prop) (A' : Option Addr) (n' c' : Nat) (cs' : List Value) (es' : List RowT) (Q' : Nat → Prop) (w : World) (hn : es.length = n) (hr : Rd w A cs) (hE : RwRows w Q cs es) (hn' : es'.length = n') (hr' : Rd w A' cs') (hE' : RwRows w Q' cs' es') (h63 : n ≤ 9223372036854775807) :
    Calls Try.prog 33 #[.slice A n c, .slice A' n' c', .func (.func 34) #[] #[]] w fun e w' => e = .returned (.bool (sameB es es')) ∧ Below w.heap.size w w' := by
  by_cases hnn : n = n'
  case neg =>
    have hf := hide (show sameB es es' = false from decide_eq_false (fun h => hnn (by rw [← hn, ← hn', h])))
    have q : ((n : Int) != (n' : Int)) = true := by simp; omega
    clear hnn
    go_enter Try.func33, Try.ntmps33
    go_wp2
    go_ret
    exact ⟨by rw [hf.out]; rfl, Below.refl _ _⟩
  subst hnn
  have hl := hE.1
  have hl' := hE'.1
  have Hn := hide hn
  have Hn' := hide hn'
  clear hn hn'
  go_enter Try.func33, Try.ntmps33
  go_wp2
  go_loopw [17] (fun i wr => ∃ (k : Nat), k ≤ n ∧ i = .int .i64 k ∧ es.take k = es'.take k ∧ Below w.heap.size w wr) (fun i _ => n - (intOf i).toNat)
  case atStart => exact ⟨0, by omega, rfl, rfl, Below.refl _ _⟩
  case round =>
    obtain ⟨k, hk, rfl, htk, hB⟩ := hrel
    by_cases hlt : k < n
    · obtain ⟨x, hx⟩ : ∃ e, es[k]? = some e := ⟨_, List.getElem?_eq_getElem (by rw [Hn.out]; exact hlt)⟩
      obtain ⟨y, hy⟩ : ∃ e, es'[k]? = some e := ⟨_, List.getElem?_eq_getElem (by rw [Hn'.out]; exact hlt)⟩
      obtain ⟨a, rfl, hat⟩ := (hr.below hB).some_of (xs := cs) (by have := Hn.out; omega)
      obtain ⟨a', rfl, hat'⟩ := (hr'.below hB).some_of (xs := cs') (by have := Hn'.out; omega)
      obtain ⟨D, d, dc, y0, y1, y2, y3, hk8, hd, hdc, hdm, hrd, hq⟩ := ((hE.below hB).2 k x hx).cells hat
      obtain ⟨D', d', dc', y0', y1', y2', y3', hk8', hd', hdc', hdm', hrd', hq'⟩ := ((hE'.below hB).2 k y hy).cells hat'
      have htk1 := hide (fun e => take_one htk hx hy e)
      have hno := hide (fun e => same_no hx hy e)
      obtain ⟨x1, x2, x3, x4⟩ := x
      obtain ⟨z1, z2, z3, z4⟩ := y
      simp only at y0 y1 y2 y0' y1' y2' hd hd' hrd hrd'
      have Hb := hide (show ∀ X, Below wr.heap.size wr X → Below w.heap.size w X from fun X hX => hB.trans (hX.mono hB.size))
      have t0 := (show ∀ o, (wr.alloc o).cell? (a'.add (k * 4)) = some (.int .i64 z1) from fun o => below_cell ((Below.refl _ _).alloc (Nat.le_refl _) _) y0')
      have t1 := (show ∀ o, (wr.alloc o).cell? ⟨(a'.add (k * 4)).block, (a'.add (k * 4)).off + 1, none⟩ = some (.int .i64 z2) from fun o => below_cell ((Below.refl _ _).alloc (Nat.le_refl _) _) y1')
      have t2 := (show ∀ o, (wr.alloc o).cell? ⟨(a'.add (k * 4)).block, (a'.add (k * 4)).off + 2, none⟩ = some (.int .u8 z3) from fun o => below_cell ((Below.refl _ _).alloc (Nat.le_refl _) _) y2')
      have t3 := (show ∀ o, (wr.alloc o).cell? ⟨(a'.add (k * 4)).block, (a'.add (k * 4)).off + 3, none⟩ = some (.slice D' d' dc') from fun o => below_cell ((Below.refl _ _).alloc (Nat.le_refl _) _) y3')
      obtain ⟨w1, hw1⟩ : ∃ X, (wr.alloc (.cells #[.int .i64 x1, .int .i64 x2, .int .u8 x3, .slice D d dc] 68)).alloc (.cells #[.int .i64 z1, .int .i64 z2, .int .u8 z3, .slice D' d' dc'] 68) = X := ⟨_, rfl⟩
      have hb1 : Below wr.heap.size wr w1 := by rw [← hw1]; exact ((Below.refl _ _).alloc (Nat.le_refl _) _).alloc (by simp) _
      have Hw1 := hide hw1
      have HC := hide (sameC_any x1 x2 x3 D d dc x4 z1 z2 z3 D' d' dc' z4 w1 hd hd' (hrd.below hb1) (hrd'.below hb1))
      clear hw1 hq hq' hd hd' hrd hrd' htk hx hy hat hat'
      go_wp2_with fail
      rw [Hw1.out]
      go_fit HC.out
      rintro xx w2 ⟨rfl, hb2⟩
      have hb02 := hb1.trans (hb2.mono hb1.size)
      by_cases e : ((x1, x2, x3, x4) : RowT) = (z1, z2, z3, z4)
      · rw [decide_eq_true e]
        have hf := hide (htk1.out e)
        clear e
        go_wp2
        go_roundw
        case rel => exact ⟨k + 1, by omega, by go_num, hf.out, Hb.out _ hb02⟩
        case measure => simp [intOf]; omega
      · rw [decide_eq_false e]
        have hf := hide (hno.out e)
        clear e
        go_wp2
        go_ret
        exact ⟨by rw [hf.out]; rfl, Hb.out _ hb02⟩
    · obtain rfl : k = n := by omega
      have hf := hide (show sameB es es' = true from decide_eq_true (by rwa [List.take_of_length_le (by rw [Hn.out]; omega), List.take_of_length_le (by rw [Hn'.out]; omega)] at htk))
      clear htk
      go_wp2
      go_ret
      exact ⟨by rw [hf.out]; rfl, hB⟩
theorem tsame_any (A : Option Addr) (n c : Nat) (cs : List Value) (es : List RowT) (Q : Nat → Prop) (A' : Option Addr) (n' c' : Nat) (cs' : List Value) (es' : List RowT) (Q' : Nat → Prop) (w : World) (hn : es.length = n) (hr : Rd w A cs) (hE : RwRows w Q cs es) (hn' : es'.length = n') (hr' : Rd w A' cs') (hE' : RwRows w Q' cs' es') (h63 : n ≤ 9223372036854775807) :
    Calls Try.prog 20 #[.slice A n c, .slice A' n' c'] w fun e w' => e = .returned (.bool (sameB es es')) ∧ Below w.heap.size w w' := by
  have HC := hide (equalR_any A n c cs es Q A' n' c' cs' es' Q' w hn hr hE hn' hr' hE' h63)
  clear hn hr hE hn' hr' hE'
  go_enter Try.func20, Try.ntmps20
  go_wp2_with fail
  go_fit HC.out
  rintro x w1 ⟨rfl, hb1⟩
  go_wp2
  go_ret
  exact ⟨rfl, hb1⟩
end Go.Proofs.Ytplodjccjobjbaa
