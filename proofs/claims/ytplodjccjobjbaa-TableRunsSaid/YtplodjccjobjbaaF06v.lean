/- plinthref06.Same. -/
import Derived.Test.YtplodjccjobjbaaF06u
import Derived.Test.YtplodjccjobjbaaF06h
import Derived.Test.YtplodjccjobjbaaQui
namespace Go.Proofs.Ytplodjccjobjbaa
open Go.RowKit Go.Px Go.Maps
set_option linter.unusedVariables false
def sameB (a b : List RowT) : Bool := decide (a = b)
theorem take_one {a b : List RowT} {k : Nat} {x y : RowT} (h : a.take k = b.take k) (ha : a[k]? = some x) (hb : b[k]? = some y) (e : x = y) : a.take (k + 1) = b.take (k + 1) := by
  rw [List.take_add_one, List.take_add_one, h, ha, hb, e]
theorem same_no {a b : List RowT} {k : Nat} {x y : RowT} (ha : a[k]? = some x) (hb : b[k]? = some y) (e : x ≠ y) : sameB a b = false := by
  refine decide_eq_false fun h => e ?_
  rw [h, hb] at ha
  injection ha with ha
  exact ha.symm
theorem eqR_iff {k k' : Nat} {ds ds' : List UInt8} : eqR k ds k' ds' = true ↔ k = k' ∧ ds = ds' := by
  unfold eqR
  rw [Bool.and_eq_true, beq_iff_eq, beq_iff_eq]
  constructor
  · rintro ⟨h1, h2⟩; exact ⟨by omega, h2⟩
  · rintro ⟨h1, h2⟩; exact ⟨by omega, h2⟩
set_option maxRecDepth 20000 in
set_option maxHeartbeats 3200000 in
theorem rsame6_any (A : Option Addr) (n c : Nat) (cs : List Value) (es : List RowT) (Q : Nat → Prop) (A' : Option Addr) (n' c' : Nat) (cs' : List Value) (es' : List RowT) (Q' : Nat → Prop) (w : World) (hn : es.length = n) (hr : Rd w A cs) (hE : RwRows w Q cs es) (hn' : es'.length = n') (hr' : Rd w A' cs') (hE' : RwRows w Q' cs' es') (h63 : n ≤ 9223372036854775807) :
    Calls Try.prog 14 #[.slice A n c, .slice A' n' c'] w fun e w' => e = .returned (.bool (sameB es es')) ∧ Below w.heap.size w w' := by
  by_cases hnn : n = n'
  case neg =>
    have hf := hide (show sameB es es' = false from decide_eq_false (fun h => hnn (by rw [← hn, ← hn', h])))
    have q : ((n : Int) != (n' : Int)) = true := by simp; omega
    clear hnn
    go_enter Try.func14, Try.ntmps14
    go_wp2
    go_ret
    exact ⟨by rw [hf.out]; rfl, Below.refl _ _⟩
  subst hnn
  have hl := hE.1
  have hl' := hE'.1
  have Hn := hide hn
  have Hn' := hide hn'
  clear hn hn'
  go_enter Try.func14, Try.ntmps14
  go_wp2
  go_loopw [5] (fun i wr => ∃ (k : Nat), k ≤ n ∧ i = .int .i64 k ∧ es.take k = es'.take k ∧ Below w.heap.size w wr) (fun i _ => n - (intOf i).toNat)
  case atStart => exact ⟨0, by omega, rfl, rfl, Below.refl _ _⟩
  case round =>
    obtain ⟨k, hk, rfl, htk, hB⟩ := hrel
    by_cases hlt : k < n
    · obtain ⟨x, hx⟩ : ∃ e, es[k]? = some e := ⟨_, List.getElem?_eq_getElem (by rw [Hn.out]; exact hlt)⟩
      obtain ⟨y, hy⟩ : ∃ e, es'[k]? = some e := ⟨_, List.getElem?_eq_getElem (by rw [Hn'.out]; exact hlt)⟩
      obtain ⟨a, rfl, hat⟩ := (hr.below hB).some_of (xs := cs) (by have := Hn.out; omega)
      obtain ⟨a', rfl, hat'⟩ := (hr'.below hB).some_of (xs := cs') (by have := Hn'.out; omega)
      obtain ⟨D, d, dc, y0, y1, y2, y3, hk8, hd, hdc, hdm, hrd, hq⟩ := ((hE.below hB).2 k x hx).cells hat
      obtain ⟨D', d', dc', y0', y1', y2', y3', hk8', hd', hdc', hdm', hrd', hq'⟩ := ((hE'.below hB).2 k y hy).cells hat'
      have hkI : (k : Int) < (n : Int) := by omega
      have htk1 := hide (fun e => take_one htk hx hy e)
      have hno := hide (fun e => same_no hx hy e)
      obtain ⟨x1, x2, x3, x4⟩ := x
      obtain ⟨z1, z2, z3, z4⟩ := y
      simp only at y0 y1 y2 y0' y1' y2' hd hd' hrd hrd'
      have c0 : ∀ x : InC (fun W => Below wr.heap.size wr W), x.W.cell? (a.add (k * 4)) = some (.int .i64 x1) := fun x => below_cell x.h y0
      have c1 : ∀ x : InC (fun W => Below wr.heap.size wr W), x.W.cell? ⟨(a.add (k * 4)).block, (a.add (k * 4)).off + 1, none⟩ = some (.int .i64 x2) := fun x => below_cell x.h y1
      have c2 : ∀ x : InC (fun W => Below wr.heap.size wr W), x.W.cell? ⟨(a.add (k * 4)).block, (a.add (k * 4)).off + 2, none⟩ = some (.int .u8 x3) := fun x => below_cell x.h y2
      have c3 : ∀ x : InC (fun W => Below wr.heap.size wr W), x.W.cell? ⟨(a.add (k * 4)).block, (a.add (k * 4)).off + 3, none⟩ = some (.slice D d dc) := fun x => below_cell x.h y3
      have d0 : ∀ x : InC (fun W => Below wr.heap.size wr W), x.W.cell? (a'.add (k * 4)) = some (.int .i64 z1) := fun x => below_cell x.h y0'
      have d1 : ∀ x : InC (fun W => Below wr.heap.size wr W), x.W.cell? ⟨(a'.add (k * 4)).block, (a'.add (k * 4)).off + 1, none⟩ = some (.int .i64 z2) := fun x => below_cell x.h y1'
      have d2 : ∀ x : InC (fun W => Below wr.heap.size wr W), x.W.cell? ⟨(a'.add (k * 4)).block, (a'.add (k * 4)).off + 2, none⟩ = some (.int .u8 z3) := fun x => below_cell x.h y2'
      have d3 : ∀ x : InC (fun W => Below wr.heap.size wr W), x.W.cell? ⟨(a'.add (k * 4)).block, (a'.add (k * 4)).off + 3, none⟩ = some (.slice D' d' dc') := fun x => below_cell x.h y3'
      have Hd := hide hd
      have Hd' := hide hd'
      have Hrd := hide (fun (x : InC (fun W => Below wr.heap.size wr W)) => hrd.below x.h)
      have Hrd' := hide (fun (x : InC (fun W => Below wr.heap.size wr W)) => hrd'.below x.h)
      have Hb := hide (show ∀ X, Below wr.heap.size wr X → Below w.heap.size w X from fun X hX => hB.trans (hX.mono hB.size))
      clear y0 y1 y2 y3 y0' y1' y2' y3' hq hq' hd hd' hrd hrd' htk hx hy hat hat'
      by_cases e1 : x1 = z1
      case neg =>
        have q1 : (x1 != z1) = true := by simpa using e1
        have hf := hide (hno.out (fun h => e1 (congrArg Prod.fst h)))
        clear e1
        go_wp2_with fail
        refine wp_region_in (fun W => Below wr.heap.size wr W) (Below.refl _ _).drew (by kernel_rfl) (by kernel_rfl) ?_
        repeat (go_big_quiet_step (fail))
        refine wpQuiet_nil ?_
        intro _ hw'
        obtain ⟨nq, hw''⟩ := hw'
        subst hw''
        have hbq := nq.h
        go_wp2
        go_ret
        exact ⟨by rw [hf.out]; rfl, Hb.out _ hbq⟩
      have q1 : (x1 != z1) = false := by simpa using e1
      by_cases e2 : x2 = z2
      case neg =>
        have q2 : (x2 != z2) = true := by simpa using e2
        have hf := hide (hno.out (fun h => e2 (congrArg (fun p => p.2.1) h)))
        clear e1 e2
        go_wp2_with fail
        refine wp_region_in (fun W => Below wr.heap.size wr W) (Below.refl _ _).drew (by kernel_rfl) (by kernel_rfl) ?_
        repeat (go_big_quiet_step (fail))
        refine wpQuiet_nil ?_
        intro _ hw'
        obtain ⟨nq, hw''⟩ := hw'
        subst hw''
        have hbq := nq.h
        go_wp2
        go_ret
        exact ⟨by rw [hf.out]; rfl, Hb.out _ hbq⟩
      have q2 : (x2 != z2) = false := by simpa using e2
      have HS := hide (fun (x : InC (fun W => Below wr.heap.size wr W)) => rsames_any x3 D d dc x4 z3 D' d' dc' z4 x.W Hd.out Hd'.out (Hrd.out x) (Hrd'.out x))
      cases e3 : eqR x3 x4 z3 z4 with
      | false =>
        have hf := hide (hno.out (fun h => by
          have h3 := congrArg (fun p => p.2.2) h
          simp only at h3
          injection h3 with h4 h5
          rw [eqR_iff.2 ⟨h4, h5⟩] at e3
          cases e3))
        have He3 := hide e3
        clear e1 e2 e3
        go_wp2_with fail
        refine wp_region_in (fun W => Below wr.heap.size wr W) (Below.refl _ _).drew (by kernel_rfl) (by kernel_rfl) ?_
        repeat (go_big_quiet_step (first
          | (go_at_call 19; have hh := HS.out; rw [He3.out] at hh; exact Calls.in_below (hh _))))
        refine wpQuiet_nil ?_
        intro _ hw'
        obtain ⟨nq, hw''⟩ := hw'
        subst hw''
        have hbq := nq.h
        go_wp2
        go_ret
        exact ⟨by rw [hf.out]; rfl, Hb.out _ hbq⟩
      | true =>
        have hf := hide (htk1.out (by rw [e1, e2, (eqR_iff.1 e3).1, (eqR_iff.1 e3).2]))
        have He3 := hide e3
        clear e1 e2 e3
        go_wp2_with fail
        refine wp_region_in (fun W => Below wr.heap.size wr W) (Below.refl _ _).drew (by kernel_rfl) (by kernel_rfl) ?_
        repeat (go_big_quiet_step (first
          | (go_at_call 19; have hh := HS.out; rw [He3.out] at hh; exact Calls.in_below (hh _))))
        refine wpQuiet_nil ?_
        intro _ hw'
        obtain ⟨nq, hw''⟩ := hw'
        subst hw''
        have hbq := nq.h
        go_wp2
        go_roundw
        case rel => exact ⟨k + 1, by omega, by go_num, hf.out, Hb.out _ hbq⟩
        case measure => simp [intOf]; omega
    · obtain rfl : k = n := by omega
      have hf := hide (show sameB es es' = true from decide_eq_true (by rwa [List.take_of_length_le (by rw [Hn.out]; omega), List.take_of_length_le (by rw [Hn'.out]; omega)] at htk))
      clear htk
      go_wp2
      go_ret
      exact ⟨by rw [hf.out]; rfl, hB⟩
end Go.Proofs.Ytplodjccjobjbaa
