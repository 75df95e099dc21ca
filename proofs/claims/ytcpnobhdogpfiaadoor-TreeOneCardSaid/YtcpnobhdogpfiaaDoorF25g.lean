/- Package tree: Make of any digests, Check, place, Root. -/
import Derived.Test.YtcpnobhdogpfiaaDoorF25f
import Derived.Test.YtcpnobhdogpfiaaDoorQui
import Derived.Deep.DeepFit
namespace Go.Proofs.YtcpnobhdogpfiaaDoor
set_option maxRecDepth 20000
open Go.RowKit Go.Px
set_option linter.unusedVariables false
/-- May there be a tree of so many digests? -/
def okN (n : Nat) : Bool := decide (1 ≤ n ∧ n ≤ 4096)
def mkT (l : List Nat) : List (List Nat) := if okN l.length then treeD l else []
def mkE (n : Nat) : Int := if okN n then 0 else 250
theorem tree_nil {w : World} {Q : Nat → Prop} : tyTree.Is w Q [] [.slice none 0 0] := Tree_mk (pLevelsv := []) rfl (Nat.le_refl _) (by decide) Rd.nil (fun h => absurd rfl h) Ty.Rows.nil
set_option maxHeartbeats 1600000 in
theorem makeA_any (A : Option Addr) (n c : Nat) (l : List Nat) (w : World) (hn : l.length = n) (hnc : n ≤ c) (hc63 : c ≤ 9223372036854775807) (hr : Rd w A (u32s l)) (hb : ∀ x ∈ l, x < 4294967296) (ht : Tab w) :
    Calls Tryd.prog 13 #[.slice A n c] w fun e w' => ∃ B K C, e = .returned (.tuple #[.agg #[.slice B K C], .int .i64 (mkE n)]) ∧ tyTree.Is w' (fun b => w.heap.size ≤ b) (mkT l) [.slice B K C] ∧ Below w.heap.size w w' := by
  by_cases h : 1 ≤ n ∧ n ≤ 4096
  · have e1 : okN n = true := decide_eq_true h
    unfold mkT mkE
    rw [hn, e1]
    exact make_any A n c l w hn (by omega) hnc hc63 hr hb ht h.1 h.2
  · have e1 : okN n = false := decide_eq_false h
    unfold mkT mkE
    rw [hn, e1]
    have HE : Hid (mkE n = 250) := hide (by unfold mkE; rw [e1]; rfl)
    refine (callsIn_wide (n := 8)).1 ?_
    refine callsIn_of_wp_marks Tryd.func13 rfl trivial ?_ rfl
    simp only [Tryd.ntmps13, List.size_toArray, List.length_cons, List.length_nil, Nat.reduceAdd, Nat.reduceSub, Array.replicate_succ, Array.replicate_zero, List.push_toArray, List.append_toArray, List.nil_append, List.cons_append]
    have hB2 := Blk.new w [.slice none 0 0] 29
    have d2 := hB2.cell (j := 0) rfl
    have f2 := hB2.frozen 0
    have hbw : Below w.heap.size w (w.alloc (.cells #[.slice none 0 0] 29)) := (Below.refl _ _).alloc (Nat.le_refl _) _
    clear hr hb ht hn e1 HE
    rcases (show n = 0 ∨ (0 < n ∧ 4096 < n) by omega) with rfl | ⟨h0, h1⟩
    · clear h
      gi_wp2
      exact ⟨_, results_cell2 rfl rfl hB2 Tryd.underlying29 rfl (by kernel_rfl), none, 0, 0, rfl, tree_nil, hbw⟩
    · have e0 : ((n : Int) == 0) = false := by rw [beq_eq_false_iff_ne]; omega
      clear h
      gi_wp2
      exact ⟨_, results_cell2 rfl rfl hB2 Tryd.underlying29 rfl (by kernel_rfl), none, 0, 0, rfl, tree_nil, hbw⟩
def okT : List (List Nat) → Bool
  | [] => false
  | l :: r => okN l.length && eqL (l :: r) (treeD l)
def ckE (ls : List (List Nat)) : Int := if okT ls then 0 else 250
set_option maxHeartbeats 1600000 in
theorem check_any (A : Option Addr) (n c : Nat) (ls : List (List Nat)) (w : World) {Q : Nat → Prop} (hT : tyTree.Is w Q ls [.slice A n c]) (ht : Tab w) :
    Calls Tryd.prog 29 #[.agg #[.slice A n c]] w fun e w' => e = .returned (.int .i64 (ckE ls)) ∧ Below w.heap.size w w' := by
  obtain ⟨w0, hw0⟩ : ∃ x, w.alloc (.cells #[.slice A n c] 29) = x := ⟨_, rfl⟩
  have hb0 : Below w.heap.size w w0 := by rw [← hw0]; exact (Below.refl _ _).alloc (Nat.le_refl _) _
  have hB0 : Blk w0 w.heap.size [.slice A n c] 29 := by rw [← hw0]; exact Blk.new w [.slice A n c] _
  have hT0 := hT.below hb0
  obtain ⟨p, pA, pn, pc, pv, rfl, hpe, hl1, hc1, hm1, hr1, _, he1⟩ := Tree_out hT0
  simp only [List.cons.injEq, Value.slice.injEq, and_true] at hpe
  obtain ⟨rfl, rfl, rfl⟩ := hpe
  have ht0 : Tab w0 := Rd.below ht hb0
  have Hw0 := hide hw0
  have d0 := hB0.cell (j := 0) rfl
  clear hw0 hT ht
  cases ls with
  | nil =>
    obtain rfl : n = 0 := hl1.symm
    clear hT0 hr1 he1 hc1 hm1 ht0
    go_enter Tryd.func29, Tryd.ntmps29
    go_wp2_with fail
    rw [Hw0.out]
    go_wp2
    go_ret
    exact ⟨rfl, hb0⟩
  | cons l r =>
    obtain ⟨B, m, hv, hm2, hm3, hrl, _, hbl⟩ := rows32_at he1 (k := 0) (by simp)
    simp only [List.getElem_cons_zero] at hv hm2 hrl hbl
    obtain ⟨a, rfl, hc⟩ := hr1 0 _ hv
    rw [show a.add 0 = a from rfl, ← Hw0.out] at hc
    have hn1 : 0 < n := by rw [← hl1]; simp
    have HM := hide (makeA_any B l.length m l w0 rfl hm2 hm3 hrl hbl ht0)
    have HT0 := hide hT0
    have Hl1 := hide hl1
    have n0 : ((n : Int) == 0) = false := by rw [beq_eq_false_iff_ne]; omega
    clear hT0 hv hm2 hm3 hrl hbl hr1 he1 hl1 ht0
    go_enter Tryd.func29, Tryd.ntmps29
    go_wp2_with fail
    rw [Hw0.out]
    go_wp2_with fail
    go_fit HM.out
    rintro x w1 ⟨D, K, C, rfl, hD, hb1⟩
    have HT1 := hide (HT0.out.below hb1)
    have z1 := hb1.size
    cases hok : okN l.length with
    | false =>
      have hE : mkE l.length = 250 := by unfold mkE; rw [hok]; rfl
      have hR : Hid (ckE (l :: r) = 250) := hide (by show (if (okN l.length && eqL (l :: r) (treeD l)) = true then (0 : Int) else 250) = _; rw [hok]; rfl)
      rw [hE]
      clear hok hE hD
      go_wp2
      go_ret
      exact ⟨by rw [hR.out]; rfl, hb0.trans ((hb1.mono hb0.size).alloc (by have := hb0.size; omega) _)⟩
    | true =>
      have hE : mkE l.length = 0 := by unfold mkE; rw [hok]; rfl
      have hTT : mkT l = treeD l := by unfold mkT; rw [hok]; rfl
      rw [hTT] at hD
      rw [hE]
      have hR : Hid (ckE (l :: r) = if eqL (l :: r) (treeD l) = true then 0 else 250) := hide (by show (if (okN l.length && eqL (l :: r) (treeD l)) = true then (0 : Int) else 250) = _; rw [hok, Bool.true_and])
      have hB1 := hB0.below hb1
      have HS := hide (fun (X : World) (hX : Below w1.heap.size w1 X) => same_any (some a) n c (l :: r) D K C (treeD l) X (HT1.out.below hX) (hD.below hX))
      have hbX : Below w1.heap.size w1 (w1.alloc (.cells #[.slice D K C] 29)) := (Below.refl _ _).alloc (Nat.le_refl _) _
      have d1 := (hB1.below hbX).cell (j := 0) rfl
      have HS1 := hide (HS.out _ hbX)
      clear hok hE hTT hD
      go_wp2_with fail
      go_fit HS1.out
      rintro x w2 ⟨rfl, hb2⟩
      have hbf := hb0.trans ((hb1.mono hb0.size).trans ((hbX.mono (Nat.le_trans hb0.size hb1.size)).trans (hb2.mono (by have := hb0.size; have := hbX.size; omega))))
      cases he : eqL (l :: r) (treeD l) with
      | true =>
        have hRR : Hid (ckE (l :: r) = 0) := hide (by rw [hR.out, he]; rfl)
        clear he
        go_wp2
        go_ret
        exact ⟨by rw [hRR.out]; rfl, hbf⟩
      | false =>
        have hRR : Hid (ckE (l :: r) = 250) := hide (by rw [hR.out, he]; rfl)
        clear he
        go_wp2
        go_ret
        exact ⟨by rw [hRR.out]; rfl, hbf⟩
/-- What place tells. -/
def plE (ls : List (List Nat)) (i : Int) : Int := if okT ls then (match ls with | [] => 250 | l :: _ => if 0 ≤ i ∧ i < l.length then 0 else 5) else 250
set_option maxHeartbeats 1600000 in
theorem place_any (A : Option Addr) (n c : Nat) (ls : List (List Nat)) (i : Int) (w : World) {Q : Nat → Prop} (hT : tyTree.Is w Q ls [.slice A n c]) (ht : Tab w) :
    Calls Tryd.prog 54 #[.agg #[.slice A n c], .int .i64 i] w fun e w' => e = .returned (.int .i64 (plE ls i)) ∧ Below w.heap.size w w' := by
  obtain ⟨w0, hw0⟩ : ∃ x, w.alloc (.cells #[.slice A n c] 29) = x := ⟨_, rfl⟩
  have hb0 : Below w.heap.size w w0 := by rw [← hw0]; exact (Below.refl _ _).alloc (Nat.le_refl _) _
  have hB0 : Blk w0 w.heap.size [.slice A n c] 29 := by rw [← hw0]; exact Blk.new w [.slice A n c] _
  have hT0 := hT.below hb0
  have HC := hide (check_any A n c ls w0 hT0 (Rd.below ht hb0))
  have Hw0 := hide hw0
  have d0 := hB0.cell (j := 0) rfl
  clear hw0 hT ht
  cases hok : okT ls with
  | false =>
    have hE : ckE ls = 250 := by unfold ckE; rw [hok]; rfl
    have hR : Hid (plE ls i = 250) := hide (by unfold plE; rw [hok]; rfl)
    rw [hE] at HC
    clear hok hE hT0
    go_enter Tryd.func54, Tryd.ntmps54
    go_wp2_with fail
    rw [Hw0.out]
    go_fit HC.out
    rintro x w1 ⟨rfl, hb1⟩
    go_wp2
    go_ret
    exact ⟨by rw [hR.out]; rfl, hb0.trans (hb1.mono hb0.size)⟩
  | true =>
    have hE : ckE ls = 0 := by unfold ckE; rw [hok]; rfl
    rw [hE] at HC
    cases ls with
    | nil => cases hok
    | cons l r =>
      have hR : Hid (plE (l :: r) i = if 0 ≤ i ∧ i < l.length then 0 else 5) := hide (by unfold plE; rw [hok]; rfl)
      have HK := hide (fun (X : World) (hX : Below w0.heap.size w0 X) => show X.cell? ⟨w.heap.size, 0, none⟩ = some (.slice A n c) ∧ ∃ (a : Addr) (B : Option Addr) (m : Nat), A = some a ∧ X.cell? a = some (.slice B l.length m) ∧ 0 < n from by
        obtain ⟨p, pA, pn, pc, pv, rfl, hpe, hl1, hc1, hm1, hr1, _, he1⟩ := Tree_out (hT0.below hX)
        simp only [List.cons.injEq, Value.slice.injEq, and_true] at hpe
        obtain ⟨rfl, rfl, rfl⟩ := hpe
        obtain ⟨B, m, hv, _⟩ := rows32_at he1 (k := 0) (by simp)
        obtain ⟨a, ha, hc⟩ := hr1 0 _ hv
        exact ⟨(hB0.below hX).cell (j := 0) rfl, a, B, m, ha, hc, by rw [← hl1]; simp⟩)
      clear hok hE hT0
      go_enter Tryd.func54, Tryd.ntmps54
      go_wp2_with fail
      rw [Hw0.out]
      go_fit HC.out
      rintro x w1 ⟨rfl, hb1⟩
      obtain ⟨k0, a, B, m, rfl, k1, k2⟩ := HK.out w1 hb1
      have hbf := hb0.trans (hb1.mono hb0.size)
      by_cases h0 : 0 ≤ i
      · have q0 : decide (i < 0) = false := decide_eq_false (by omega)
        by_cases h1 : i < l.length
        · have q1 : decide ((l.length : Int) ≤ i) = false := decide_eq_false (by omega)
          have hRR : Hid (plE (l :: r) i = 0) := hide (by rw [hR.out, if_pos ⟨h0, h1⟩])
          clear d0
          go_wp2
          go_ret
          exact ⟨by rw [hRR.out]; rfl, hbf⟩
        · have h1' : (l.length : Int) ≤ i := by omega
          have hRR : Hid (plE (l :: r) i = 5) := hide (by rw [hR.out, if_neg (fun h => h1 h.2)])
          clear d0 h1
          go_wp2
          go_ret
          exact ⟨by rw [hRR.out]; rfl, hbf⟩
      · have h0' : i < 0 := by omega
        have hRR : Hid (plE (l :: r) i = 5) := hide (by rw [hR.out, if_neg (fun h => h0 h.1)])
        clear d0 h0
        go_wp2
        go_ret
        exact ⟨by rw [hRR.out]; rfl, hbf⟩
end Go.Proofs.YtcpnobhdogpfiaaDoor
