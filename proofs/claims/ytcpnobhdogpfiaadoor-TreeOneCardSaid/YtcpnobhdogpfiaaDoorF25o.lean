/- The document's trees: Make of any digests, Check, Root; Root of any tree. -/
import Derived.Test.YtcpnobhdogpfiaaDoorF25n
import Derived.Test.YtcpnobhdogpfiaaDoorF25j
import Derived.Deep.DeepFit
namespace Go.Proofs.YtcpnobhdogpfiaaDoor
set_option maxRecDepth 20000
open Go.RowKit Go.Px
set_option linter.unusedVariables false
set_option maxHeartbeats 1600000 in
theorem rmakeA_any (A : Option Addr) (n c : Nat) (l : List Nat) (w : World) (hn : l.length = n) (hnc : n ≤ c) (hc63 : c ≤ 9223372036854775807) (hr : Rd w A (u32s l)) (hb : ∀ x ∈ l, x < 4294967296) :
    Calls Tryd.prog 14 #[.slice A n c] w fun e w' => ∃ B K C, e = .returned (.tuple #[.agg #[.slice B K C], .int .i64 (mkE n)]) ∧ tyTree.Is w' (fun b => w.heap.size ≤ b) (mkT l) [.slice B K C] ∧ Below w.heap.size w w' := by
  by_cases h : 1 ≤ n ∧ n ≤ 4096
  · have e1 : okN n = true := decide_eq_true h
    unfold mkT mkE
    rw [hn, e1]
    exact rmake_any A n c l w hn hnc hc63 hr hb h.1 h.2
  · have e1 : okN n = false := decide_eq_false h
    unfold mkT mkE
    rw [hn, e1]
    have HE : Hid (mkE n = 250) := hide (by unfold mkE; rw [e1]; rfl)
    have hB2 := Blk.new w [.slice none 0 0] 29
    have d2 := hB2.cell (j := 0) rfl
    have f2 := hB2.frozen 0
    have hbw : Below w.heap.size w (w.alloc (.cells #[.slice none 0 0] 29)) := (Below.refl _ _).alloc (Nat.le_refl _) _
    clear hr hb hn e1 HE
    rcases (show n = 0 ∨ (0 < n ∧ 4096 < n) by omega) with rfl | ⟨h0, h1⟩
    · clear h
      go_enter Tryd.func14, Tryd.ntmps14
      go_wp2
      refine bodyPost_ret (results_cell2 rfl rfl hB2 Tryd.underlying29 rfl (by kernel_rfl)) rfl ?_
      exact ⟨none, 0, 0, rfl, tree_nil, hbw⟩
    · have e0 : ((n : Int) == 0) = false := by rw [beq_eq_false_iff_ne]; omega
      clear h
      go_enter Tryd.func14, Tryd.ntmps14
      go_wp2
      refine bodyPost_ret (results_cell2 rfl rfl hB2 Tryd.underlying29 rfl (by kernel_rfl)) rfl ?_
      exact ⟨none, 0, 0, rfl, tree_nil, hbw⟩
set_option maxHeartbeats 1600000 in
theorem rcheck_any (A : Option Addr) (n c : Nat) (ls : List (List Nat)) (w : World) {Q : Nat → Prop} (hT : tyTree.Is w Q ls [.slice A n c]) :
    Calls Tryd.prog 30 #[.agg #[.slice A n c]] w fun e w' => e = .returned (.int .i64 (ckE ls)) ∧ Below w.heap.size w w' := by
  obtain ⟨w0, hw0⟩ : ∃ x, w.alloc (.cells #[.slice A n c] 29) = x := ⟨_, rfl⟩
  have hb0 : Below w.heap.size w w0 := by rw [← hw0]; exact (Below.refl _ _).alloc (Nat.le_refl _) _
  have hB0 : Blk w0 w.heap.size [.slice A n c] 29 := by rw [← hw0]; exact Blk.new w [.slice A n c] _
  have hT0 := hT.below hb0
  obtain ⟨p, pA, pn, pc, pv, rfl, hpe, hl1, hc1, hm1, hr1, _, he1⟩ := Tree_out hT0
  simp only [List.cons.injEq, Value.slice.injEq, and_true] at hpe
  obtain ⟨rfl, rfl, rfl⟩ := hpe
  have Hw0 := hide hw0
  have d0 := hB0.cell (j := 0) rfl
  clear hw0 hT
  cases ls with
  | nil =>
    obtain rfl : n = 0 := hl1.symm
    clear hT0 hr1 he1 hc1 hm1
    go_enter Tryd.func30, Tryd.ntmps30
    go_wp2_with fail
    rw [Hw0.out]
    go_wp2
    go_ret
    exact ⟨rfl, hb0⟩
  | cons l r =>
    obtain ⟨B, m, hv, hm2, hm3, hrl, _, hbl⟩ := rows32_at he1 (k := 0) (by simp)
    simp only [List.getElem_cons_zero] at hv hm2 hrl hbl
    obtain ⟨a, rfl, hc⟩ := hr1 0 _ hv
    rw [show a.add 0 = a from rfl, ← Hw0.out] at hc
    have hn1 : 0 < n := by rw [← hl1]; simp
    have HM := hide (rmakeA_any B l.length m l w0 rfl hm2 hm3 hrl hbl)
    have HT0 := hide hT0
    have Hl1 := hide hl1
    have n0 : ((n : Int) == 0) = false := by rw [beq_eq_false_iff_ne]; omega
    clear hT0 hv hm2 hm3 hrl hbl hr1 he1 hl1
    go_enter Tryd.func30, Tryd.ntmps30
    go_wp2_with fail
    rw [Hw0.out]
    go_wp2_with fail
    go_fit HM.out
    rintro x w1 ⟨D, K, C, rfl, hD, hb1⟩
    have HT1 := hide (HT0.out.below hb1)
    have z1 := hb1.size
    cases hok : okN l.length with
    | false =>
      have hE : mkE l.length = 250 := by unfold mkE; rw [hok]; rfl
      have hR : Hid (ckE (l :: r) = 250) := hide (by show (if (okN l.length && eqL (l :: r) (treeD l)) = true then (0 : Int) else 250) = _; rw [hok]; rfl)
      rw [hE]
      clear hok hE hD
      go_wp2
      go_ret
      exact ⟨by rw [hR.out]; rfl, hb0.trans ((hb1.mono hb0.size).alloc (by have := hb0.size; omega) _)⟩
    | true =>
      have hE : mkE l.length = 0 := by unfold mkE; rw [hok]; rfl
      have hTT : mkT l = treeD l := by unfold mkT; rw [hok]; rfl
      rw [hTT] at hD
      rw [hE]
      have hR : Hid (ckE (l :: r) = if eqL (l :: r) (treeD l) = true then 0 else 250) := hide (by show (if (okN l.length && eqL (l :: r) (treeD l)) = true then (0 : Int) else 250) = _; rw [hok, Bool.true_and])
      have hB1 := hB0.below hb1
      have HS := hide (fun (X : World) (hX : Below w1.heap.size w1 X) => rsame_any (some a) n c (l :: r) D K C (treeD l) X (HT1.out.below hX) (hD.below hX))
      have hbX : Below w1.heap.size w1 (w1.alloc (.cells #[.slice D K C] 29)) := (Below.refl _ _).alloc (Nat.le_refl _) _
      have d1 := (hB1.below hbX).cell (j := 0) rfl
      have HS1 := hide (HS.out _ hbX)
      clear hok hE hTT hD
      go_wp2_with fail
      go_fit HS1.out
      rintro x w2 ⟨rfl, hb2⟩
      have hbf := hb0.trans ((hb1.mono hb0.size).trans ((hbX.mono (Nat.le_trans hb0.size hb1.size)).trans (hb2.mono (by have := hb0.size; have := hbX.size; omega))))
      cases he : eqL (l :: r) (treeD l) with
      | true =>
        have hRR : Hid (ckE (l :: r) = 0) := hide (by rw [hR.out, he]; rfl)
        clear he
        go_wp2
        go_ret
        exact ⟨by rw [hRR.out]; rfl, hbf⟩
      | false =>
        have hRR : Hid (ckE (l :: r) = 250) := hide (by rw [hR.out, he]; rfl)
        clear he
        go_wp2
        go_ret
        exact ⟨by rw [hRR.out]; rfl, hbf⟩
theorem okT_cases {ls : List (List Nat)} (h : okT ls = true) : ∃ l, ls = treeD l ∧ 1 ≤ l.length ∧ l.length ≤ 4096 := by
  cases ls with
  | nil => cases h
  | cons l r =>
    have h' : (okN l.length && eqL (l :: r) (treeD l)) = true := h
    rw [Bool.and_eq_true] at h'
    have h1 := of_decide_eq_true h'.1
    exact ⟨l, of_decide_eq_true h'.2, h1.1, h1.2⟩
/-- The digest of all. -/
def roD (ls : List (List Nat)) : Nat := if okT ls then (ls.getLast?.getD []).headD 0 else 0
set_option maxHeartbeats 1600000 in
theorem root_no (A : Option Addr) (n c : Nat) (ls : List (List Nat)) (w : World) {Q : Nat → Prop} (hT : tyTree.Is w Q ls [.slice A n c]) (ht : Tab w) (hk : ckE ls = 250) :
    Calls Tryd.prog 25 #[.agg #[.slice A n c]] w fun e w' => e = .returned (.tuple #[.int .u32 0, .int .i64 250]) ∧ Below w.heap.size w w' := by
  obtain ⟨w0, hw0⟩ : ∃ x, w.alloc (.cells #[.slice A n c] 29) = x := ⟨_, rfl⟩
  have hb0 : Below w.heap.size w w0 := by rw [← hw0]; exact (Below.refl _ _).alloc (Nat.le_refl _) _
  have hB0 : Blk w0 w.heap.size [.slice A n c] 29 := by rw [← hw0]; exact Blk.new w [.slice A n c] _
  have HC := hide (check_any A n c ls w0 (hT.below hb0) (Rd.below ht hb0))
  rw [hk] at HC
  have Hw0 := hide hw0
  have d0 := hB0.cell (j := 0) rfl
  clear hw0 hT ht hk
  go_enter Tryd.func25, Tryd.ntmps25
  go_wp2_with fail
  rw [Hw0.out]
  go_fit HC.out
  rintro x w1 ⟨rfl, hb1⟩
  clear d0
  go_wp2
  go_ret2
  exact ⟨rfl, hb0.trans (hb1.mono hb0.size)⟩
set_option maxHeartbeats 1600000 in
theorem rroot_yes (A : Option Addr) (n c : Nat) (l : List Nat) (w : World) {Q : Nat → Prop} (hT : tyTree.Is w Q (treeD l) [.slice A n c]) (h1 : 1 ≤ l.length) (h2 : l.length ≤ 4096) {d : Nat} (hd : (treeD l).getLast? = some [d]) :
    Calls Tryd.prog 26 #[.agg #[.slice A n c]] w fun e w' => e = .returned (.tuple #[.int .u32 (d : Int), .int .i64 0]) ∧ Below w.heap.size w w' := by
  obtain ⟨w0, hw0⟩ : ∃ x, w.alloc (.cells #[.slice A n c] 29) = x := ⟨_, rfl⟩
  have hb0 : Below w.heap.size w w0 := by rw [← hw0]; exact (Below.refl _ _).alloc (Nat.le_refl _) _
  have hB0 : Blk w0 w.heap.size [.slice A n c] 29 := by rw [← hw0]; exact Blk.new w [.slice A n c] _
  have hT0 := hT.below hb0
  have HC := hide (rcheck_any A n c (treeD l) w0 hT0)
  rw [ckE_tree h1 h2] at HC
  have Hw0 := hide hw0
  have hlp : 0 < (treeD l).length := by obtain ⟨r, hr⟩ := treeD_head l; rw [hr]; simp
  obtain ⟨m, hm⟩ : ∃ m, (treeD l).length = m + 1 := ⟨(treeD l).length - 1, by omega⟩
  have hlast : (treeD l)[m]? = some [d] := by rw [List.getLast?_eq_getElem?, hm, Nat.add_sub_cancel] at hd; exact hd
  have hn : n = m + 1 := by
    obtain ⟨p, pA, pn, pc, pv, rfl, hpe, hl1, _⟩ := Tree_out hT0
    simp only [List.cons.injEq, Value.slice.injEq, and_true] at hpe
    rw [hpe.2.1, ← hl1, hm]
  subst hn
  have hc63 : m + 1 ≤ 9223372036854775807 := by
    obtain ⟨p, pA, pn, pc, pv, rfl, hpe, hl1, hc1, hm1, _⟩ := Tree_out hT0
    omega
  have HK := hide (fun (X : World) (hX : Below w0.heap.size w0 X) => show X.cell? ⟨w.heap.size, 0, none⟩ = some (.slice A (m + 1) c) ∧ ∃ (a b : Addr) (k : Nat), A = some a ∧ X.cell? (a.add m) = some (.slice (some b) 1 k) ∧ X.cell? b = some (.int .u32 (d : Int)) from by
    obtain ⟨p, pA, pn, pc, pv, rfl, hpe, hl1, hc1, hm1, hr1, _, he1⟩ := Tree_out (hT0.below hX)
    simp only [List.cons.injEq, Value.slice.injEq, and_true] at hpe
    obtain ⟨rfl, rfl, rfl⟩ := hpe
    obtain ⟨hml, hme⟩ := List.getElem?_eq_some_iff.1 hlast
    obtain ⟨B, k, hv, _, _, hrd, _, _⟩ := rows32_at he1 (k := m) hml
    rw [hme] at hv hrd
    obtain ⟨a, ha, hc⟩ := hr1 m _ hv
    obtain ⟨b, rfl, hcb⟩ := hrd 0 _ rfl
    exact ⟨(hB0.below hX).cell (j := 0) rfl, a, b, k, ha, hc, hcb⟩)
  have d0 := hB0.cell (j := 0) rfl
  clear hw0 hT hT0 hlp hm hlast hd
  go_enter Tryd.func26, Tryd.ntmps26
  go_wp2_with fail
  rw [Hw0.out]
  go_fit HC.out
  rintro x w1 ⟨rfl, hb1⟩
  obtain ⟨k0, a, b, k, rfl, k1, k2⟩ := HK.out w1 hb1
  have hmb : m < 9223372036854775807 := by omega
  have hw64 : wrap64 (m : Int) = (m : Int) := by unfold wrap64; omega
  clear d0
  go_wp2
  go_ret2
  exact ⟨rfl, hb0.trans (hb1.mono hb0.size)⟩
set_option maxHeartbeats 1600000 in
theorem rroot_no (A : Option Addr) (n c : Nat) (ls : List (List Nat)) (w : World) {Q : Nat → Prop} (hT : tyTree.Is w Q ls [.slice A n c]) (hk : ckE ls = 250) :
    Calls Tryd.prog 26 #[.agg #[.slice A n c]] w fun e w' => e = .returned (.tuple #[.int .u32 0, .int .i64 250]) ∧ Below w.heap.size w w' := by
  obtain ⟨w0, hw0⟩ : ∃ x, w.alloc (.cells #[.slice A n c] 29) = x := ⟨_, rfl⟩
  have hb0 : Below w.heap.size w w0 := by rw [← hw0]; exact (Below.refl _ _).alloc (Nat.le_refl _) _
  have hB0 : Blk w0 w.heap.size [.slice A n c] 29 := by rw [← hw0]; exact Blk.new w [.slice A n c] _
  have HC := hide (rcheck_any A n c ls w0 (hT.below hb0))
  rw [hk] at HC
  have Hw0 := hide hw0
  have d0 := hB0.cell (j := 0) rfl
  clear hw0 hT hk
  go_enter Tryd.func26, Tryd.ntmps26
  go_wp2_with fail
  rw [Hw0.out]
  go_fit HC.out
  rintro x w1 ⟨rfl, hb1⟩
  clear d0
  go_wp2
  go_ret2
  exact ⟨rfl, hb0.trans (hb1.mono hb0.size)⟩
theorem root_any (A : Option Addr) (n c : Nat) (ls : List (List Nat)) (w : World) {Q : Nat → Prop} (hT : tyTree.Is w Q ls [.slice A n c]) (ht : Tab w) :
    Calls Tryd.prog 25 #[.agg #[.slice A n c]] w fun e w' => e = .returned (.tuple #[.int .u32 (roD ls : Nat), .int .i64 (ckE ls)]) ∧ Below w.heap.size w w' := by
  cases hok : okT ls with
  | false =>
    have hE : ckE ls = 250 := by unfold ckE; rw [hok]; rfl
    have hR : roD ls = 0 := by unfold roD; rw [hok]; rfl
    rw [hE, hR]
    exact root_no A n c ls w hT ht hE
  | true =>
    obtain ⟨l, rfl, h1, h2⟩ := okT_cases hok
    obtain ⟨d, hd⟩ := tree_last h1 h2
    have hE : ckE (treeD l) = 0 := by unfold ckE; rw [hok]; rfl
    have hR : roD (treeD l) = d := by unfold roD; rw [hok, hd]; rfl
    rw [hE, hR]
    exact root_yes A n c l w hT ht h1 h2 hd
theorem rroot_any (A : Option Addr) (n c : Nat) (ls : List (List Nat)) (w : World) {Q : Nat → Prop} (hT : tyTree.Is w Q ls [.slice A n c]) :
    Calls Tryd.prog 26 #[.agg #[.slice A n c]] w fun e w' => e = .returned (.tuple #[.int .u32 (roD ls : Nat), .int .i64 (ckE ls)]) ∧ Below w.heap.size w w' := by
  cases hok : okT ls with
  | false =>
    have hE : ckE ls = 250 := by unfold ckE; rw [hok]; rfl
    have hR : roD ls = 0 := by unfold roD; rw [hok]; rfl
    rw [hE, hR]
    exact rroot_no A n c ls w hT hE
  | true =>
    obtain ⟨l, rfl, h1, h2⟩ := okT_cases hok
    obtain ⟨d, hd⟩ := tree_last h1 h2
    have hE : ckE (treeD l) = 0 := by unfold ckE; rw [hok]; rfl
    have hR : roD (treeD l) = d := by unfold roD; rw [hok, hd]; rfl
    rw [hE, hR]
    exact rroot_yes A n c l w hT h1 h2 hd
end Go.Proofs.YtcpnobhdogpfiaaDoor
