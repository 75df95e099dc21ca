/- Package tree: Root; the law's pieces awake, few. -/
import Derived.Test.YtcpnobhdogpfiaaDoorF25i
import Derived.Test.YtcpnobhdogpfiaaDoorQui
import Derived.Deep.DeepFit
namespace Go.Proofs.YtcpnobhdogpfiaaDoor
set_option maxRecDepth 20000
open Go.RowKit Go.Px
set_option linter.unusedVariables false
theorem treeD_head (l : List Nat) : ∃ r, treeD l = l :: r := lvD_head 6 l
theorem okT_tree {l : List Nat} (h1 : 1 ≤ l.length) (h2 : l.length ≤ 4096) : okT (treeD l) = true := by
  obtain ⟨r, hr⟩ := treeD_head l
  rw [hr]
  show (okN l.length && eqL (l :: r) (treeD l)) = true
  rw [hr, eqL_self, Bool.and_true]
  exact decide_eq_true ⟨h1, h2⟩
theorem ckE_tree {l : List Nat} (h1 : 1 ≤ l.length) (h2 : l.length ≤ 4096) : ckE (treeD l) = 0 := by unfold ckE; rw [okT_tree h1 h2]; rfl
theorem plE_tree {l : List Nat} {i : Nat} (h2 : l.length ≤ 4096) (hi : i < l.length) : plE (treeD l) (i : Int) = 0 := by
  have h0 := okT_tree (show 1 ≤ l.length by omega) h2
  obtain ⟨r, hr⟩ := treeD_head l
  rw [hr] at h0 ⊢
  unfold plE
  rw [h0, if_pos rfl]
  show (if 0 ≤ (i : Int) ∧ (i : Int) < (l.length : Int) then (0 : Int) else 5) = 0
  rw [if_pos ⟨by omega, by omega⟩]
theorem tree_last {l : List Nat} (h1 : 1 ≤ l.length) (h2 : l.length ≤ 4096) : ∃ d, (treeD l).getLast? = some [d] := lvD_last 6 l h1 (Nat.le_trans h2 (by decide))
set_option maxHeartbeats 1600000 in
theorem root_yes (A : Option Addr) (n c : Nat) (l : List Nat) (w : World) {Q : Nat → Prop} (hT : tyTree.Is w Q (treeD l) [.slice A n c]) (ht : Tab w) (h1 : 1 ≤ l.length) (h2 : l.length ≤ 4096) {d : Nat} (hd : (treeD l).getLast? = some [d]) :
    Calls Tryd.prog 25 #[.agg #[.slice A n c]] w fun e w' => e = .returned (.tuple #[.int .u32 (d : Int), .int .i64 0]) ∧ Below w.heap.size w w' := by
  obtain ⟨w0, hw0⟩ : ∃ x, w.alloc (.cells #[.slice A n c] 29) = x := ⟨_, rfl⟩
  have hb0 : Below w.heap.size w w0 := by rw [← hw0]; exact (Below.refl _ _).alloc (Nat.le_refl _) _
  have hB0 : Blk w0 w.heap.size [.slice A n c] 29 := by rw [← hw0]; exact Blk.new w [.slice A n c] _
  have hT0 := hT.below hb0
  have HC := hide (check_any A n c (treeD l) w0 hT0 (Rd.below ht hb0))
  rw [ckE_tree h1 h2] at HC
  have Hw0 := hide hw0
  have hlp : 0 < (treeD l).length := by obtain ⟨r, hr⟩ := treeD_head l; rw [hr]; simp
  obtain ⟨m, hm⟩ : ∃ m, (treeD l).length = m + 1 := ⟨(treeD l).length - 1, by omega⟩
  have hlast : (treeD l)[m]? = some [d] := by rw [List.getLast?_eq_getElem?, hm, Nat.add_sub_cancel] at hd; exact hd
  have hn : n = m + 1 := by
    obtain ⟨p, pA, pn, pc, pv, rfl, hpe, hl1, _⟩ := Tree_out hT0
    simp only [List.cons.injEq, Value.slice.injEq, and_true] at hpe
    rw [hpe.2.1, ← hl1, hm]
  subst hn
  have hc63 : m + 1 ≤ 9223372036854775807 := by
    obtain ⟨p, pA, pn, pc, pv, rfl, hpe, hl1, hc1, hm1, _⟩ := Tree_out hT0
    omega
  have HK := hide (fun (X : World) (hX : Below w0.heap.size w0 X) => show X.cell? ⟨w.heap.size, 0, none⟩ = some (.slice A (m + 1) c) ∧ ∃ (a b : Addr) (k : Nat), A = some a ∧ X.cell? (a.add m) = some (.slice (some b) 1 k) ∧ X.cell? b = some (.int .u32 (d : Int)) from by
    obtain ⟨p, pA, pn, pc, pv, rfl, hpe, hl1, hc1, hm1, hr1, _, he1⟩ := Tree_out (hT0.below hX)
    simp only [List.cons.injEq, Value.slice.injEq, and_true] at hpe
    obtain ⟨rfl, rfl, rfl⟩ := hpe
    obtain ⟨hml, hme⟩ := List.getElem?_eq_some_iff.1 hlast
    obtain ⟨B, k, hv, _, _, hrd, _, _⟩ := rows32_at he1 (k := m) hml
    rw [hme] at hv hrd
    obtain ⟨a, ha, hc⟩ := hr1 m _ hv
    obtain ⟨b, rfl, hcb⟩ := hrd 0 _ rfl
    exact ⟨(hB0.below hX).cell (j := 0) rfl, a, b, k, ha, hc, hcb⟩)
  have d0 := hB0.cell (j := 0) rfl
  clear hw0 hT ht hT0 hlp hm hlast hd
  go_enter Tryd.func25, Tryd.ntmps25
  go_wp2_with fail
  rw [Hw0.out]
  go_fit HC.out
  rintro x w1 ⟨rfl, hb1⟩
  obtain ⟨k0, a, b, k, rfl, k1, k2⟩ := HK.out w1 hb1
  have hmb : m < 9223372036854775807 := by omega
  have hw64 : wrap64 (m : Int) = (m : Int) := by unfold wrap64; omega
  clear d0
  go_wp2
  go_ret2
  exact ⟨rfl, hb0.trans (hb1.mono hb0.size)⟩
theorem few_any (A : Option Addr) (n c : Nat) (l : List Nat) (w : World) (hn : l.length = n) (hnc : n ≤ c) (hr : Rd w A (u32s l)) :
    Calls Tryd.prog 12 #[.slice A n c] w fun e w' => ∃ (n' : Nat) (l' : List Nat), e = .returned (.slice A n' c) ∧ l'.length = n' ∧ n' ≤ c ∧ Rd w A (u32s l') ∧ (∀ x ∈ l', x ∈ l) ∧ w = w' := by
  rcases (show n ≤ 300 ∨ (300 < n ∧ n ≤ 4096) ∨ (300 < n ∧ 4096 < n) by omega) with h | ⟨h, h'⟩ | ⟨h, h'⟩
  · have Hn := hide hn
    clear hn
    go_enter Tryd.func12, Tryd.ntmps12
    go_wp2
    go_ret
    exact ⟨n, rfl, l, Hn.out, hnc, hr, fun x hx => hx, rfl⟩
  · have Hn := hide hn
    clear hn
    go_enter Tryd.func12, Tryd.ntmps12
    go_wp2
    go_ret
    exact ⟨300, l.take 300, rfl, by rw [List.length_take, Hn.out]; omega, by omega, by unfold u32s; rw [List.map_take]; exact hr.take 300, fun x hx => List.mem_of_mem_take hx, rfl⟩
  · have Hn := hide hn
    clear hn
    go_enter Tryd.func12, Tryd.ntmps12
    go_wp2
    go_ret
    exact ⟨n, l, rfl, Hn.out, hnc, hr, fun x hx => hx, rfl⟩
theorem tree5 : ∃ a b r, treeD [5, 4, 3, 2, 1] = [[5, 4, 3, 2, 1], [a, b], [r]] := by
  have e1 : treeD [5, 4, 3, 2, 1] = [5, 4, 3, 2, 1] :: lvD 5 (upD [5, 4, 3, 2, 1]) := lvD_more (by decide)
  obtain ⟨a, b, hab⟩ : ∃ a b, upD [5, 4, 3, 2, 1] = [a, b] := ⟨_, _, rfl⟩
  obtain ⟨r, hr⟩ : ∃ r, upD [a, b] = [r] := ⟨rowD (pieceD [a, b] 0), by simp [upD, upTo, upN, List.range_succ]⟩
  refine ⟨a, b, r, ?_⟩
  rw [e1, hab, lvD_more (f := 4) (by simp), hr, lvD_one 4 (by simp)]
set_option maxRecDepth 100000 in
set_option maxHeartbeats 6400000 in
theorem awake_any (w : World) (ht : Tab w) : Calls Tryd.prog 20 #[] w fun e w' => e = .returned (.bool true) ∧ Below w.heap.size w w' := by
  obtain ⟨A1, B1, r1, htree⟩ := tree5
  obtain ⟨l5, hl5⟩ : ∃ l, l = [5, 4, 3, 2, 1] := ⟨_, rfl⟩
  have hlen : l5.length = 5 := by rw [hl5]; rfl
  rw [← hl5] at htree
  have hu5 : u32s l5 = [.int .u32 5, .int .u32 4, .int .u32 3, .int .u32 2, .int .u32 1] := by rw [hl5]; rfl
  have hb5 : ∀ x ∈ l5, x < 4294967296 := by rw [hl5]; decide
  have hg5 : l5[4]? = some 1 := by rw [hl5]; rfl
  obtain ⟨w0, hw0⟩ : ∃ x, w.alloc (.cells #[.int .u32 5, .int .u32 4, .int .u32 3, .int .u32 2, .int .u32 1] 33) = x := ⟨_, rfl⟩
  have hb0 : Below w.heap.size w w0 := by rw [← hw0]; exact (Below.refl _ _).alloc (Nat.le_refl _) _
  have hr0 : Rd w0 (some ⟨w.heap.size, 0, none⟩) (u32s l5) := by rw [hu5, ← hw0]; exact Rd.newN w [.int .u32 5, .int .u32 4, .int .u32 3, .int .u32 2, .int .u32 1] _ _
  have HM := hide (make_any (some ⟨w.heap.size, 0, none⟩) 5 5 l5 w0 hlen (by omega) (by omega) (by omega) hr0 hb5 (Rd.below ht hb0) (by omega) (by omega))
  have Hw0 := hide hw0
  have Htree := hide htree
  have hpv : Hid (prvD 6 5 4 1 (provD (treeD l5) 4) = some r1) := hide (by
    obtain ⟨root, h1, h2⟩ := prv_prove 6 l5 4 1 (by rw [hlen]; decide) hg5
    rw [hlen] at h2
    have h3 : (treeD l5).getLast? = some [root] := h1
    rw [htree] at h3
    simp at h3
    rw [← h3] at h2
    exact h2)
  have hpl : Hid ((provD (treeD l5) 4).length = 2) := hide (by rw [htree]; rfl)
  have hplE : plE (treeD l5) ((4 : Nat) : Int) = 0 := plE_tree (by omega) (by omega)
  have HPV := fun (A : Option Addr) (n c : Nat) (X : World) (Q : Nat → Prop) (hT : tyTree.Is X Q (treeD l5) [.slice A n c]) (hX : Tab X) => prove_yes A n c l5 4 X hT hX (by omega) (by omega) hplE
  have HPV' := hide HPV
  clear hw0 hr0 htree hu5 HPV hplE hl5 hg5
  go_enter Tryd.func20, Tryd.ntmps20
  go_wp2_with fail
  rw [Hw0.out]
  go_fit HM.out
  rintro x w1 ⟨D, K, C, rfl, hD, hb1⟩
  have ht1 : Tab w1 := Rd.below (Rd.below ht hb0) hb1
  obtain ⟨w2, hw2⟩ : ∃ x, w1.alloc (.cells #[.slice D K C] 29) = x := ⟨_, rfl⟩
  have hb2 : Below w1.heap.size w1 w2 := by rw [← hw2]; exact (Below.refl _ _).alloc (Nat.le_refl _) _
  have B1' : Blk w2 w1.heap.size [.slice D K C] 29 := by rw [← hw2]; exact Blk.new w1 [.slice D K C] _
  have hD2 := hD.below hb2
  have HK := hide (fun (X : World) (hX : Below w2.heap.size w2 X) => show X.cell? ⟨w1.heap.size, 0, none⟩ = some (.slice D 3 C) ∧ ∃ (a b2 : Addr) (c1 c2 : Nat) (Bx : Option Addr), D = some a ∧ X.cell? ⟨a.block, a.off + 1, none⟩ = some (.slice Bx 2 c1) ∧ X.cell? ⟨a.block, a.off + 2, none⟩ = some (.slice (some b2) 1 c2) ∧ X.cell? b2 = some (.int .u32 (r1 : Int)) ∧ r1 < 4294967296 from by
    have hDX := hD2.below hX
    obtain ⟨p, pA, pn, pc, pv, rfl, hpe, hl1, hc1, hm1, hrr, _, he1⟩ := Tree_out hDX
    simp only [List.cons.injEq, Value.slice.injEq, and_true] at hpe
    obtain ⟨rfl, rfl, rfl⟩ := hpe
    rw [Htree.out] at hl1 he1
    obtain ⟨X1, k1, hv1, _⟩ := rows32_at he1 (k := 1) (by simp)
    obtain ⟨X2, k2, hv2, _, _, hr2, _, hb2⟩ := rows32_at he1 (k := 2) (by simp)
    simp only [List.getElem_cons_succ, List.getElem_cons_zero, List.length_cons, List.length_nil] at hv1 hv2 hr2 hb2
    obtain ⟨a, rfl, hca⟩ := hrr 1 _ hv1
    obtain ⟨b, rfl, hcb⟩ := hr2 0 _ rfl
    have hK3 : K = 3 := by simpa using hl1.symm
    refine ⟨?_, a, b, k1, k2, X1, rfl, hrr.atS hv1, hrr.atS hv2, hcb, hb2 r1 (by simp)⟩
    rw [← hK3]; exact (B1'.below hX).cell (j := 0) rfl)
  have hK3 : K = 3 := by
    obtain ⟨p, pA, pn, pc, pv, rfl, hpe, hl1, _⟩ := Tree_out hD2
    simp only [List.cons.injEq, Value.slice.injEq, and_true] at hpe
    rw [Htree.out] at hl1
    rw [hpe.2.1, ← hl1]; rfl
  subst hK3
  have Hw2 := hide hw2
  obtain ⟨k0, a, b2, c1, c2, Bx, rfl, k1, k2, k3, hr1lt⟩ := HK.out w2 (Below.refl _ _)
  have Hk2 := hide k2
  have Hk3 := hide k3
  have HD2 := hide hD2
  rw [← Hw2.out] at k0 k1
  clear hw2 hD hD2 k2 k3
  go_wp2_with fail
  rw [Hw2.out]
  go_fit (HPV'.out (some a) 3 C w2 _ HD2.out (Rd.below ht1 hb2))
  rintro x w3 ⟨E, L, G, rfl, hE, hb3⟩
  obtain ⟨w4, hw4⟩ : ∃ x, w3.alloc (.cells #[.int .i64 4, .slice E L G] 58) = x := ⟨_, rfl⟩
  have hb4 : Below w3.heap.size w3 w4 := by rw [← hw4]; exact (Below.refl _ _).alloc (Nat.le_refl _) _
  have B3 : Blk w4 w3.heap.size [.int .i64 4, .slice E L G] 58 := by rw [← hw4]; exact Blk.new w3 [.int .i64 4, .slice E L G] _
  have hL2 : L = 2 := by
    obtain ⟨pI, pr, pA, pn, pc, vs, hxe, hpe, _, _, hl1, _⟩ := Proof_out hE
    simp only [Prod.mk.injEq] at hxe
    obtain ⟨rfl, rfl⟩ := hxe
    simp only [List.cons.injEq, Value.slice.injEq, and_true] at hpe
    rw [hpe.2.2.1, ← hl1]; exact hpl.out
  subst hL2
  have hb24 : Below w2.heap.size w2 w4 := hb3.trans (hb4.mono hb3.size)
  have ht4 : Tab w4 := Rd.below (Rd.below ht1 hb2) hb24
  have HPD := hide (fun (X : World) (hX : Below w4.heap.size w4 X) => proved_main r1 5 1 4 E 2 G (provD (treeD l5) 4) X ((hE.below hb4).below hX) (by omega) hr1lt (by omega) (by omega) (Rd.below ht4 hX))
  rw [hpv.out, if_pos rfl] at HPD
  have hb04 : Below w.heap.size w w4 := hb0.trans ((hb1.mono hb0.size).trans ((hb2.mono (Nat.le_trans hb0.size hb1.size)).trans (hb24.mono (Nat.le_trans (Nat.le_trans hb0.size hb1.size) hb2.size))))
  have HK4 := hide (fun (x : InC (fun W => Below w4.heap.size w4 W)) => HK.out x.W (hb24.trans (x.h.mono hb24.size)))
  have g1 : ∀ x : InC (fun W => Below w4.heap.size w4 W), x.W.cell? ⟨w1.heap.size, 0, none⟩ = some (.slice (some a) 3 C) := fun x => (HK4.out x).1
  have g2 : ∀ x : InC (fun W => Below w4.heap.size w4 W), x.W.cell? ⟨a.block, a.off + 2, none⟩ = some (.slice (some b2) 1 c2) := fun x => below_cell (hb24.trans (x.h.mono hb24.size)) Hk2.out
  have g3 : ∀ x : InC (fun W => Below w4.heap.size w4 W), x.W.cell? b2 = some (.int .u32 (r1 : Int)) := fun x => below_cell (hb24.trans (x.h.mono hb24.size)) Hk3.out
  have g4 : ∀ x : InC (fun W => Below w4.heap.size w4 W), x.W.cell? ⟨w3.heap.size, 0, none⟩ = some (.int .i64 4) := fun x => (B3.below x.h).cell (j := 0) rfl
  have g5 : ∀ x : InC (fun W => Below w4.heap.size w4 W), x.W.cell? ⟨w3.heap.size, 1, none⟩ = some (.slice E 2 G) := fun x => (B3.below x.h).cell (j := 1) rfl
  have HP4 := hide (fun (x : InC (fun W => Below w4.heap.size w4 W)) => HPD.out x.W x.h)
  have Hw4 := hide hw4
  clear hw4 k0 k1 hE hb3
  go_wp2_with fail
  rw [Hw4.out]
  refine wp_region_in (fun W => Below w4.heap.size w4 W) (Below.refl _ _).drew (by kernel_rfl) (by kernel_rfl) ?_
  repeat (go_big_quiet_step (first | (go_at_call 36; with_reducible exact Calls.in_below (HP4.out _))))
  refine wpQuiet_nil ?_
  rintro _ ⟨nq, rfl⟩
  have hbq := nq.h
  obtain ⟨w5, hw5⟩ : ∃ y, nq.W = y := ⟨_, rfl⟩
  rw [hw5] at hbq ⊢
  go_wp2
  go_ret
  exact ⟨rfl, hb04.trans (hbq.mono hb04.size)⟩
end Go.Proofs.YtcpnobhdogpfiaaDoor
