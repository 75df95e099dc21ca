/- The law TreeProved, walked. -/
import Derived.Test.YtcpnobhdogpfiaaDoorF25j
namespace Go.Proofs.YtcpnobhdogpfiaaDoor
set_option maxRecDepth 20000
open Go.RowKit Go.Px
set_option linter.unusedVariables false
theorem lvD_bound (f : Nat) : ∀ (l : List Nat), (∀ x ∈ l, x < 4294967296) → ∀ r ∈ lvD f l, ∀ x ∈ r, x < 4294967296 := by
  induction f with
  | zero => intro l h r hr; rw [show lvD 0 l = [l] from rfl] at hr; simp at hr; subst hr; exact h
  | succ f ih =>
    intro l h r hr
    by_cases h1 : l.length ≤ 1
    · rw [lvD_one _ h1] at hr; simp at hr; subst hr; exact h
    · rw [lvD_more (by omega)] at hr
      rcases List.mem_cons.1 hr with rfl | hr
      · exact h
      · exact ih _ (upD_lt l) r hr
theorem tree_root_lt {l : List Nat} {d : Nat} (h : ∀ x ∈ l, x < 4294967296) (hd : (treeD l).getLast? = some [d]) : d < 4294967296 :=
  lvD_bound 6 l h [d] (List.mem_of_getLast? hd) d (by simp)
theorem xor_other {y x : Nat} (hx : x ≠ 0) : y ^^^ x ≠ y := fun e => hx (by
  have h : y ^^^ (y ^^^ x) = y ^^^ y := by rw [e]
  rw [← Nat.xor_assoc, Nat.xor_self, Nat.zero_xor] at h; exact h)
set_option maxRecDepth 100000 in
set_option maxHeartbeats 6400000 in
theorem treeProved_walk (A : Option Addr) (n c : Nat) (l0 : List Nat) (m x : Nat) (w : World) (hn : l0.length = n) (hnc : n ≤ c) (hc63 : c ≤ 9223372036854775807) (hr : Rd w A (u32s l0)) (hb0 : ∀ y ∈ l0, y < 4294967296) (hm : m < 65536) (hx : x < 4294967296) (ht : Tab w) :
    Calls Tryd.prog 10 #[.slice A n c, .int .u16 (m : Int), .int .u32 (x : Int)] w fun e w' => e = .returned (.bool true) ∧ Below w.heap.size w w' := by
  have Hn := hide hn
  clear hn
  go_enter Tryd.func10, Tryd.ntmps10
  go_wp2_with fail
  go_fit (awake_any w ht)
  rintro e w1 ⟨rfl, hb1⟩
  go_wp2_with fail
  go_fit (few_any A n c l0 w1 Hn.out hnc (hr.below hb1))
  rintro e w1' ⟨n', l, rfl, hl, hnc', hrl, hsub, rfl⟩
  have hbl : ∀ y ∈ l, y < 4294967296 := fun y hy => hb0 y (hsub y hy)
  have ht1 : Tab w1 := Rd.below ht hb1
  have HM := hide (makeA_any A n' c l w1 hl hnc' hc63 hrl hbl ht1)
  have Hl := hide hl
  clear hl
  go_wp2_with fail
  go_fit HM.out
  rintro e w2 ⟨B, K, C, rfl, hD, hb2⟩
  obtain ⟨w3, hw3⟩ : ∃ x, w2.alloc (.cells #[.slice B K C] 29) = x := ⟨_, rfl⟩
  have hb3 : Below w2.heap.size w2 w3 := by rw [← hw3]; exact (Below.refl _ _).alloc (Nat.le_refl _) _
  have B7 : Blk w3 w2.heap.size [.slice B K C] 29 := by rw [← hw3]; exact Blk.new w2 [.slice B K C] _
  have hD3 := hD.below hb3
  have hb03 : Below w.heap.size w w3 := hb1.trans ((hb2.trans (hb3.mono hb2.size)).mono hb1.size)
  have hb13 : Below w1.heap.size w1 w3 := hb2.trans (hb3.mono hb2.size)
  have Hw3 := hide hw3
  cases hok : okN n' with
  | false =>
    have hE : mkE n' = 250 := by unfold mkE; rw [hok]; rfl
    have hT : mkT l = [] := by unfold mkT; rw [Hl.out, hok]; rfl
    rw [hE]
    rw [hT] at hD3
    have hK : K = 0 := by
      obtain ⟨p, pA, pn, pc, pv, rfl, hpe, hl1, _⟩ := Tree_out hD3
      simp only [List.cons.injEq, Value.slice.injEq, and_true] at hpe
      rw [hpe.2.1, ← hl1]; rfl
    subst hK
    clear hok hE hT hD hD3 hw3
    go_wp2
    go_ret
    rw [Hw3.out]
    exact ⟨rfl, hb03⟩
  | true =>
    have hE : mkE n' = 0 := by unfold mkE; rw [hok]; rfl
    have hT : mkT l = treeD l := by unfold mkT; rw [Hl.out, hok]; rfl
    obtain ⟨h1, h4⟩ : 1 ≤ n' ∧ n' ≤ 4096 := by unfold okN at hok; exact of_decide_eq_true hok
    rw [hE]
    rw [hT] at hD3
    obtain ⟨d, hd⟩ := tree_last (l := l) (by rw [Hl.out]; exact h1) (by rw [Hl.out]; exact h4)
    have hdlt := tree_root_lt hbl hd
    have hq : m % n' < n' := Nat.mod_lt _ (by omega)
    obtain ⟨q, hqq⟩ : ∃ q, m % n' = q := ⟨_, rfl⟩
    have hmi : (m : Int) % (n' : Int) = (q : Int) := by rw [← hqq]; simp
    have hmt : Int.tmod (m : Int) (n' : Int) = (q : Int) := by rw [← hqq]; exact (Int.ofNat_tmod m n').symm
    rw [hqq] at hq
    have hql : q < l.length := by rw [Hl.out]; exact hq
    obtain ⟨y, hy⟩ : ∃ y, l[q] = y := ⟨_, rfl⟩
    have hyq : l[q]? = some y := by rw [List.getElem?_eq_getElem hql, hy]
    have hylt : y < 4294967296 := by rw [← hy]; exact hbl _ (List.getElem_mem hql)
    have hcy0 : (u32s l)[q]? = some (.int .u32 (y : Int)) := by rw [u32s_get hql, hy]
    obtain ⟨a, rfl, hcy⟩ := hrl q _ hcy0
    have hplE := plE_tree (l := l) (i := q) (by rw [Hl.out]; exact h4) hql
    have ht3 : Tab w3 := Rd.below ht1 hb13
    have HPV := hide (prove_yes B K C l q w3 hD3 ht3 (by rw [Hl.out]; exact h4) hql hplE)
    have HRT := hide (fun (X : World) (hX : Below w3.heap.size w3 X) => root_yes B K C l X (hD3.below hX) (Rd.below ht3 hX) (by rw [Hl.out]; exact h1) (by rw [Hl.out]; exact h4) hd)
    have p1 : prvD 6 n' q y (provD (treeD l) q) = some d := by
      obtain ⟨root, g1, g2⟩ := prv_prove 6 l q y (by rw [Hl.out]; exact Nat.le_trans h4 (by decide)) hyq
      have g3 : (treeD l).getLast? = some [root] := g1
      rw [hd] at g3
      injection g3 with g3
      injection g3 with g3
      rw [Hl.out] at g2
      rw [g3]; exact g2
    have p2 : ∀ z, z ≠ y → ¬ prvD 6 n' q z (provD (treeD l) q) = some d := fun z hz e => prv_other 6 l q y z (by rw [Hl.out]; exact Nat.le_trans h4 (by decide)) hyq hz d hd (by rw [Hl.out]; exact e)
    clear hok hE hT hD hw3 hqq hy hcy0 hplE hrl hsub
    have B7c := B7.cell (j := 0) rfl
    go_wp2_with fail
    rw [Hw3.out]
    go_wp2_with fail
    go_fit HPV.out
    rintro e w4 ⟨E, L, G, rfl, hP, hb4⟩
    obtain ⟨w5, hw5⟩ : ∃ x, w4.alloc (.cells #[.int .i64 (q : Int), .slice E L G] 58) = x := ⟨_, rfl⟩
    have hb5 : Below w4.heap.size w4 w5 := by rw [← hw5]; exact (Below.refl _ _).alloc (Nat.le_refl _) _
    have B10 : Blk w5 w4.heap.size [.int .i64 (q : Int), .slice E L G] 58 := by rw [← hw5]; exact Blk.new w4 [.int .i64 (q : Int), .slice E L G] _
    have hb35 : Below w3.heap.size w3 w5 := hb4.trans (hb5.mono hb4.size)
    have c7 := (B7.below hb35).cell (j := 0) rfl
    rw [← hw5] at c7
    have Hw5 := hide hw5
    clear hw5 B7c
    go_wp2_with fail
    rw [Hw5.out]
    go_fit (HRT.out w5 hb35)
    rintro e w6 ⟨rfl, hb6⟩
    have hb36 : Below w3.heap.size w3 w6 := hb35.trans (hb6.mono hb35.size)
    have hb46 : Below w4.heap.size w4 w6 := hb5.trans (hb6.mono hb5.size)
    have ht6 : Tab w6 := Rd.below ht3 hb36
    have hb06 : Below w.heap.size w w6 := hb03.trans (hb36.mono hb03.size)
    have hcy6 := below_cell (hb13.trans (hb36.mono hb13.size)) hcy
    have g1 : ∀ x : InC (fun W => Below w6.heap.size w6 W), x.W.cell? (a.add q) = some (.int .u32 (y : Int)) := fun x => below_cell x.h hcy6
    have g2 : ∀ x : InC (fun W => Below w6.heap.size w6 W), x.W.cell? ⟨w4.heap.size, 0, none⟩ = some (.int .i64 (q : Int)) := fun x => ((B10.below hb6).below x.h).cell (j := 0) rfl
    have g3 : ∀ x : InC (fun W => Below w6.heap.size w6 W), x.W.cell? ⟨w4.heap.size, 1, none⟩ = some (.slice E L G) := fun x => ((B10.below hb6).below x.h).cell (j := 1) rfl
    have PV := fun (rt z : Nat) (hrt : rt < 4294967296) (hz : z < 4294967296) (X : World) (hX : Below w6.heap.size w6 X) => proved_main rt n' z q E L G (provD (treeD l) q) X ((hP.below hb46).below hX) hz hrt hq h4 (Rd.below ht6 hX)
    have PV0 := PV d y hdlt hylt
    rw [p1, if_pos rfl] at PV0
    have PV1 := hide (fun (z : InC (fun W => Below w6.heap.size w6 W)) => PV0 z.W z.h)
    have PV2 := fun (hx0 : x ≠ 0) => PV d (y ^^^ x) hdlt (xor_lt hylt hx)
    have PV3 := fun (hx0 : x ≠ 0) => PV (d ^^^ x) y (xor_lt hdlt hx) hylt
    have HP2 := hide (fun hx0 => (by have h := PV2 hx0; rw [if_neg (p2 _ (xor_other hx0))] at h; exact h : ∀ X : World, Below w6.heap.size w6 X → Calls Tryd.prog 36 #[.int .u32 (d : Int), .int .i64 (n' : Int), .int .u32 ((y ^^^ x : Nat) : Int), .agg #[.int .i64 (q : Int), .slice E L G]] X fun e w' => e = .returned (.int .i64 251) ∧ Below X.heap.size X w'))
    have HP3 := hide (fun hx0 => (by have h := PV3 hx0; rw [if_neg (by rw [p1]; intro e; injection e with e; exact xor_other hx0 e.symm)] at h; exact h : ∀ X : World, Below w6.heap.size w6 X → Calls Tryd.prog 36 #[.int .u32 ((d ^^^ x : Nat) : Int), .int .i64 (n' : Int), .int .u32 (y : Int), .agg #[.int .i64 (q : Int), .slice E L G]] X fun e w' => e = .returned (.int .i64 251) ∧ Below X.heap.size X w'))
    clear PV PV0 PV2 PV3 p1 p2 hP c7 hcy
    go_wp2_with fail
    refine wp_region_in (fun W => Below w6.heap.size w6 W) (Below.refl _ _).drew (by kernel_rfl) (by kernel_rfl) ?_
    repeat (go_big_quiet_step (first | (go_at_call 36; with_reducible exact Calls.in_below (PV1.out _))))
    refine wpQuiet_nil ?_
    rintro _ ⟨nq, rfl⟩
    have hbq := nq.h
    obtain ⟨w7, hw7⟩ : ∃ y, nq.W = y := ⟨_, rfl⟩
    rw [hw7] at hbq ⊢
    clear hw7
    have cv : ∀ z : InC (fun W => Below w7.heap.size w7 W), Below w6.heap.size w6 z.W := fun z => hbq.trans (z.h.mono hbq.size)
    have G1 : ∀ z : InC (fun W => Below w7.heap.size w7 W), z.W.cell? (a.add q) = some (.int .u32 (y : Int)) := fun z => g1 ⟨z.W, cv z⟩
    have G2 : ∀ z : InC (fun W => Below w7.heap.size w7 W), z.W.cell? ⟨w4.heap.size, 0, none⟩ = some (.int .i64 (q : Int)) := fun z => g2 ⟨z.W, cv z⟩
    have G3 : ∀ z : InC (fun W => Below w7.heap.size w7 W), z.W.cell? ⟨w4.heap.size, 1, none⟩ = some (.slice E L G) := fun z => g3 ⟨z.W, cv z⟩
    have hfin : ∀ W, Below w7.heap.size w7 W → Below w.heap.size w W := fun W hW => hb06.trans ((hbq.trans (hW.mono hbq.size)).mono hb06.size)
    have Hfin := hide hfin
    by_cases hx0 : x = 0
    · have q0 : ((x : Int) == 0) = true := by rw [hx0]; rfl
      clear g1 g2 g3 hfin hx0 cv HP2 HP3
      go_wp2_with fail
      refine wp_region_in (fun W => Below w7.heap.size w7 W) (Below.refl _ _).drew (by kernel_rfl) (by kernel_rfl) ?_
      repeat (go_big_quiet_step (fail))
      refine wpQuiet_nil ?_
      rintro _ ⟨nq2, rfl⟩
      go_wp2
      go_ret
      exact ⟨rfl, Hfin.out _ nq2.h⟩
    · have q0 : ((x : Int) == 0) = false := by rw [beq_eq_false_iff_ne]; omega
      have e1 := u32_xor_nat y x hylt hx
      have e2 := u32_xor_nat d x hdlt hx
      have Q2 := hide (fun (z : InC (fun W => Below w7.heap.size w7 W)) => HP2.out hx0 z.W (hbq.trans (z.h.mono hbq.size)))
      have Q3 := hide (fun (z : InC (fun W => Below w7.heap.size w7 W)) => HP3.out hx0 z.W (hbq.trans (z.h.mono hbq.size)))
      have b1 : y ^^^ x < 4294967296 := xor_lt hylt hx
      have b2 : d ^^^ x < 4294967296 := xor_lt hdlt hx
      obtain ⟨yx, hyx⟩ : ∃ z, y ^^^ x = z := ⟨_, rfl⟩
      obtain ⟨dx, hdx⟩ : ∃ z, d ^^^ x = z := ⟨_, rfl⟩
      rw [hyx] at e1 Q2 b1
      rw [hdx] at e2 Q3 b2
      clear g1 g2 g3 hfin hx0 cv HP2 HP3 hyx hdx
      go_wp2_with fail
      refine wp_region_in (fun W => Below w7.heap.size w7 W) (Below.refl _ _).drew (by kernel_rfl) (by kernel_rfl) ?_
      repeat (go_big_quiet_step (first | (go_at_call 36; with_reducible exact Calls.in_below (Q2.out _)) | (go_at_call 36; with_reducible exact Calls.in_below (Q3.out _))))
      refine wpQuiet_nil ?_
      rintro _ ⟨nq2, rfl⟩
      go_wp2
      go_ret
      exact ⟨rfl, Hfin.out _ nq2.h⟩
end Go.Proofs.YtcpnobhdogpfiaaDoor
