/- The document's trees: equal rows, Same, Make. -/
import Derived.Test.YtcpnobhdogpfiaaDoorF25g
import Derived.Deep.DeepFit
namespace Go.Proofs.YtcpnobhdogpfiaaDoor
set_option maxRecDepth 20000
open Go.RowKit Go.Px
set_option linter.unusedVariables false
set_option maxHeartbeats 800000 in
theorem rsamerow_any (A : Option Addr) (n c : Nat) (xs : List Nat) (B : Option Addr) (m d : Nat) (ys : List Nat) (w : World) (hn : xs.length = n) (hm : ys.length = m) (h63 : n ≤ 9223372036854775807) (h63' : m ≤ 9223372036854775807) (hr : Rd w A (u32s xs)) (hs : Rd w B (u32s ys)) :
    Calls Tryd.prog 52 #[.slice A n c, .slice B m d] w fun e w' => e = .returned (.bool (eqL xs ys)) ∧ Below w.heap.size w w' := by
  by_cases hnm : n = m
  · subst hnm
    have Hn := hide hn
    have Hm := hide hm
    clear hn hm
    go_enter Tryd.func52, Tryd.ntmps52
    go_wp2
    go_loopw [5] (fun i wr => ∃ k : Nat, k ≤ n ∧ i = .int .i64 k ∧ Hid (xs.take k = ys.take k) ∧ Below w.heap.size w wr) (fun i _ => n - (intOf i).toNat)
    case atStart => exact ⟨0, by omega, rfl, hide (by simp), Below.refl _ _⟩
    case round =>
      obtain ⟨k, hk, rfl, hN, hbw⟩ := hrel
      by_cases hlt : k < n
      · have hkl : k < xs.length := by rw [Hn.out]; exact hlt
        have hkm : k < ys.length := by rw [Hm.out]; exact hlt
        obtain ⟨a, ha, hc⟩ := hr.below hbw k _ (u32s_get hkl)
        obtain ⟨b, hb, hd⟩ := hs.below hbw k _ (u32s_get hkm)
        obtain ⟨x, hx⟩ : ∃ x, xs[k] = x := ⟨_, rfl⟩
        obtain ⟨y, hy⟩ : ∃ y, ys[k] = y := ⟨_, rfl⟩
        rw [hx] at hc
        rw [hy] at hd
        subst ha hb
        by_cases hv : x = y
        · have HB := hide (eqL_take hkl hkm hN.out (by rw [hx, hy]; exact hv))
          have q1 : ((x : Int) != (y : Int)) = false := by simp [hv]
          clear hx hy hv
          go_wp2
          go_quiet (fail)
          all_goals
            go_wp2
            go_roundw
            case rel => exact ⟨k + 1, by omega, by go_num, HB, below_drewN hbw _⟩
            case measure => simp [intOf]; omega
        · have HB := hide (eqL_ne hkl hkm (by rw [hx, hy]; exact hv))
          have q1 : ((x : Int) != (y : Int)) = true := by simp; omega
          clear hx hy hv
          go_wp2
          go_quiet (fail)
          all_goals
            go_wp2
            go_ret
            exact ⟨by rw [HB.out]; rfl, below_drewN hbw _⟩
      · have HB := hide (eqL_all (show xs.length ≤ k by rw [Hn.out]; omega) (show ys.length ≤ k by rw [Hm.out]; omega) hN.out)
        go_wp2
        go_ret
        exact ⟨by rw [HB.out]; rfl, hbw⟩
  · have HB := hide (eqL_len (a := xs) (b := ys) (by rw [hn, hm]; exact hnm))
    have q : ((n : Int) != (m : Int)) = true := by simp; omega
    clear hnm hn hm
    go_enter Tryd.func52, Tryd.ntmps52
    go_wp2
    go_ret
    exact ⟨by rw [HB.out]; rfl, Below.refl _ _⟩
set_option maxHeartbeats 1600000 in
theorem rsame_any (A : Option Addr) (n c : Nat) (xs : List (List Nat)) (B : Option Addr) (m d : Nat) (ys : List (List Nat)) (w : World) {Q Q' : Nat → Prop} (hx : tyTree.Is w Q xs [.slice A n c]) (hy : tyTree.Is w Q' ys [.slice B m d]) :
    Calls Tryd.prog 19 #[.agg #[.slice A n c], .agg #[.slice B m d]] w fun e w' => e = .returned (.bool (eqL xs ys)) ∧ Below w.heap.size w w' := by
  obtain ⟨w0, hw0⟩ : ∃ x, (w.alloc (.cells #[.slice A n c] 29)).alloc (.cells #[.slice B m d] 29) = x := ⟨_, rfl⟩
  have hb0 : Below w.heap.size w w0 := by rw [← hw0]; exact ((Below.refl _ _).alloc (Nat.le_refl _) _).alloc (by simp) _
  have B2 : Blk w0 w.heap.size [.slice A n c] 29 := by rw [← hw0]; exact (Blk.new w [.slice A n c] 29).alloc _
  have B3 : Blk w0 (w.heap.size + 1) [.slice B m d] 29 := by
    rw [← hw0]
    have := Blk.new (w.alloc (.cells #[.slice A n c] 29)) [.slice B m d] 29
    rwa [World.size_alloc] at this
  obtain ⟨p, pA, pn, pc, pv, rfl, hpe, hl1, hc1, hm1, hr1, _, he1⟩ := Tree_out (hx.below hb0)
  obtain ⟨q, qA, qn, qc, qv, rfl, hqe, hl2, hc2, hm2, hr2, _, he2⟩ := Tree_out (hy.below hb0)
  simp only [List.cons.injEq, Value.slice.injEq, and_true] at hpe hqe
  obtain ⟨rfl, rfl, rfl⟩ := hpe
  obtain ⟨rfl, rfl, rfl⟩ := hqe
  have Hw0 := hide hw0
  have Hn := hide hl1
  have Hm' := hide hl2
  clear hw0 hx hy hl1 hl2
  by_cases hnm : n = m
  · subst hnm
    go_enter Tryd.func19, Tryd.ntmps19
    go_wp2_with fail
    rw [Hw0.out]
    go_loopw [5] (fun i wr => ∃ k : Nat, k ≤ n ∧ i = .int .i64 k ∧ Hid (xs.take k = ys.take k) ∧ Below w0.heap.size w0 wr) (fun i _ => n - (intOf i).toNat)
    case atStart => exact ⟨0, by omega, rfl, hide (by simp), Below.refl _ _⟩
    case round =>
      obtain ⟨k, hk, rfl, hN, hbw⟩ := hrel
      have c2 := (B2.below hbw).cell (j := 0) rfl
      have c3 := (B3.below hbw).cell (j := 0) rfl
      by_cases hlt : k < n
      · have hkl : k < xs.length := by rw [Hn.out]; exact hlt
        have hkm : k < ys.length := by rw [Hm'.out]; exact hlt
        obtain ⟨P, p, hv1, hp1, hp2, hpr, _, _⟩ := rows32_at (he1.below hbw) hkl
        obtain ⟨P', p', hv2, hp1', hp2', hpr', _, _⟩ := rows32_at (he2.below hbw) hkm
        obtain ⟨a, ha, hc⟩ := hr1.below hbw k _ hv1
        obtain ⟨b, hb, hd⟩ := hr2.below hbw k _ hv2
        subst ha hb
        have HE := hide (fun (X : World) (hX : Below wr.heap.size wr X) => rsamerow_any P _ p xs[k] P' _ p' ys[k] X rfl rfl (by omega) (by omega) (hpr.below hX) (hpr'.below hX))
        have hT := fun (e : xs[k] = ys[k]) => eqL_take hkl hkm hN.out e
        have hF := fun (e : xs[k] ≠ ys[k]) => eqL_ne hkl hkm e
        obtain ⟨x, hx'⟩ : ∃ x, xs[k] = x := ⟨_, rfl⟩
        obtain ⟨y, hy'⟩ : ∃ y, ys[k] = y := ⟨_, rfl⟩
        rw [hx'] at hc HE
        rw [hy'] at hd HE
        rw [hx', hy'] at hT hF
        have HT := hide hT
        have HF := hide hF
        have g2 : ∀ z : InC (fun W => Below wr.heap.size wr W), z.W.cell? ⟨w.heap.size, 0, none⟩ = some (.slice (some a) n c) := fun z => below_cell z.h c2
        have g3 : ∀ z : InC (fun W => Below wr.heap.size wr W), z.W.cell? ⟨w.heap.size + 1, 0, none⟩ = some (.slice (some b) n d) := fun z => below_cell z.h c3
        have g4 : ∀ z : InC (fun W => Below wr.heap.size wr W), z.W.cell? (a.add k) = some (.slice P x.length p) := fun z => below_cell z.h hc
        have g5 : ∀ z : InC (fun W => Below wr.heap.size wr W), z.W.cell? (b.add k) = some (.slice P' y.length p') := fun z => below_cell z.h hd
        have HE' := hide (fun (z : InC (fun W => Below wr.heap.size wr W)) => HE.out z.W z.h)
        clear hv1 hv2 hp1 hp2 hpr hp1' hp2' hpr' hx' hy' hT hF
        go_wp2_with fail
        refine wp_region_in (fun W => Below wr.heap.size wr W) (Below.refl _ _).drew (by kernel_rfl) (by kernel_rfl) ?_
        repeat (go_big_quiet_step (first | (go_at_call 52; with_reducible exact Calls.in_below (HE'.out _))))
        refine wpQuiet_nil ?_
        rintro _ ⟨nq, rfl⟩
        have hbq := nq.h
        obtain ⟨w5, hw5⟩ : ∃ y, nq.W = y := ⟨_, rfl⟩
        rw [hw5] at hbq ⊢
        have hbw2 := hbw.trans (hbq.mono hbw.size)
        clear g2 g3 g4 g5 hw5 hc hd c2 c3
        by_cases hv : x = y
        · have HB := hide (HT.out hv)
          rw [show eqL x y = true from decide_eq_true hv]
          clear hv
          go_wp2
          go_roundw
          case rel => exact ⟨k + 1, by omega, by go_num, HB, hbw2⟩
          case measure => simp [intOf]; omega
        · have HB := hide (HF.out hv)
          rw [show eqL x y = false from decide_eq_false hv]
          clear hv
          go_wp2
          go_ret
          exact ⟨by rw [HB.out]; rfl, hb0.trans (hbw2.mono hb0.size)⟩
      · have HB := hide (eqL_all (show xs.length ≤ k by rw [Hn.out]; omega) (show ys.length ≤ k by rw [Hm'.out]; omega) hN.out)
        go_wp2
        go_ret
        exact ⟨by rw [HB.out]; rfl, hb0.trans (hbw.mono hb0.size)⟩
  · have HB := hide (eqL_len (a := xs) (b := ys) (by rw [Hn.out, Hm'.out]; exact hnm))
    have q : ((n : Int) != (m : Int)) = true := by simp; omega
    clear hnm
    go_enter Tryd.func19, Tryd.ntmps19
    go_wp2
    go_ret
    exact ⟨by rw [HB.out]; rfl, ((Below.refl _ _).alloc (Nat.le_refl _) _).alloc (by simp) _⟩
theorem make_next0 {l : List Nat} {w wr W w7 : World} {b4 f' m j c5 c7 : Nat} {pre : List (List Nat)} {cur : List Nat} {v : Value} {cs : List Value} {A5 A7 : Option Addr}
    (hbw : Below w.heap.size w wr) (hkf : m ≤ 4 ^ (f' + 1)) (hlt : 1 < m) (hlv : pre ++ cur :: lvD f' (upD cur) = treeD l) (hpf : pre.length + (f' + 1) ≤ 6) (hk4 : m ≤ 4096) (hm : cur.length = m)
    (hr5 : Rd W A5 (u32s (upD cur))) (ha5 : ∀ a, A5 = some a → wr.heap.size ≤ a.block ∧ a.block < W.heap.size) (hc5 : j ≤ c5) (hc63 : c5 ≤ 9223372036854775807) (hul : (upD cur).length = j) (x5 : Below wr.heap.size wr W) (hnb : Below W.heap.size W (W.alloc (.cells #[.slice A5 j c5] 25)))
    (hg7 : (W.alloc (.cells #[.slice A5 j c5] 25)).grownBy w7 v.ownBlock) (hv7 : (Value.slice A7 (pre.length + 1 + 1) c7).ownBlock = v.ownBlock ∨ (Value.slice A7 (pre.length + 1 + 1) c7).ownBlock = some (W.alloc (.cells #[.slice A5 j c5] 25)).heap.size)
    (hO7 : w7.ownsRow (w.heap.size + 1) 25 1 (.slice A7 (pre.length + 1 + 1) c7) (pre.length + 1 + 1) (cs ++ [.slice A5 j c5])) (hCo : wr.ownsRow (w.heap.size + 1) 25 1 v (pre.length + 1) cs)
    (hCr : tyRow32.Rows wr (fun b => w.heap.size + 1 ≤ b ∧ b ≠ b4 ∧ some b ≠ v.ownBlock) (pre ++ [cur]) cs) (E2 : Blk w7 w.heap.size [.slice none 0 0] 29) (E4 : Blk w7 b4 [v] 29) (hb4lt : b4 < wr.heap.size) (hb4 : w.heap.size < b4) (hne4 : v.ownBlock ≠ some b4) :
    MakeI l w b4 (.slice A5 j c5) (w7.setCell ⟨b4, 0, none⟩ (.slice A7 (pre.length + 1 + 1) c7)) := by
  have hz := hbw.size
  have z5 := x5.size
  have hlov := ownRow_lt hCo
  have zn : (W.alloc (.cells #[.slice A5 j c5] 25)).heap.size = W.heap.size + 1 := World.size_alloc _ _
  rw [zn] at hv7
  have hv7' : ∀ b, b < W.heap.size → some b ≠ v.ownBlock → some b ≠ (Value.slice A7 (pre.length + 1 + 1) c7).ownBlock := fun b hb hne e => by
    rcases hv7 with h | h
    · exact hne (e.trans h)
    · have := e.trans h; injection this with this; omega
  have hne7 : (Value.slice A7 (pre.length + 1 + 1) c7).ownBlock ≠ some b4 := fun e => hv7' b4 (by omega) (fun h => hne4 h.symm) e.symm
  have hA5 : ∀ a, A5 = some a → some a.block ≠ v.ownBlock := fun a ha e => by have := (hlov _ e.symm).2; have := (ha5 a ha).1; omega
  have hrf : Rd (w7.setCell ⟨b4, 0, none⟩ (.slice A7 (pre.length + 1 + 1) c7)) A5 (u32s (upD cur)) :=
    ((hr5.below hnb).grown hg7 hA5).grown (setCell_grown _ _ _ _) (fun a ha e => by injection e with e; have := (ha5 a ha).1; omega)
  have hj1 : 1 ≤ j := by rw [← hul, upD_length, hm]; exact upN_pos (by omega)
  have hjm : j < m := by rw [← hul, upD_length, hm]; exact upN_lt hlt
  have hRh : tyRow32.Rows wr (fun b => (w.heap.size + 1 ≤ b ∧ b ≠ b4 ∧ some b ≠ v.ownBlock) ∧ b < wr.heap.size) (pre ++ [cur]) cs := ⟨hCr.1, fun i x hx => (hCr.2 i x hx).here⟩
  have hR7 := ((hRh.below x5).below hnb).grown hg7 (fun b hb => hb.1.2.2)
  have hRf := hR7.grown (setCell_grown w7 b4 0 (.slice A7 (pre.length + 1 + 1) c7)) (fun b hb e => by injection e with e; exact hb.1.2.1 e)
  refine ⟨f', pre ++ [cur], upD cur, A5, c5, .slice A7 (pre.length + 1 + 1) c7, cs ++ [.slice A5 j c5], by rw [hul], by rw [hul]; exact hc5, hc63, by rw [hul]; exact hj1, ?_, by omega, ?_, by simp; omega, upD_lt cur, hrf, ?_, E2.apart (by omega) _ _, ?_, ?_, ?_, ?_⟩
  · rw [upD_length, hm]; exact upN_pow hkf
  · rw [List.append_assoc]; exact hlv
  · exact fun a ha => ⟨by have := (ha5 a ha).1; omega, hv7' _ (ha5 a ha).2 (hA5 a ha)⟩
  · exact E4.set 0 _
  · rw [List.length_append, List.length_singleton]
    exact ownRow_grown hO7 (setCell_grown _ _ _ _) (fun g hg e => hne7 (by rw [hg, e]))
  · refine (hRf.mono (fun b hb => ⟨hb.1.1, hb.1.2.1, hv7' b (by have := hb.2; omega) hb.1.2.2⟩)).snoc (row32_mk hul hc5 hc63 hrf (fun _ a ha => ⟨?_, ?_, hv7' _ (ha5 a ha).2 (hA5 a ha)⟩) (upD_lt cur))
    · have := (ha5 a ha).1; omega
    · have := (ha5 a ha).1; omega
  · have h1 := (hbw.trans (x5.mono hz)).trans (hnb.mono (by omega))
    have h2 := h1.grown hg7 h1.size (fun k e => by have := (hlov k e).1; omega)
    exact h2.setCell (by show w.heap.size ≤ b4; omega) _
end Go.Proofs.YtcpnobhdogpfiaaDoor
