/- The rows on the way up, one by one; slices.Backward over a tree's levels. -/
import Derived.Test.YtcpnobhdogpfiaaDoorF25c
namespace Go.Proofs.YtcpnobhdogpfiaaDoor
set_option maxRecDepth 20000
open Go.RowKit Go.Px Go.Shelf
set_option linter.unusedVariables false
attribute [local go_sem] Oper.semAt_some
def itN : Nat → Nat → Nat
  | 0, n => n
  | k + 1, n => upN (itN k n)
def itI : Nat → Nat → Nat
  | 0, i => i
  | k + 1, i => itI k i / 4
theorem itN_le (k : Nat) {n : Nat} (h : 1 ≤ n) : itN k n ≤ n ∧ 1 ≤ itN k n := by
  induction k with
  | zero => exact ⟨Nat.le_refl _, h⟩
  | succ k ih => simp only [itN]; unfold upN; omega
theorem itI_lt (k : Nat) {n i : Nat} (h : i < n) : itI k i < itN k n := by
  induction k with
  | zero => exact h
  | succ k ih => exact up_place ih
theorem steps_any (N I : Int) (w : World) : Calls Tryd.prog 57 #[.int .i64 N, .int .i64 I] w fun e w' =>
    e = .returned (.func (.func 73) #[] #[.pointer (some ⟨w.heap.size, 0, none⟩), .pointer (some ⟨w.heap.size + 1, 0, none⟩)]) ∧
    w' = (w.alloc (.cells #[.int .i64 N] 3)).alloc (.cells #[.int .i64 I] 3) := by
  go_enter Tryd.func57, Tryd.ntmps57
  go_wp2
  go_ret
  exact ⟨rfl, rfl⟩
def encS (N I j : Nat) : Array Value := #[.agg #[.int .i64 (j : Int), .int .i64 ((itI j I : Nat) : Int), .int .i64 (((itI j I : Nat) : Int) / 4 * 4), .int .i64 ((min (itI j I / 4 * 4 + 4) (itN j N) : Nat) : Int)]]
set_option maxRecDepth 100000 in
set_option maxHeartbeats 3200000 in
theorem steps_iter (n : Nat) (hn : 1 ≤ n) (l bn bi : Nat) (N P : Nat) (hP : P < N) (hN : N ≤ 1099511627776) (hne : bn ≠ bi) (I M : Nat → World → Prop)
    (hI : ∀ j W, I j W → W.cell? ⟨bn, 0, none⟩ = some (.int .i64 (itN j N : Nat)) ∧ W.cell? ⟨bi, 0, none⟩ = some (.int .i64 (itI j P : Nat)))
    (hId : ∀ j W k, I j W → I j (W.drewN k))
    (hM : ∀ j W, M j W → Blk W bn [.int .i64 (itN j N : Nat)] 3 ∧ Blk W bi [.int .i64 (itI j P : Nat)] 3 ∧ I (j + 1) ((W.setCell ⟨bi, 0, none⟩ (.int .i64 (itI (j + 1) P : Nat))).setCell ⟨bn, 0, none⟩ (.int .i64 (itN (j + 1) N : Nat)))) :
    IterBy n Tryd.prog 73 #[.pointer (some ⟨bn, 0, none⟩), .pointer (some ⟨bi, 0, none⟩)] l (encS N P) (fun j => 1 < itN j N) I M := by
  intro J K Y h1 h2 h2' h3 hY W h0
  refine callsIn_of_wp Tryd.func73 rfl trivial ?_ rfl
  simp only [Tryd.ntmps73, List.size_toArray, List.length_cons, List.length_nil, Nat.reduceAdd, Nat.reduceSub, Array.replicate_succ, Array.replicate_zero, List.push_toArray, List.append_toArray, List.nil_append, List.cons_append]
  gi_wp2
  gi_loopw [4] (fun i wr => ∃ j : Nat, i = .int .i64 (j : Int) ∧ itN j N + j ≤ N ∧ J j wr) (fun i _ => N - (intOf i).toNat)
  case atStart => exact ⟨0, rfl, by simp [itN], h0⟩
  case round =>
    obtain ⟨j, rfl, hj4, hJ⟩ := hrel
    obtain ⟨c1, c2⟩ := hI j wr (h1 j wr hJ)
    by_cases hlt : 1 < itN j N
    · have hil := itI_lt j hP
      have hnl := (itN_le j (show 1 ≤ N by omega)).1
      have hup := upN_lt hlt
      have hy0 : ∀ k, YieldAt Fence.wide (n - 1) Tryd.prog l (encS N P j) (wr.drewN k) fun e W' => (e = .returned (.bool true) ∧ K j W') ∨ (e = .returned (.bool false) ∧ Y W') := fun k => hY j _ (h2' j wr _ hJ (keepsDrewN _ _) (hId _ _ _ (h1 _ _ hJ))) hlt
      have hM' := fun W3 hK3 => hM j W3 (h2 j W3 hK3)
      unfold encS at hy0
      simp only [itN, itI] at hM'
      obtain ⟨x, hx⟩ : ∃ x, itN j N = x := ⟨_, rfl⟩
      obtain ⟨i, hi⟩ : ∃ i, itI j P = i := ⟨_, rfl⟩
      rw [hx, hi] at hil hM' hy0
      rw [hx] at hlt hj4 hup hnl c1
      rw [hi] at c2
      have HM := hide hM'
      have H2 := hide h2'
      have Hx := hide hx
      have Hi := hide hi
      have hux : upN x = (x + 3) / 4 := rfl
      obtain ⟨z, hz⟩ : ∃ z, upN x = z := ⟨_, rfl⟩
      rw [hz] at hup hux
      clear hx hi hM'
      obtain ⟨fn, tmps, assign, body, hy, hR⟩ := hy0 0
      rw [show wr.drewN 0 = wr from rfl] at hy hR
      rcases (show x < i / 4 * 4 + 4 ∨ i / 4 * 4 + 4 ≤ x by omega) with hs | hs
      all_goals
        first | rw [Nat.min_eq_right (Nat.le_of_lt hs)] at hy | rw [Nat.min_eq_left hs, show ((i / 4 * 4 + 4 : Nat) : Int) = (i : Int) / 4 * 4 + 4 by omega] at hy
        have Hz := hide hz
        have hzi : ((x : Int) + 4 - 1) / 4 = (z : Int) := by omega
        clear hz hux
        gi_wp2
        refine hR.mono ?_
        rintro e W3 (⟨rfl, hK3⟩ | ⟨rfl, hY3⟩)
        · obtain ⟨b1, b2, i3⟩ := HM.out W3 hK3
          rw [Hz.out, show ((i / 4 : Nat) : Int) = (i : Int) / 4 by omega] at i3
          have d1 := b1.cell (j := 0) rfl
          have d2 := b2.cell (j := 0) rfl
          have f2 := b2.frozen 0
          have b3 := b1.apart hne 0 (.int .i64 ((i : Int) / 4))
          have d3 := b3.cell (j := 0) rfl
          have f3 := b3.frozen 0
          gi_wp2
          go_roundw
          case rel => exact ⟨j + 1, by go_num, by show upN (itN j N) + (j + 1) ≤ N; rw [Hx.out, Hz.out]; omega, h3 j W3 _ hK3 ((KeepsOthers.setCell _ _ _).trans (KeepsOthers.setCell _ _ _)) i3⟩
          case measure => simp [intOf]; omega
        · gi_wp2
          refine bodyPost_ret (results_none rfl _ _ _) rfl ?_
          exact ⟨⟨_, rfl⟩, .inr hY3⟩
    · gi_wp2
      go_end0
      exact ⟨⟨_, rfl⟩, .inl ⟨j, hJ, hlt⟩⟩
/-- What a round of a range backwards over levels is handed. -/
def encB (vs : List Value) (L j : Nat) : Array Value := #[.int .i64 ((L - 1 - j : Nat) : Int), (vs[L - 1 - j]?).getD undef]
theorem backward_any (A : Option Addr) (n c : Nat) (w : World) : Calls Tryd.prog 58 #[.slice A n c] w fun e w' =>
    e = .returned (.func (.func 74) #[] #[.pointer (some ⟨w.heap.size, 0, none⟩)]) ∧ w' = w.alloc (.cells #[.slice A n c] 27) := by
  go_enter Tryd.func58, Tryd.ntmps58
  go_wp2
  go_ret
  exact ⟨rfl, rfl⟩
set_option maxRecDepth 100000 in
set_option maxHeartbeats 3200000 in
theorem backward_iter (n : Nat) (hn : 1 ≤ n) (l bs : Nat) (A : Option Addr) (L c : Nat) (vs : List Value) (hvs : vs.length = L) (hL : L ≤ 1099511627776) (I M : Nat → World → Prop)
    (hI : ∀ j W, I j W → W.cell? ⟨bs, 0, none⟩ = some (.slice A L c) ∧ Rd W A vs)
    (hId : ∀ j W k, I j W → I j (W.drewN k))
    (hM : ∀ j W, M j W → I (j + 1) W) :
    IterBy n Tryd.prog 74 #[.pointer (some ⟨bs, 0, none⟩)] l (encB vs L) (fun j => j < L) I M := by
  intro J K Y h1 h2 h2' h3 hY W h0
  have Hvs := hide hvs
  clear hvs
  refine callsIn_of_wp Tryd.func74 rfl trivial ?_ rfl
  simp only [Tryd.ntmps74, List.size_toArray, List.length_cons, List.length_nil, Nat.reduceAdd, Nat.reduceSub, Array.replicate_succ, Array.replicate_zero, List.push_toArray, List.append_toArray, List.nil_append, List.cons_append]
  have c0 := (hI 0 W (h1 0 W h0)).1
  gi_wp2
  clear c0
  gi_loopw [3] (fun i wr => ∃ j : Nat, i = .int .i64 ((L : Int) - 1 - (j : Int)) ∧ j ≤ L ∧ J j wr) (fun i _ => (intOf i + 1).toNat)
  case atStart => exact ⟨0, by simp, by omega, h0⟩
  case round =>
    obtain ⟨j, rfl, hj4, hJ⟩ := hrel
    obtain ⟨c1, c2⟩ := hI j wr (h1 j wr hJ)
    by_cases hlt : j < L
    · have hkl : L - 1 - j < vs.length := by rw [Hvs.out]; omega
      obtain ⟨a, rfl, hc⟩ := c2 (L - 1 - j) _ (List.getElem?_eq_getElem hkl)
      obtain ⟨fn, tmps, assign, body, hy, hR⟩ := hY j wr hJ hlt
      have e0 : encB vs L j = #[.int .i64 ((L - 1 - j : Nat) : Int), vs[L - 1 - j]] := by
        unfold encB; rw [List.getElem?_eq_getElem hkl]; rfl
      rw [e0] at hy
      obtain ⟨v, hv⟩ : ∃ v, vs[L - 1 - j] = v := ⟨_, rfl⟩
      rw [hv] at hy hc
      obtain ⟨q, hq⟩ : ∃ q, L - 1 - j = q := ⟨_, rfl⟩
      rw [hq] at hy hc
      have hqi : (L : Int) - 1 - (j : Int) = (q : Int) := by omega
      have Hqi := hide hqi
      have hqL : q < L := by omega
      rw [hqi]
      have H2 := hide h2'
      clear hq hqi hv e0 hkl h2' hlt
      gi_wp2
      refine hR.mono ?_
      rintro e W3 (⟨rfl, hK3⟩ | ⟨rfl, hY3⟩)
      · have i3 := hM j W3 (h2 j W3 hK3)
        gi_wp2
        go_roundw
        case rel => exact ⟨j + 1, by have h := Hqi.out; rw [show ((L : Int) - 1 - ((j + 1 : Nat) : Int)) = (q : Int) - 1 by omega], by have h := Hqi.out; omega, h3 j W3 W3 hK3 (KeepsOthers.refl _) i3⟩
        case measure => first | (simp [intOf]; done) | (simp [intOf]; omega)
      · gi_wp2
        refine bodyPost_ret (results_none rfl _ _ _) rfl ?_
        exact ⟨⟨_, rfl⟩, .inr hY3⟩
    · have hj : j = L := by omega
      subst hj
      have e1 : (j : Int) - 1 - (j : Int) = -1 := by omega
      rw [e1]
      gi_wp2
      go_end0
      exact ⟨⟨_, rfl⟩, .inl ⟨j, hJ, hlt⟩⟩
end Go.Proofs.YtcpnobhdogpfiaaDoor
