/- slices.Grow of nil, slices.Concat of two. -/
import Derived.Test.YtnjleagikplbiaaF13d
import Derived.Lib.AppendZerosOnto
namespace Go.Proofs.Ytnjleagikplbiaa
open Go.RowKit Go.Px
set_option linter.unusedVariables false

theorem own_take {w : World} {base e n c k : Nat} {A : Option Addr} {xs : List Value} (h : w.ownsRow base e 1 (.slice A n c) n xs) (hk : k ≤ n) : w.ownsRow base e 1 (.slice A k c) k (xs.take k) := by
  obtain ⟨h1, h2⟩ := h
  refine ⟨by rw [List.length_take, h1]; omega, ?_⟩
  rcases h2 with ⟨h3, h4⟩ | ⟨g, cap, cur, hv, hbg, hgg, hnc, hcm, hcs, ht⟩
  · injection h3 with a1 a2 a3
    subst a1 a2 a3
    obtain rfl : k = 0 := by omega
    exact .inl ⟨rfl, by simp⟩
  · injection hv with a1 a2 a3
    subst a1 a3
    refine .inr ⟨g, c, cur, rfl, hbg, hgg, by omega, hcm, hcs, ?_⟩
    rw [← ht, List.take_take]
    congr 1
    omega

/-- 'append(nil, make(n)...)', as the translation has it. -/
theorem go_zeros {w : World} {ops : Array Oper} {rest : List Oper} {o : Oper} {a : Act} {Q : Exit → Act → World → Prop} (hg : o.guard = none) {s x : Operand}
    (ho : o.op = .call { callee := .builtin .append, args := #[s, x], argTypes := #[22, 3] }) (hs : a.eval s = .slice none 0 0) {n : Nat} (hx : a.eval x = .int .i64 n) (hn1 : 1 ≤ n) (hn : n ≤ 100000)
    (h : ∀ A c w', w'.ownsRow w.heap.size 3 1 (.slice A n c) n ((w'.heap[w.heap.size]?.map (fun ob => match ob with | .cells cs _ _ => cs.toList.take n | _ => [])).getD []) → Below w.heap.size w w' → wpList Try.prog ops Q rest (a.put o.dst (.slice A n c)) w') :
    Stop (wpList Try.prog ops Q (o :: rest) a w) := by
  refine wpList_plain hg fun K hK => ?_
  obtain ⟨hu, ⟨i, z, hi, hz, hsz, hby, hzs⟩, hp⟩ := tInts
  have hrun := Lib.run_append_grow_zeros (P := Try.prog) w 22 3 o.type 3 i z .i64 .i64 hu Try.underlying3 hi hz none 0 0 [] (run_firstCells_none w.drew i.size 0 0 0) n (by omega) (by omega) (by omega) (by omega) (by rw [hby]; omega) (by rw [Nat.zero_add]; exact growslice_fits (by omega) (by rw [hby]; omega))
  rw [Nat.zero_add] at hrun
  have hge := grownCap_ge w n 0 3
  have hle := grownCap_le_maxLen w n 0 3 (by unfold maxLen; omega)
  obtain ⟨G, hG⟩ : ∃ G, grownCap w n 0 3 = G := ⟨_, rfl⟩
  rw [hG] at hrun hge hle
  unfold Oper.wp execOp
  simp only [ho, resolve, invoke, builtin, Sem.run_bind, Sem.run_pure, Result.andThen_ok, List.map_toArray, List.map_cons, List.map_nil, hs, hx, hrun]
  refine hK _ _ (h _ _ _ ?_ (((Below.refl _ _).drew).alloc (Nat.le_refl _) _))
  have := own_made (w := w.drew) (base := w.heap.size) (e := 3) (size := 1) ((([] : List Value).toArray ++ Builtin.zeroCells z.cells n ++ Builtin.zeroCells z.cells (G - n))) n G (Nat.le_refl _) hge hle (by simp [size_zeroCells, hzs]; omega)
  rw [Nat.mul_one] at this
  have e : (w.drew.alloc (.cells (([] : List Value).toArray ++ Builtin.zeroCells z.cells n ++ Builtin.zeroCells z.cells (G - n)) 3)).heap[w.heap.size]? = some (.cells (([] : List Value).toArray ++ Builtin.zeroCells z.cells n ++ Builtin.zeroCells z.cells (G - n)) 3) := heap_alloc_new w.drew _
  rw [e]
  exact this
set_option maxHeartbeats 400000 in
theorem sgrow_any (n : Nat) (w : World) (hn1 : 1 ≤ n) (hn : n ≤ 100000) :
    Calls Try.prog 41 #[.slice none 0 0, .int .i64 n] w fun e w' => ∃ A c, e = .returned (.slice A 0 c) ∧ w'.ownsRow w.heap.size 3 1 (.slice A 0 c) 0 [] ∧ Below w.heap.size w w' := by
  go_enter Try.func41, Try.ntmps41
  go_wp2_with (first | (with_reducible refine stop_append rfl ?_) | (with_reducible refine stop_copy rfl ?_) | (with_reducible refine stop_make rfl ?_))
  refine go_zeros rfl rfl rfl (n := n) rfl hn1 hn ?_
  intro A c w1 ho1 hb1
  obtain ⟨_, _, hv, _, hnc2, hcm2, _, _⟩ := own_out ho1
  injection hv with a1 a2 a3
  subst a1 a3
  unfold maxLen at hcm2
  have ho2 := own_take ho1 (Nat.zero_le _)
  rw [List.take_zero] at ho2
  clear ho1
  go_wp2
  go_ret
  exact ⟨_, _, rfl, ho2, hb1⟩

set_option maxHeartbeats 1600000 in
theorem concat_any (b : Nat) (A1 : Option Addr) (n1 c1 : Nat) (xs : List Int) (A2 : Option Addr) (n2 c2 cc : Nat) (ys : List Int) (w : World) (hn : xs.length = n1) (hm : ys.length = n2) (h1 : 1 ≤ n1) (h1' : n1 ≤ 1000) (h2 : n2 ≤ 1000) (hr : Rd w A1 (ints xs)) (hs : Rd w A2 (ints ys)) (hB : Blk w b [.slice A1 n1 c1, .slice A2 n2 c2] 22) :
    Calls Try.prog 32 #[.slice (some ⟨b, 0, none⟩) 2 cc] w fun e w' => ∃ v, e = .returned v ∧ w'.ownsRow w.heap.size 3 1 v (n1 + n2) (ints (xs ++ ys)) ∧ Below w.heap.size w w' := by
  have Hn := hide hn
  have Hm := hide hm
  have c0 := hB.cell (j := 0) rfl
  have c1' := hB.cell (j := 1) rfl
  clear hn hm
  go_enter Try.func32, Try.ntmps32
  go_wp2
  go_loop [3, 11] (fun s i => ∃ k : Nat, k ≤ 2 ∧ i = .int .i64 k ∧ s = .int .i64 ((if k = 0 then 0 else if k = 1 then n1 else n1 + n2 : Nat) : Int)) (fun _ i => 2 - (intOf i).toNat)
  case atStart => exact ⟨0, by omega, rfl, rfl⟩
  case round =>
    obtain ⟨k, hk, rfl, rfl⟩ := hrel
    obtain rfl | rfl | rfl : k = 0 ∨ k = 1 ∨ k = 2 := by omega
    · go_wp2
      go_round
      case rel => exact ⟨1, by omega, rfl, by simp⟩
      case measure => simp [intOf]
    · go_wp2
      go_round
      case rel => exact ⟨2, by omega, rfl, by simp⟩
      case measure => simp [intOf]
    · rw [if_neg (by omega), if_neg (by omega)]
      have hG := sgrow_any (n1 + n2) w (by omega) (by omega)
      rw [Int.natCast_add] at hG
      have HG := hide hG
      clear hG
      rw [Int.natCast_add]
      go_wp2_with fail
      refine HG.out.mono ?_
      rintro e w1 ⟨A, c, rfl, ho, hb⟩
      have hB1 := hB.below hb
      have d0 := hB1.cell (j := 0) rfl
      have d1 := hB1.cell (j := 1) rfl
      have hr1 := hr.below hb
      have hs1 := hs.below hb
      have hg0 : Grow w1 (.slice A 0 c) w.heap.size 3 1 w1 (.slice A 0 c) 0 [] := Grow.start ho hb.size
      have hgr : ∀ g, (Value.slice A 0 c).ownBlock = some g → w.heap.size ≤ g := fun g hg => by
        obtain ⟨A', c', hv, _, _, _, _, hlt⟩ := own_out ho
        injection hv with a1 a2 a3
        subst a1
        cases A with
        | none => cases hg
        | some a => injection hg with hg; rw [← hg]; exact (hlt a rfl).1
      have Hgr := hide hgr
      clear hgr c0 c1'
      go_wp2
      go_loopw [6, 27] (fun v i wr => ∃ k : Nat, k ≤ 2 ∧ i = .int .i64 k ∧ Grow w1 (.slice A 0 c) w.heap.size 3 1 wr v (if k = 0 then 0 else if k = 1 then n1 else n1 + n2) (if k = 0 then [] else if k = 1 then ints xs else ints (xs ++ ys))) (fun _ i _ => 2 - (intOf i).toNat)
      case atStart => exact ⟨0, by omega, rfl, hg0⟩
      case round =>
        obtain ⟨k, hk, rfl, hG⟩ := hrel
        have hbw : Below w.heap.size w wr := hG.allOf hb hb.size Hgr.out
        have hB2 := hB.below hbw
        have e0 := hB2.cell (j := 0) rfl
        have e1 := hB2.cell (j := 1) rfl
        clear d0 d1
        obtain rfl | rfl | rfl : k = 0 ∨ k = 1 ∨ k = 2 := by omega
        · replace hG : Grow w1 (.slice A 0 c) w.heap.size 3 1 wr _ 0 [] := hG
          go_wp2_with (first | (with_reducible refine stop_append rfl ?_) | (with_reducible refine stop_copy rfl ?_) | (with_reducible refine stop_make rfl ?_))
          refine hG.append rfl rfl tInts rfl rfl (by rw [ints_length, Hn.out, Nat.mul_one]) (hr.below hbw) (ints_one _) (by omega) (by omega) ?_
          intro v2 w2 hG2 _
          rw [Nat.zero_add, List.nil_append] at hG2
          go_wp2
          go_roundw
          case rel => exact ⟨1, by omega, rfl, hG2⟩
          case measure => simp [intOf]
        · replace hG : Grow w1 (.slice A 0 c) w.heap.size 3 1 wr _ n1 (ints xs) := hG
          go_wp2_with (first | (with_reducible refine stop_append rfl ?_) | (with_reducible refine stop_copy rfl ?_) | (with_reducible refine stop_make rfl ?_))
          refine hG.append rfl rfl tInts rfl rfl (by rw [ints_length, Hm.out, Nat.mul_one]) (hs.below hbw) (ints_one _) (by omega) (by omega) ?_
          intro v2 w2 hG2 _
          rw [← ints_append] at hG2
          go_wp2
          go_roundw
          case rel => exact ⟨2, by omega, rfl, hG2⟩
          case measure => simp [intOf]
        · replace hG : Grow w1 (.slice A 0 c) w.heap.size 3 1 wr _ (n1 + n2) (ints (xs ++ ys)) := hG
          go_wp2
          go_ret
          exact ⟨_, rfl, hG.owns, hbw⟩
end Go.Proofs.Ytnjleagikplbiaa
