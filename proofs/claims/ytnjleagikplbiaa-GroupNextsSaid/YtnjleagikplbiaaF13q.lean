/- plinthref13.Next. -/
import Derived.Test.YtnjleagikplbiaaF13n
namespace Go.Proofs.Ytnjleagikplbiaa
open Go.RowKit Go.Px
set_option linter.unusedVariables false

def nextK (ms add dr : List Int) (k : Nat) : List Int := ((List.range k).map Int.ofNat).filter fun x => (inB ms x || inB add x) && !inB dr x
theorem nextK_succ (ms add dr : List Int) (k : Nat) : nextK ms add dr (k + 1) = nextK ms add dr k ++ (if ((inB ms (k : Int) || inB add (k : Int)) && !inB dr (k : Int)) = true then [(k : Int)] else []) := by
  unfold nextK
  rw [List.range_succ, List.map_append, List.filter_append]
  congr 1
  show List.filter _ [((k : Nat) : Int)] = _
  rw [List.filter_cons, List.filter_nil]
theorem nextK_le (ms add dr : List Int) (k : Nat) : (nextK ms add dr k).length ≤ k := by
  unfold nextK
  refine Nat.le_trans (List.length_filter_le _ _) ?_
  simp
theorem nextK_skip {ms add dr : List Int} {k : Nat} (h : ((inB ms (k : Int) || inB add (k : Int)) && !inB dr (k : Int)) = false) : nextK ms add dr (k + 1) = nextK ms add dr k := by
  rw [nextK_succ, h]; simp
theorem nextK_take {ms add dr : List Int} {k : Nat} (h : ((inB ms (k : Int) || inB add (k : Int)) && !inB dr (k : Int)) = true) : nextK ms add dr (k + 1) = nextK ms add dr k ++ [(k : Int)] := by
  rw [nextK_succ, h]; simp
theorem own_block_ge {w : World} {base e n : Nat} {v : Value} {xs : List Value} (h : w.ownsRow base e 1 v n xs) : ∀ b, v.ownBlock = some b → base ≤ b := fun b hb => by
  obtain ⟨A, c, rfl, _, _, _, _, hlt⟩ := own_out h
  cases A with
  | none => cases hb
  | some a => injection hb with hb; rw [← hb]; exact (hlt a rfl).1
theorem nextBad_take {add dr : List Int} {k : Nat} (h : k < add.length) (h0 : nextBad (add.take k) dr = false) (hb : (decide (add[k] < 0 ∨ 64 ≤ add[k]) && !inB dr add[k]) = false) : nextBad (add.take (k + 1)) dr = false := by
  unfold nextBad at *
  rw [List.take_succ_eq_append_getElem h, List.any_append, h0]
  simpa using hb
theorem nextBad_here {add dr : List Int} {k : Nat} (h : k < add.length) (hb : (decide (add[k] < 0 ∨ 64 ≤ add[k]) && !inB dr add[k]) = true) : nextBad add dr = true := by
  unfold nextBad
  rw [List.any_eq_true]
  exact ⟨_, List.getElem_mem h, hb⟩

set_option maxHeartbeats 1600000 in
theorem rnext_any (e : Int) (A : Option Addr) (n c : Nat) (ms : List Int) (A1 : Option Addr) (n1 c1 : Nat) (add : List Int) (A2 : Option Addr) (n2 c2 : Nat) (dr : List Int) (w : World)
    (hn : ms.length = n) (hn1 : add.length = n1) (hn2 : dr.length = n2) (h1 : n1 ≤ 100) (h2 : n2 ≤ 100) (h0 : n ≤ 100) (hr : Rd w A (ints ms)) (hr1 : Rd w A1 (ints add)) (hr2 : Rd w A2 (ints dr)) (he1 : -9223372036854775808 ≤ e) (he2 : e ≤ 9223372036854775807) :
    Calls Try.prog 25 #[grp e A n c, .slice A1 n1 c1, .slice A2 n2 c2] w (NextIs e ms add dr w) := by
  obtain ⟨g, hg⟩ : ∃ g, w.heap.size = g := ⟨_, rfl⟩
  obtain ⟨w0, hw0⟩ : ∃ w0, (w.alloc (.cells #[.int .i64 e, .slice A n c] 24)).alloc (.cells #[.int .i64 0, .slice none 0 0] 24) = w0 := ⟨_, rfl⟩
  have hG : Blk w0 g [.int .i64 e, .slice A n c] 24 := by rw [← hw0, ← hg]; exact (Blk.new w [.int .i64 e, .slice A n c] _).alloc _
  have hR : Blk w0 (g + 1) [.int .i64 0, .slice none 0 0] 24 := by
    rw [← hw0, ← hg]
    have := Blk.new (w.alloc (.cells #[.int .i64 e, .slice A n c] 24)) [.int .i64 0, .slice none 0 0] 24
    rwa [World.size_alloc] at this
  have hb0 : Below w.heap.size w w0 := by rw [← hw0]; exact ((Below.refl _ _).alloc (Nat.le_refl _) _).alloc (by simp) _
  have hr0 := hr.below hb0
  have k0 := hG.cell (j := 0) rfl
  have k1 := hG.cell (j := 1) rfl
  have Hn := hide hn
  have Hn1 := hide hn1
  have Hn2 := hide hn2
  clear hn hn1 hn2
  go_enter Try.func25, Try.ntmps25
  go_wp2_with fail
  go_fit (rcheck_any e A n c ms w0 Hn.out hr0)
  rcases bool_two (grpOk e ms) with hq | hq
  · have HC := hide (chk_ok hq)
    rw [HC.out]
    have hnum := grpOk_num hq
    have Hq := hide hq
    clear hq
    rintro x w1 ⟨rfl, hb1⟩
    have hG1 := hG.below hb1
    have hR1 := hR.below hb1
    have hb01 := hb0.trans (hb1.mono hb0.size)
    have j0 := hG1.cell (j := 0) rfl
    have j1 := hG1.cell (j := 1) rfl
    have fail130 : ∀ X, Below w1.heap.size w1 X → nextE e ms add dr = 130 → True := fun _ _ _ => trivial
    by_cases hmax : e = 4611686018427387904
    · have hE : nextE e ms add dr = 130 := by
        unfold nextE; rw [if_neg]; rintro ⟨_, _, h⟩
        have := (grpOk_num h).2; omega
      have HN := hide (next_no hE)
      have HE := hide hE
      have q0 := hR1.cell (j := 0) rfl
      have q1 := hR1.cell (j := 1) rfl
      have q2 := hR1.frozen 0
      have q3 := hR1.frozen 1
      clear hE fail130
      have hmax' : (4611686018427387904 : Int) ≤ e := by omega
      go_wp2
      refine bodyPost_ret (results_cell2 rfl rfl ((hR1.set 0 _).set 1 _) Try.underlying24 rfl (by kernel_rfl)) rfl ?_
      refine ⟨none, 0, ?_, ?_, ?_⟩
      · rw [HN.out.1, HN.out.2, HE.out]; rfl
      · rw [HN.out.2]; exact Rd.nil
      · exact (hb01.setCell (by show w.heap.size ≤ g + 1; omega) _).setCell (by show w.heap.size ≤ g + 1; omega) _
    · have hlt : e < 4611686018427387904 := by omega
      clear fail130 hmax
      go_wp2
      have Hlt := hide hlt
      have hN2 := Blk.new w1 [.int .i64 (e + 1), .slice none 0 0] 24
      have hG2 := hG1.alloc (.cells #[.int .i64 (e + 1), .slice none 0 0] 24)
      have hR2 := hR1.alloc (.cells #[.int .i64 (e + 1), .slice none 0 0] 24)
      have hb02 := hb01.alloc hb01.size (.cells #[.int .i64 (e + 1), .slice none 0 0] 24)
      have hg9 : w1.heap.size < (w1.alloc (.cells #[.int .i64 (e + 1), .slice none 0 0] 24)).heap.size := by simp
      obtain ⟨g9, hg9e⟩ : ∃ g9, w1.heap.size = g9 := ⟨_, rfl⟩
      obtain ⟨W, hW⟩ : ∃ W, w1.alloc (.cells #[.int .i64 (e + 1), .slice none 0 0] 24) = W := ⟨_, rfl⟩
      have hgg9 : g + 1 < g9 := by rw [← hg9e]; exact hR1.lt
      rw [hW, hg9e]
      rw [show (#[Value.int .i64 (e + 1), .slice none 0 0] : Array Value) = [Value.int .i64 (e + 1), .slice none 0 0].toArray from rfl] at hW
      rw [hW] at hN2 hG2 hR2 hb02 hg9
      rw [hg9e] at hN2 hg9
      have hrd := hr2.below hb02
      have hra := hr1.below hb02
      clear j0 j1 k0 k1
      go_loop [10] (fun i => ∃ k : Nat, k ≤ n1 ∧ i = .int .i64 k ∧ Hid (nextBad (add.take k) dr = false)) (fun i => n1 - (intOf i).toNat)
      case atStart => exact ⟨0, by omega, rfl, hide (by unfold nextBad; simp)⟩
      case round =>
        obtain ⟨k, hk, rfl, hB⟩ := hrel
        by_cases hkn : k < n1
        · have hkl : k < add.length := by rw [Hn1.out]; exact hkn
          obtain ⟨a, ha, hc⟩ := hra k _ (ints_get hkl)
          obtain ⟨y, hy⟩ : ∃ y, add[k] = y := ⟨_, rfl⟩
          rw [hy] at hc
          subst ha
          have HIn := hide (rin_any A2 n2 c2 dr y W Hn2.out (by omega) hrd)
          by_cases hyr : y < 0 ∨ 64 ≤ y
          · rcases bool_two (inB dr y) with hd | hd
            · have HB := hide (nextBad_take hkl hB.out (by rw [hy, hd]; simp))
              have Hd := hide hd
              clear hy hd
              by_cases hy0 : y < 0
              · clear hyr
                go_wp2_with fail
                refine HIn.out.mono ?_
                rw [Hd.out]
                rintro x w2 ⟨rfl, rfl⟩
                go_wp2
                go_round
                case rel => exact ⟨k + 1, by omega, by go_num, HB⟩
                case measure => simp [intOf]; omega
              · have hy64 : 64 ≤ y := by omega
                clear hyr
                go_wp2_with fail
                refine HIn.out.mono ?_
                rw [Hd.out]
                rintro x w2 ⟨rfl, rfl⟩
                go_wp2
                go_round
                case rel => exact ⟨k + 1, by omega, by go_num, HB⟩
                case measure => simp [intOf]; omega
            · have hE : nextE e ms add dr = 130 := by
                have := nextBad_here hkl (dr := dr) (by rw [hy, hd]; simp [hyr])
                unfold nextE; rw [if_neg]; rintro ⟨_, h, _⟩
                rw [this] at h; cases h
              have HN := hide (next_no hE)
              have HE := hide hE
              have Hd := hide hd
              have q0 := hR2.cell (j := 0) rfl
              have q1 := hR2.cell (j := 1) rfl
              have q2 := hR2.frozen 0
              have q3 := hR2.frozen 1
              clear hy hd hE
              by_cases hy0 : y < 0
              · clear hyr
                go_wp2_with fail
                refine HIn.out.mono ?_
                rw [Hd.out]
                rintro x w2 ⟨rfl, rfl⟩
                go_wp2
                refine bodyPost_ret (results_cell2 rfl rfl ((hR2.set 0 _).set 1 _) Try.underlying24 rfl (by kernel_rfl)) rfl ?_
                refine ⟨none, 0, ?_, ?_, ?_⟩
                · rw [HN.out.1, HN.out.2, HE.out]; rfl
                · rw [HN.out.2]; exact Rd.nil
                · exact (hb02.setCell (by show w.heap.size ≤ g + 1; omega) _).setCell (by show w.heap.size ≤ g + 1; omega) _
              · have hy64 : 64 ≤ y := by omega
                clear hyr
                go_wp2_with fail
                refine HIn.out.mono ?_
                rw [Hd.out]
                rintro x w2 ⟨rfl, rfl⟩
                go_wp2
                refine bodyPost_ret (results_cell2 rfl rfl ((hR2.set 0 _).set 1 _) Try.underlying24 rfl (by kernel_rfl)) rfl ?_
                refine ⟨none, 0, ?_, ?_, ?_⟩
                · rw [HN.out.1, HN.out.2, HE.out]; rfl
                · rw [HN.out.2]; exact Rd.nil
                · exact (hb02.setCell (by show w.heap.size ≤ g + 1; omega) _).setCell (by show w.heap.size ≤ g + 1; omega) _
          · have HB := hide (nextBad_take hkl hB.out (by rw [hy, decide_eq_false hyr]; rfl))
            have hy0 : ¬ y < 0 := by omega
            have hy64 : ¬ 64 ≤ y := by omega
            clear hy hyr
            go_wp2
            go_round
            case rel => exact ⟨k + 1, by omega, by go_num, HB⟩
            case measure => simp [intOf]; omega
        · have HB := hide (show nextBad add dr = false by have := hB.out; rwa [List.take_of_length_le (by rw [Hn1.out]; omega)] at this)
          go_wp2
          have hown0 : W.ownsRow W.heap.size 3 1 (.slice none 0 0) 0 (ints []) := World.ownsRow_nil _ _ _ _
          go_loopw [11] (fun i wr => ∃ (k : Nat) (v : Value), k ≤ 64 ∧ i = .int .i64 k ∧ wr.ownsRow W.heap.size 3 1 v (nextK ms add dr k).length (ints (nextK ms add dr k)) ∧ Blk wr g9 [.int .i64 (e + 1), v] 24 ∧ Blk wr g [.int .i64 e, .slice A n c] 24 ∧ Blk wr (g + 1) [.int .i64 0, .slice none 0 0] 24 ∧ Below w.heap.size w wr ∧ W.heap.size ≤ wr.heap.size) (fun i _ => 64 - (intOf i).toNat)
          case atStart => exact ⟨0, _, by omega, rfl, hown0, hN2, hG2, hR2, hb02, Nat.le_refl _⟩
          case round =>
            obtain ⟨k, v, hk, rfl, hown, hN, hGr, hRr, hbw, hsz⟩ := hrel
            have m0 := hGr.cell (j := 0) rfl
            have m1 := hGr.cell (j := 1) rfl
            have m2 := hN.cell (j := 0) rfl
            have m3 := hN.cell (j := 1) rfl
            by_cases hk64 : k < 64
            · have HI1 := hide (rin_any A n c ms (k : Int) wr Hn.out (by omega) (hr.below hbw))
              have HI2 := hide (rin_any A1 n1 c1 add (k : Int) wr Hn1.out (by omega) (hr1.below hbw))
              have HI3 := hide (rin_any A2 n2 c2 dr (k : Int) wr Hn2.out (by omega) (hr2.below hbw))
              have hle := nextK_le ms add dr k
              rcases bool_two (inB ms (k : Int)) with b1 | b1
              · have h0 : True := trivial
                rcases bool_two (inB dr (k : Int)) with b3 | b3
                · have HS := hide (nextK_skip (ms := ms) (add := add) (dr := dr) (k := k) (by rw [b1, b3]; rfl))
                  have B1 := hide b1
                  have B3 := hide b3
                  clear b1 b3
                  go_wp2_with fail
                  refine HI1.out.mono ?_
                  rw [B1.out]
                  rintro x w5 ⟨rfl, rfl⟩
                  go_wp2_with fail
                  refine HI3.out.mono ?_
                  rw [B3.out]
                  rintro x w5 ⟨rfl, rfl⟩
                  go_wp2
                  go_roundw
                  case rel => exact ⟨k + 1, v, by omega, by go_num, by rw [HS.out]; exact hown, hN, hGr, hRr, hbw, hsz⟩
                  case measure => simp [intOf]; omega
                · have HS := hide (nextK_take (ms := ms) (add := add) (dr := dr) (k := k) (by rw [b1, b3]; rfl))
                  have HS2 := hide (show ints (nextK ms add dr k ++ [(k : Int)]) = ints (nextK ms add dr k) ++ [.int .i64 (k : Int)] by rw [ints_append]; rfl)
                  have B1 := hide b1
                  have B3 := hide b3
                  clear b1 b3
                  go_wp2_with fail
                  refine HI1.out.mono ?_
                  rw [B1.out]
                  rintro x w5 ⟨rfl, rfl⟩
                  go_wp2_with fail
                  refine HI3.out.mono ?_
                  rw [B3.out]
                  rintro x w5 ⟨rfl, rfl⟩
                  go_wp2_with (first | (with_reducible refine stop_append rfl ?_) | (with_reducible refine stop_copy rfl ?_) | (with_reducible refine stop_make rfl ?_))
                  refine go_append rfl rfl tInts rfl (own_below hown ((Below.refl _ _).alloc (Nat.le_refl _) _)) rfl (m := 1) rfl (Rd.new1 _ _ _) (fun u' hu' => by simp at hu'; subst hu'; rfl) (by omega) (by omega) (by simp; omega) ?_
                  intro v' w5 ho5 hg5 _
                  have hge := own_block_ge hown
                  have bk : ∀ b, b < W.heap.size → w5.heap[b]? = wr.heap[b]? := fun b hb => (hg5.block b (by simp; omega) (fun h => by have := hge b h.symm; omega)).trans (((Below.refl wr.heap.size wr).alloc (Nat.le_refl _) _).block b (by omega))
                  obtain ⟨A5, c5, rfl, _, _, _, _, _⟩ := own_out ho5
                  have hN5 : Blk w5 g9 _ _ := (bk g9 hg9).trans hN
                  have hG5 : Blk w5 g _ _ := (bk g (by omega)).trans hGr
                  have hR5 : Blk w5 (g + 1) _ _ := (bk (g + 1) (by omega)).trans hRr
                  have hb5 : Below w.heap.size w w5 := (hbw.alloc hbw.size _).grown hg5 (by have := hbw.size; simp; omega) (fun b hb => by have := hge b hb; omega)
                  have hs5 : W.heap.size ≤ w5.heap.size := by have := hg5.size; simp at this; omega
                  have r0 := hN5.cell (j := 1) rfl
                  have r1 := hN5.frozen 1
                  have Bk := hide bk
                  clear bk m0 m1 m2 m3
                  go_wp2
                  go_roundw
                  case rel => exact ⟨k + 1, _, by omega, by go_num, by rw [HS.out, HS2.out, List.length_append]; exact ownsRow_setCell_below ho5 (show (⟨g9, 1, none⟩ : Addr).block < W.heap.size from hg9) _, hN5.set 1 _, hG5.apart (by omega) 1 _, hR5.apart (by omega) 1 _, hb5.setCell (by show w.heap.size ≤ g9; omega) _, by simp; exact hs5⟩
                  case measure => simp [intOf]; omega
              · rcases bool_two (inB add (k : Int)) with b2 | b2
                · have h0 : True := trivial
                  rcases bool_two (inB dr (k : Int)) with b3 | b3
                  · have HS := hide (nextK_skip (ms := ms) (add := add) (dr := dr) (k := k) (by rw [b1, b2, b3]; rfl))
                    have B1 := hide b1
                    have B2 := hide b2
                    have B3 := hide b3
                    clear b1 b2 b3
                    go_wp2_with fail
                    refine HI1.out.mono ?_
                    rw [B1.out]
                    rintro x w5 ⟨rfl, rfl⟩
                    go_wp2_with fail
                    refine HI2.out.mono ?_
                    rw [B2.out]
                    rintro x w5 ⟨rfl, rfl⟩
                    go_wp2_with fail
                    refine HI3.out.mono ?_
                    rw [B3.out]
                    rintro x w5 ⟨rfl, rfl⟩
                    go_wp2
                    go_roundw
                    case rel => exact ⟨k + 1, v, by omega, by go_num, by rw [HS.out]; exact hown, hN, hGr, hRr, hbw, hsz⟩
                    case measure => simp [intOf]; omega
                  · have HS := hide (nextK_take (ms := ms) (add := add) (dr := dr) (k := k) (by rw [b1, b2, b3]; rfl))
                    have HS2 := hide (show ints (nextK ms add dr k ++ [(k : Int)]) = ints (nextK ms add dr k) ++ [.int .i64 (k : Int)] by rw [ints_append]; rfl)
                    have B1 := hide b1
                    have B2 := hide b2
                    have B3 := hide b3
                    clear b1 b2 b3
                    go_wp2_with fail
                    refine HI1.out.mono ?_
                    rw [B1.out]
                    rintro x w5 ⟨rfl, rfl⟩
                    go_wp2_with fail
                    refine HI2.out.mono ?_
                    rw [B2.out]
                    rintro x w5 ⟨rfl, rfl⟩
                    go_wp2_with fail
                    refine HI3.out.mono ?_
                    rw [B3.out]
                    rintro x w5 ⟨rfl, rfl⟩
                    go_wp2_with (first | (with_reducible refine stop_append rfl ?_) | (with_reducible refine stop_copy rfl ?_) | (with_reducible refine stop_make rfl ?_))
                    refine go_append rfl rfl tInts rfl (own_below hown ((Below.refl _ _).alloc (Nat.le_refl _) _)) rfl (m := 1) rfl (Rd.new1 _ _ _) (fun u' hu' => by simp at hu'; subst hu'; rfl) (by omega) (by omega) (by simp; omega) ?_
                    intro v' w5 ho5 hg5 _
                    have hge := own_block_ge hown
                    have bk : ∀ b, b < W.heap.size → w5.heap[b]? = wr.heap[b]? := fun b hb => (hg5.block b (by simp; omega) (fun h => by have := hge b h.symm; omega)).trans (((Below.refl wr.heap.size wr).alloc (Nat.le_refl _) _).block b (by omega))
                    obtain ⟨A5, c5, rfl, _, _, _, _, _⟩ := own_out ho5
                    have hN5 : Blk w5 g9 _ _ := (bk g9 hg9).trans hN
                    have hG5 : Blk w5 g _ _ := (bk g (by omega)).trans hGr
                    have hR5 : Blk w5 (g + 1) _ _ := (bk (g + 1) (by omega)).trans hRr
                    have hb5 : Below w.heap.size w w5 := (hbw.alloc hbw.size _).grown hg5 (by have := hbw.size; simp; omega) (fun b hb => by have := hge b hb; omega)
                    have hs5 : W.heap.size ≤ w5.heap.size := by have := hg5.size; simp at this; omega
                    have r0 := hN5.cell (j := 1) rfl
                    have r1 := hN5.frozen 1
                    have Bk := hide bk
                    clear bk m0 m1 m2 m3
                    go_wp2
                    go_roundw
                    case rel => exact ⟨k + 1, _, by omega, by go_num, by rw [HS.out, HS2.out, List.length_append]; exact ownsRow_setCell_below ho5 (show (⟨g9, 1, none⟩ : Addr).block < W.heap.size from hg9) _, hN5.set 1 _, hG5.apart (by omega) 1 _, hR5.apart (by omega) 1 _, hb5.setCell (by show w.heap.size ≤ g9; omega) _, by simp; exact hs5⟩
                    case measure => simp [intOf]; omega
                · have HS := hide (nextK_skip (ms := ms) (add := add) (dr := dr) (k := k) (by rw [b1, b2]; rfl))
                  have B1 := hide b1
                  have B2 := hide b2
                  clear b1 b2
                  go_wp2_with fail
                  refine HI1.out.mono ?_
                  rw [B1.out]
                  rintro x w5 ⟨rfl, rfl⟩
                  go_wp2_with fail
                  refine HI2.out.mono ?_
                  rw [B2.out]
                  rintro x w5 ⟨rfl, rfl⟩
                  go_wp2
                  go_roundw
                  case rel => exact ⟨k + 1, v, by omega, by go_num, by rw [HS.out]; exact hown, hN, hGr, hRr, hbw, hsz⟩
                  case measure => simp [intOf]; omega
            · obtain rfl : k = 64 := by omega
              have hK : nextK ms add dr 64 = nextL ms add dr := rfl
              have hle := nextK_le ms add dr 64
              rw [hK] at hown hle
              obtain ⟨l, hl⟩ : ∃ l, nextL ms add dr = l := ⟨_, rfl⟩
              have hasc : Asc l := by rw [← hl]; exact nextL_asc _ _ _
              rw [hl] at hown hle
              obtain ⟨Av, cv, rfl, _, hcv, hcmv, hrv, _⟩ := own_out hown
              unfold maxLen at hcmv
              clear hK
              rcases bool_two (grpOk (e + 1) l) with hq2 | hq2
              · have HC2 := hide (chk_ok hq2)
                have hE : nextE e ms add dr = 0 := by unfold nextE; rw [if_pos ⟨Hq.out, HB.out, by rw [hl]; exact hq2⟩]
                have HN := hide (next_yes hE)
                have HE := hide hE
                have Hl := hide hl
                clear hq2 hE hl hasc
                go_wp2_with fail
                go_fit (rcheck_any (e + 1) Av l.length cv l wr rfl hrv)
                rw [HC2.out]
                rintro x w6 ⟨rfl, hb6⟩
                have hN6 := hN.below hb6
                have hR6 := hRr.below hb6
                have o0 := hN6.cell (j := 0) rfl
                have o1 := hN6.cell (j := 1) rfl
                have q0 := hR6.cell (j := 0) rfl
                have q1 := hR6.cell (j := 1) rfl
                have q2 := hR6.frozen 0
                have q3 := hR6.frozen 1
                have hb06 := hbw.trans (hb6.mono hbw.size)
                have hown6 := own_below hown hb6
                go_wp2
                refine bodyPost_ret (results_cell2 rfl rfl ((hR6.set 0 _).set 1 _) Try.underlying24 rfl (by kernel_rfl)) rfl ?_
                refine ⟨Av, cv, ?_, ?_, ?_⟩
                · rw [HN.out.1, HN.out.2, HE.out, Hl.out]; rfl
                · rw [HN.out.2, Hl.out]
                  obtain ⟨Av', cv', hvv, _, _, _, hr6, _⟩ := own_out (ownsRow_setCell_below (ownsRow_setCell_below hown6 (show (⟨g + 1, 0, none⟩ : Addr).block < W.heap.size from by show g + 1 < _; omega) (.int .i64 (e + 1))) (show (⟨g + 1, 1, none⟩ : Addr).block < W.heap.size from by show g + 1 < _; omega) (.slice Av l.length cv))
                  injection hvv with a1 a2 a3
                  subst a1
                  exact hr6
                · exact (hb06.setCell (by show w.heap.size ≤ g + 1; omega) _).setCell (by show w.heap.size ≤ g + 1; omega) _
              · have HC2 := hide (chk_bad hq2)
                have hE : nextE e ms add dr = 130 := by unfold nextE; rw [if_neg]; rintro ⟨_, _, h⟩; rw [hl, hq2] at h; cases h
                have HN := hide (next_no hE)
                have HE := hide hE
                clear hq2 hE hl hasc
                go_wp2_with fail
                go_fit (rcheck_any (e + 1) Av l.length cv l wr rfl hrv)
                rw [HC2.out]
                rintro x w6 ⟨rfl, hb6⟩
                have hR6 := hRr.below hb6
                have q0 := hR6.cell (j := 0) rfl
                have q1 := hR6.cell (j := 1) rfl
                have q2 := hR6.frozen 0
                have q3 := hR6.frozen 1
                have hb06 := hbw.trans (hb6.mono hbw.size)
                go_wp2
                refine bodyPost_ret (results_cell2 rfl rfl ((hR6.set 0 _).set 1 _) Try.underlying24 rfl (by kernel_rfl)) rfl ?_
                refine ⟨none, 0, ?_, ?_, ?_⟩
                · rw [HN.out.1, HN.out.2, HE.out]; rfl
                · rw [HN.out.2]; exact Rd.nil
                · exact (hb06.setCell (by show w.heap.size ≤ g + 1; omega) _).setCell (by show w.heap.size ≤ g + 1; omega) _
  · have HC := hide (chk_bad hq)
    have hE : nextE e ms add dr = 130 := by unfold nextE; rw [if_neg (by rw [hq]; simp)]
    have HN := hide (next_no hE)
    have HE := hide hE
    rw [HC.out]
    clear hq hE
    rintro x w1 ⟨rfl, hb1⟩
    have hR1 := hR.below hb1
    have q0 := hR1.cell (j := 0) rfl
    have q1 := hR1.cell (j := 1) rfl
    have q2 := hR1.frozen 0
    have q3 := hR1.frozen 1
    have hb01 := hb0.trans (hb1.mono hb0.size)
    go_wp2
    refine bodyPost_ret (results_cell2 rfl rfl ((hR1.set 0 _).set 1 _) Try.underlying24 rfl (by kernel_rfl)) rfl ?_
    refine ⟨none, 0, ?_, ?_, ?_⟩
    · rw [HN.out.1, HN.out.2, HE.out]; rfl
    · rw [HN.out.2]; exact Rd.nil
    · exact (hb01.setCell (by show w.heap.size ≤ g + 1; omega) _).setCell (by show w.heap.size ≤ g + 1; omega) _
end Go.Proofs.Ytnjleagikplbiaa
