/- The document's Make. -/
import Derived.Test.YtcpnobhdogpfiaaDoorF25m
namespace Go.Proofs.YtcpnobhdogpfiaaDoor
set_option maxRecDepth 20000
open Go.RowKit Go.Px
set_option linter.unusedVariables false
set_option maxRecDepth 100000 in
set_option maxHeartbeats 6400000 in
theorem rmake_any (A : Option Addr) (n c : Nat) (l : List Nat) (w : World) (hn : l.length = n) (hnc : n ≤ c) (hc63 : c ≤ 9223372036854775807) (hr : Rd w A (u32s l)) (hb : ∀ x ∈ l, x < 4294967296) (h1 : 1 ≤ n) (h2 : n ≤ 4096) :
    Calls Tryd.prog 14 #[.slice A n c] w fun e w' => ∃ B K C, e = .returned (.tuple #[.agg #[.slice B K C], .int .i64 0]) ∧ tyTree.Is w' (fun b => w.heap.size ≤ b) (treeD l) [.slice B K C] ∧ Below w.heap.size w w' := by
  have Hn := hide hn
  clear hn
  obtain ⟨w0, hw0⟩ : ∃ x, w.alloc (.cells #[.slice none 0 0] 29) = x := ⟨_, rfl⟩
  have hb0 : Below w.heap.size w w0 := by rw [← hw0]; exact (Below.refl _ _).alloc (Nat.le_refl _) _
  have z0 : w0.heap.size = w.heap.size + 1 := by rw [← hw0]; simp
  have hB0 : Blk w0 w.heap.size [.slice none 0 0] 29 := by rw [← hw0]; exact Blk.new w [.slice none 0 0] _
  have Hw0 := hide hw0
  have hr0 := hr.below hb0
  have q1 : decide ((n : Int) < 1) = false := decide_eq_false (by omega)
  have q2 : decide ((4096 : Int) < (n : Int)) = false := decide_eq_false (by omega)
  clear hw0
  go_enter Tryd.func14, Tryd.ntmps14
  go_wp2_with (first | (with_reducible refine stop_append rfl ?_))
  rw [Hw0.out]
  rw [← z0]
  refine (Grow.empty w0 _ _).append rfl rfl tU32 rfl rfl (by rw [u32s_length, Hn.out]; omega) (hr0.alloc _) (u32s_one _) (by omega) (by omega) ?_
  intro v1 w1 hG1 _
  rw [Nat.zero_add, List.nil_append] at hG1
  obtain ⟨A1, c1, rfl, _, hc1, hcm1, hr1, ha1⟩ := own_out hG1.owns
  have hb01 : Below w0.heap.size w0 w1 := hG1.emptyAll
  have z1 := hb01.size
  have hB2 := hB0.below hb01
  have hbw1 : Below w.heap.size w w1 := hb0.trans (hb01.mono hb0.size)
  go_wp2_with fail
  obtain ⟨w3, hw3⟩ : ∃ x, (w1.alloc (.cells #[.slice A1 n c1] 25)).alloc (.cells #[.slice (some ⟨w1.heap.size, 0, none⟩) 1 1] 29) = x := ⟨_, rfl⟩
  have hb13 : Below w1.heap.size w1 w3 := by rw [← hw3]; exact ((Below.refl _ _).alloc (Nat.le_refl _) _).alloc (by simp) _
  have z3 : w3.heap.size = w1.heap.size + 2 := by rw [← hw3]; simp
  have hB2' := hB2.below hb13
  have hB4 : Blk w3 (w1.heap.size + 1) [.slice (some ⟨w1.heap.size, 0, none⟩) 1 1] 29 := by
    rw [← hw3]
    have := Blk.new (w1.alloc (.cells #[.slice A1 n c1] 25)) [.slice (some ⟨w1.heap.size, 0, none⟩) 1 1] 29
    rwa [World.size_alloc] at this
  have hO : w3.ownsRow (w.heap.size + 1) 25 1 (.slice (some ⟨w1.heap.size, 0, none⟩) 1 1) 1 [.slice A1 n c1] := by
    have h := own_made (w := w1) (base := w.heap.size + 1) (e := 25) (size := 1) #[.slice A1 n c1] 1 1 (by omega) (Nat.le_refl _) (by decide) rfl
    have h' := own_below h ((Below.refl _ _).alloc (Nat.le_refl _) (.cells #[.slice (some ⟨w1.heap.size, 0, none⟩) 1 1] 29))
    rw [← hw3]; exact h'
  have hR0 : tyRow32.Rows w3 (fun b => w.heap.size + 1 ≤ b ∧ b ≠ w1.heap.size + 1 ∧ some b ≠ (Value.slice (some ⟨w1.heap.size, 0, none⟩) 1 1).ownBlock) [l] [.slice A1 n c1] := by
    refine Ty.Rows.one (row32_mk Hn.out hc1 (by unfold maxLen at hcm1; omega) (hr1.below hb13) (fun _ a ha => ?_) hb)
    have := ha1 a ha
    refine ⟨by omega, by omega, fun e => ?_⟩
    simp [Value.ownBlock] at e
    omega
  have hrl := (hr.below hbw1).below hb13
  have hAl : ∀ a, A = some a → a.block < w.heap.size := rd_block hr (fun e => by
    have h0 : (u32s l).length = 0 := by rw [e]; rfl
    rw [u32s_length, Hn.out] at h0
    omega)
  have hb03 := hbw1.trans (hb13.mono hbw1.size)
  have Hw3 := hide hw3
  have Hlv : Hid (([] : List (List Nat)) ++ lvD 6 l = treeD l) := hide rfl
  obtain ⟨b4, hb4⟩ : ∃ x, w1.heap.size + 1 = x := ⟨_, rfl⟩
  rw [hb4] at hB4 hR0 ⊢
  have hb4w : w.heap.size < b4 := by omega
  have hB2w : w.heap.size + 1 ≤ w3.heap.size := by omega
  have hhw1 : w.heap.size + 1 ≤ w1.heap.size := by omega
  clear hw3 hr1 ha1 hB2 hb13 hG1 q1 q2
  have cur0 : True := trivial
  clear z0 z1 z3 hb4
  go_loopw [0] (fun s wr => MakeI l w b4 s wr) (fun s _ => sliceLen s)
  case atStart =>
    rw [Hw3.out]
    exact ⟨6, [], l, A, c, _, _, by rw [Hn.out], by rw [Hn.out]; exact hnc, hc63, by rw [Hn.out]; exact h1, by rw [Hn.out]; omega, by rw [Hn.out]; exact h2, Hlv.out, by simp, hb, hrl, fun a ha => ⟨by have := hAl a ha; omega, fun e => by have := hAl a ha; simp [Value.ownBlock] at e; omega⟩, hB2', hB4, hO, hR0, hb03⟩
  case round =>
    obtain ⟨f, pre, cur, Ak, ck, v, cs, rfl, hkc, hk63, hk1, hkf, hk4, hlv, hpf, hcb, hrk, hAk, hC2, hC4, hCo, hCr, hbw⟩ := hrel
    by_cases hlt : 1 < cur.length
    · obtain ⟨f', rfl⟩ : ∃ f', f = f' + 1 := ⟨f - 1, by
        cases f with
        | zero => simp at hkf; omega
        | succ f => rfl⟩
      rw [lvD_more hlt] at hlv
      obtain ⟨m, hm⟩ : ∃ m, cur.length = m := ⟨_, rfl⟩
      rw [hm] at hkc hk1 hkf hk4 hlt ⊢
      have Hm := hide hm
      have Hlv := hide hlv
      have HC4 := hide hC4
      have HC2 := hide hC2
      have d4w := hC4.cell (j := 0) rfl
      clear hm hlv hC4 hC2 hr hrl hr0 cur0
      obtain ⟨wR, hwR⟩ : ∃ x, x = wr := ⟨_, rfl⟩
      subst hwR
      go_wp2_with fail
      go_loopw [5, 6] (fun u i W => ∃ j : Nat, 4 * j < m + 4 ∧ i = .int .i64 ((4 * j : Nat) : Int) ∧ Grow wR (.slice none 0 0) wR.heap.size 33 1 W u j (u32s (upTo cur j))) (fun _ i _ => m + 4 - (intOf i).toNat)
      case atStart => exact ⟨0, by omega, rfl, Grow.nil _ _ _⟩
      case round =>
        obtain ⟨j, hj4, rfl, hG⟩ := hrel
        by_cases hj : 4 * j < m
        · have HS := hide (upTo_succ cur j)
          have HR := hide (rrow_piece Ak m ck cur (4 * j) wr Hm.out (by omega) hkc hk63 hj (hrk.below hG.all))
          rw [show 4 * j / 4 = j by omega] at HR
          have hpl4 : (pieceD cur j).length ≤ 4 := by rw [pieceD_length]; omega
          have hpb : ∀ y ∈ pieceD cur j, y < 4294967296 := fun y hy => hcb y (mem_piece hy)
          have hj1 : j ≤ 1024 := by omega
          obtain ⟨pp, hpp⟩ : ∃ y, pieceD cur j = y := ⟨_, rfl⟩
          rw [hpp] at HR HS hpl4 hpb
          obtain ⟨q, hq⟩ : ∃ q, 4 * j = q := ⟨_, rfl⟩
          rw [hq] at HR hj hj4 ⊢
          have Hq := hide hq
          clear hpp hq
          go_wp2_with fail
          go_fit HR.out
          rintro e W2 ⟨v5, rfl, ho5, hb5⟩
          obtain ⟨A5, c5, rfl, _, _, _, hr5, _⟩ := own_out ho5
          clear ho5
          go_wp2_with fail
          go_fit (rrow_any A5 _ c5 pp W2 rfl (by omega) hr5 hpb)
          rintro e W3 ⟨rfl, hb6⟩
          have hG3 := hG.below (hb5.trans (hb6.mono hb5.size))
          obtain ⟨d, hd⟩ : ∃ d, rowD pp = d := ⟨_, rfl⟩
          rw [hd]
          rw [hd] at HS
          clear hd hr5
          go_wp2_with (first | (with_reducible refine stop_append rfl ?_) | (with_reducible refine stop_copy rfl ?_) | (with_reducible refine stop_make rfl ?_))
          refine hG3.push rfl rfl rfl tU32 rfl rfl rfl (by omega) (by omega) ?_
          intro u' W4 hG4 _
          go_wp2
          go_roundw
          case rel =>
            refine ⟨_, _, _, _, _, _, _, _, _, _, _, _, _, _, _, ⟨j + 1, ?_, ?_, ?_⟩, by rw [show decide ((1 : Int) < (m : Int)) = true from decide_eq_true (by omega)]⟩
            · have := Hq.out; omega
            · rw [Nat.mul_add, Hq.out]; go_num
            · rw [HS.out, u32s_append]; exact hG4
          case measure => simp [intOf]; omega
        · have hjm : j = upN m := by unfold upN; omega
          have hup : upTo cur j = upD cur := by unfold upD; rw [Hm.out, ← hjm]
          rw [hup] at hG
          have hul : (upD cur).length = j := by rw [upD_length, Hm.out, hjm]
          obtain ⟨A5, c5, rfl, _, hc5, hcm5, hr5, ha5⟩ := own_out hG.owns
          have x5 : Below wR.heap.size wR wr := hG.all
          have z5 := x5.size
          have HB4 := HC4.out.below x5
          have HB2 := HC2.out.below x5
          have hO9 := own_below hCo x5
          have hlov := ownRow_lt hCo
          have hb4lt := HC4.out.lt
          have d4 := HB4.cell (j := 0) rfl
          have hnb : Below wr.heap.size wr (wr.alloc (.cells #[.slice A5 j c5] 25)) := (Below.refl _ _).alloc (Nat.le_refl _) _
          have hnew := Rd.new1 wr (.slice A5 j c5) 25
          have hO9' := own_below hO9 hnb
          have Hj := hide hjm
          obtain ⟨q, hq⟩ : ∃ q, 4 * j = q := ⟨_, rfl⟩
          rw [hq] at hj hj4 ⊢
          clear hjm hup hq hG
          go_wp2_with (first | (with_reducible refine stop_append rfl ?_))
          refine go_append rfl rfl tU32s rfl hO9' rfl (m := 1) (by rfl) hnew (by intro u hu; simp at hu; subst hu; rfl) (by omega) (by omega) (by have := hbw.size; simp; omega) ?_
          intro v7 w7 hO7 hg7 hv7
          obtain ⟨A7, c7, rfl, _⟩ := own_out hO7
          have hne4 := own_ne_blk hCo HC4.out (by decide)
          have hne2 := own_ne_blk hCo HC2.out (by decide)
          have hwz := hbw.size
          have E4 : Blk w7 b4 [v] 29 := (hg7.block b4 (by simp; omega) (fun e => hne4 e.symm)).trans (HB4.below hnb)
          have E2 : Blk w7 w.heap.size [.slice none 0 0] 29 := (hg7.block w.heap.size (by simp; omega) (fun e => hne2 e.symm)).trans (HB2.below hnb)
          have e4 := E4.cell (j := 0) rfl
          have f4 := E4.frozen 0
          have HN := hide (make_next0 hbw hkf hlt Hlv.out hpf hk4 Hm.out hr5 ha5 hc5 (by unfold maxLen at hcm5; omega) hul x5 hnb hg7 hv7 hO7 hCo hCr E2 E4 hb4lt (by omega) hne4)
          clear E2 E4 hO7 hg7 hv7
          go_wp2
          go_roundw
          case rel => exact HN.out
          case measure => simp only [sliceLen]; rw [Hj.out]; exact upN_lt hlt
    · have hone : cur.length = 1 := by omega
      obtain ⟨Av, cv, rfl, _, hcv, hcmv, hrv, hav⟩ := own_out hCo
      have hfin : pre ++ [cur] = treeD l := by rw [← hlv, lvD_one _ (by omega)]
      rw [hfin] at hCr
      have hll : (treeD l).length = pre.length + 1 := by rw [← hfin]; simp
      obtain ⟨m, hm⟩ : ∃ m, cur.length = m := ⟨_, rfl⟩
      rw [hm] at hlt hone ⊢
      subst hone
      have HC2 := hide hC2
      have d4 := hC4.cell (j := 0) rfl
      have f2 := hC2.frozen 0
      have d2 := hC2.cell (j := 0) rfl
      have HH := hide (And.intro hrv (And.intro hCr hbw))
      have Hll := hide hll
      have Hm := hide hm
      clear hfin hlv hll hm hrv hCr hbw hCo hAk hrk hcb hC2 cur0
      go_wp2
      obtain ⟨hrv, hCr, hbw⟩ := HH.out
      have hg := setCell_grown wr w.heap.size 0 (.slice Av (pre.length + 1) cv)
      have hr1 := hrv.grown hg (fun a ha e => by injection e with e; have := (hav a ha).1; omega)
      have hR1 := (hCr.grown hg (fun b hb e => by injection e with e; have := hb.1; omega)).mono (Q' := fun b => w.heap.size ≤ b) (fun b hb => by have := hb.1; omega)
      refine bodyPost_ret (results_cell2 rfl rfl (HC2.out.set 0 _) Tryd.underlying29 rfl (by kernel_rfl)) rfl ?_
      exact ⟨Av, pre.length + 1, cv, rfl, Tree_mk Hll.out hcv (by unfold maxLen at hcmv; omega) hr1 (fun _ a ha => by have := (hav a ha).1; omega) hR1, hbw.setCell (Nat.le_refl _) _⟩
end Go.Proofs.YtcpnobhdogpfiaaDoor
