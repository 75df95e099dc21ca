/- The law GroupTurns, walked. -/
import Derived.Test.YtnjleagikplbiaaF13w
namespace Go.Proofs.Ytnjleagikplbiaa
open Go.RowKit Go.Px
set_option linter.unusedVariables false

theorem asc_nodup {l : List Int} (h : Asc l) {i j : Nat} (hi : i < l.length) (hj : j < l.length) (he : l[i] = l[j]) : i = j := by
  rcases Nat.lt_trichotomy i j with h1 | h1 | h1
  · have := List.pairwise_iff_getElem.1 h i j hi hj h1; omega
  · exact h1
  · have := List.pairwise_iff_getElem.1 h j i hj hi h1; omega
def turnsL (e : Int) (ms : List Int) (v : Int) (k : Nat) : List Int := (List.range k).map fun i : Nat => primN e ms (v + (i : Int))
theorem turnsL_succ (e : Int) (ms : List Int) (v : Int) (k : Nat) : turnsL e ms v (k + 1) = turnsL e ms v k ++ [primN e ms (v + (k : Int))] := by
  unfold turnsL; rw [List.range_succ, List.map_append]; rfl
theorem turnsL_length (e : Int) (ms : List Int) (v : Int) (k : Nat) : (turnsL e ms v k).length = k := by unfold turnsL; simp
theorem prim_here {e : Int} {ms : List Int} {v : Int} (hg : grpOk e ms = true) (h0 : 0 ≤ v) (h1 : v ≤ 1152921504606846976) {k : Nat} (hk : k < ms.length) :
    primE e ms (v + (k : Int)) = 0 ∧ ∃ h : (v.toNat + k) % ms.length < ms.length, primN e ms (v + (k : Int)) = ms[(v.toNat + k) % ms.length] := by
  have hl := grpOk_len hg
  have hE : primE e ms (v + (k : Int)) = 0 := by unfold primE; rw [if_pos hg, if_pos ⟨by omega, by omega⟩]
  have hlt : (v.toNat + k) % ms.length < ms.length := Nat.mod_lt _ (by omega)
  refine ⟨hE, hlt, ?_⟩
  unfold primN
  rw [if_pos hE, show (v + (k : Int)).toNat = v.toNat + k by omega, List.getD_eq_getElem?_getD, List.getElem?_eq_getElem hlt]; rfl
theorem mod_inj {a n i j : Nat} (hi : i < n) (hj : j < n) (h : (a + i) % n = (a + j) % n) : i = j := by
  have h1 := Nat.div_add_mod (a + i) n
  have h2 := Nat.div_add_mod (a + j) n
  rw [h] at h1
  generalize (a + i) / n = x at *
  generalize (a + j) / n = y at *
  generalize (a + j) % n = z at *
  rcases Nat.lt_trichotomy x y with hxy | hxy | hxy
  · have : n * x + n ≤ n * y := by rw [← Nat.mul_succ]; exact Nat.mul_le_mul_left n hxy
    omega
  · subst hxy; omega
  · have : n * y + n ≤ n * x := by rw [← Nat.mul_succ]; exact Nat.mul_le_mul_left n hxy
    omega
theorem turn_new {e : Int} {ms : List Int} {v : Int} (hg : grpOk e ms = true) (h0 : 0 ≤ v) (h1 : v ≤ 1152921504606846976) {k : Nat} (hk : k < ms.length) :
    inB (turnsL e ms v k) (primN e ms (v + (k : Int))) = false ∧ inB ms (primN e ms (v + (k : Int))) = true := by
  obtain ⟨hE, hlt, hp⟩ := prim_here hg h0 h1 hk
  constructor
  · unfold inB
    rw [decide_eq_false_iff_not]
    intro hm
    unfold turnsL at hm
    obtain ⟨i, hi, he⟩ := List.mem_map.1 hm
    have hik := List.mem_range.1 hi
    obtain ⟨_, hlt2, hp2⟩ := prim_here hg h0 h1 (show i < ms.length by omega)
    rw [hp, hp2] at he
    have := asc_nodup (asc_of_nodes (grpOk_nodes hg)).1 hlt2 hlt he
    have := mod_inj (by omega) hk this
    omega
  · rw [hp]; exact inB_here hlt

set_option maxHeartbeats 1600000 in
theorem groupTurns_walk (e : Int) (A : Option Addr) (n c : Nat) (ms0 : List Int) (v : Int) (w : World) (hn : ms0.length = n) (hnc : n ≤ c) (hc : c ≤ 9223372036854775807) (hr : Rd w A (ints ms0)) :
    Calls Try.prog 7 #[grp e A n c, .int .i64 v] w fun x w' => x = .returned (.bool true) ∧ Below w.heap.size w w' := by
  obtain ⟨hl1, hl2⟩ := lfew_le n
  have Hl := hide (show (ms0.take 100).length = lfew n by rw [lfew_len, hn])
  have hr' := lfew_rd hr
  obtain ⟨q, hq⟩ : ∃ q, lfew n = q := ⟨_, rfl⟩
  rw [hq] at hl1 hl2 Hl
  have Hq := hide hq
  clear hq hn hr
  generalize ms0.take 100 = ms at *
  obtain ⟨g, hg⟩ : ∃ g, w.heap.size = g := ⟨_, rfl⟩
  obtain ⟨w00, hw00⟩ : ∃ w0, w.alloc (.cells #[.int .i64 e, .slice A n c] 24) = w0 := ⟨_, rfl⟩
  have hG00 : Blk w00 g [.int .i64 e, .slice A n c] 24 := by rw [← hw00, ← hg]; exact Blk.new _ _ _
  have hb00 : Below w.heap.size w w00 := by rw [← hw00]; exact (Below.refl _ _).alloc (Nat.le_refl _) _
  go_enter Try.func7, Try.ntmps7
  go_wp2_with fail
  go_fit (awake13_any w00)
  rintro x w0 ⟨rfl, hbx⟩
  have hG := hG00.below hbx
  have hb0 := hb00.trans (hbx.mono hb00.size)
  have k0 := hG.cell (j := 0) rfl
  have k1 := hG.cell (j := 1) rfl
  go_wp2_with fail
  go_fit (cut_any e A n c w0 hnc hc)
  rw [Hq.out]
  rintro x w1 ⟨rfl, hb1⟩
  have hG1 := hG.below hb1
  have t0 := hG1.frozen 0
  have t1 := hG1.frozen 1
  have u0 := hG1.cell (j := 0) rfl
  have u1 := hG1.cell (j := 1) rfl
  have hG2 := (hG1.set 0 (.int .i64 e)).set 1 (.slice A q c)
  have hb01 : Below w.heap.size w w1 := hb0.trans (hb1.mono hb0.size)
  have hb02 : Below w.heap.size w ((w1.setCell ⟨g, 0, none⟩ (.int .i64 e)).setCell ⟨g, 1, none⟩ (.slice A q c)) := (hb01.setCell (by show w.heap.size ≤ g; omega) _).setCell (by show w.heap.size ≤ g; omega) _
  obtain ⟨w2, hw2⟩ : ∃ w2, (w1.setCell ⟨g, 0, none⟩ (.int .i64 e)).setCell ⟨g, 1, none⟩ (.slice A q c) = w2 := ⟨_, rfl⟩
  rw [hw2] at hG2 hb02
  have v0 := hG2.cell (j := 0) rfl
  have v1 := hG2.cell (j := 1) rfl
  go_wp2_with fail
  go_fit (rcheck_any e A q c ms w2 Hl.out (hr'.below hb02))
  rcases bool_two (grpOk e ms) with hgq | hgq
  · rw [chk_ok hgq]
    have hlen := grpOk_len hgq
    rw [Hl.out] at hlen
    have Hgq := hide hgq
    clear hgq
    rintro x w3 ⟨rfl, hb3⟩
    have hG3 := hG2.below hb3
    have hb03 := hb02.trans (hb3.mono hb02.size)
    by_cases h0 : v < 0
    · go_wp2
      go_ret
      exact ⟨by simp, hb03⟩
    · by_cases h1 : 1152921504606846976 < v
      · go_wp2
        go_ret
        exact ⟨by simp, hb03⟩
      · have h0' : 0 ≤ v := by omega
        have h1' : v ≤ 1152921504606846976 := by omega
        clear k0 k1 t0 t1 u0 u1 v0 v1
        go_wp2
        go_loopw [5, 6] (fun u i wr => ∃ k : Nat, k ≤ q ∧ i = .int .i64 k ∧ Grow w3 (.slice none 0 0) w3.heap.size 3 1 wr u k (ints (turnsL e ms v k))) (fun _ i _ => q - (intOf i).toNat)
        case atStart => exact ⟨0, by omega, rfl, Grow.nil _ _ _⟩
        case round =>
          obtain ⟨k, hk, rfl, hGr⟩ := hrel
          have hbw := hGr.all
          have hGw := hG3.below hbw
          have hb0w := hb03.trans (hbw.mono hb03.size)
          have m0 := hGw.cell (j := 0) rfl
          have m1 := hGw.cell (j := 1) rfl
          obtain ⟨Au, cu, rfl, hxu, hcu, hcmu, hru, _⟩ := own_out hGr.owns
          by_cases hkq : k < q
          · have hkl : k < ms.length := by rw [Hl.out]; exact hkq
            have hE := (prim_here Hgq.out h0' h1' hkl).1
            have hT := turn_new Hgq.out h0' h1' hkl
            have hS := turnsL_succ e ms v k
            obtain ⟨p, hp⟩ : ∃ p, primN e ms (v + (k : Int)) = p := ⟨_, rfl⟩
            rw [hp] at hT hS
            have HE := hide hE
            have HT := hide hT
            have HS := hide hS
            have Hp := hide hp
            clear hE hT hS hp
            go_wp2_with fail
            go_fit (prim_any e A q c ms (v + (k : Int)) wr Hl.out (hr'.below hb0w))
            rw [HE.out, Hp.out]
            rintro x w5 ⟨rfl, hb5⟩
            have hGr5 := hGr.below hb5
            have hG5 := hGw.below hb5
            have n0 := hG5.cell (j := 0) rfl
            have n1 := hG5.cell (j := 1) rfl
            go_wp2_with fail
            go_fit (rin_any Au k cu (turnsL e ms v k) p w5 (turnsL_length _ _ _ _) (by omega) (hru.below hb5))
            rw [HT.out.1]
            rintro x wz ⟨rfl, rfl⟩
            have hb0w5 := hb0w.trans (hb5.mono hb0w.size)
            go_wp2_with fail
            go_fit (has_any e A q c ms p w5 Hl.out (by omega) (hr'.below hb0w5))
            rw [HT.out.2]
            rintro x w6 ⟨rfl, hb6⟩
            have hGr6 := hGr5.below hb6
            clear m0 m1 n0 n1
            go_wp2_with (first | (with_reducible refine stop_append rfl ?_) | (with_reducible refine stop_copy rfl ?_) | (with_reducible refine stop_make rfl ?_))
            refine hGr6.push rfl rfl rfl tInts rfl rfl rfl (by omega) (by omega) ?_
            intro u' w7 hG7 _
            go_wp2
            go_roundw
            case rel => exact ⟨k + 1, by omega, by go_num, by rw [HS.out, ints_append]; exact hG7⟩
            case measure => simp [intOf]; omega
          · go_wp2
            go_ret
            exact ⟨rfl, hb0w⟩
  · rw [chk_bad hgq]
    clear hgq
    rintro x w3 ⟨rfl, hb3⟩
    have hb03 := hb02.trans (hb3.mono hb02.size)
    go_wp2
    go_ret
    exact ⟨by simp, hb03⟩
end Go.Proofs.Ytnjleagikplbiaa
