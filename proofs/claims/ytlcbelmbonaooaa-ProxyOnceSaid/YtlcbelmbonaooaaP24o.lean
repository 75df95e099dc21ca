/- For every input within the form's reach the law ProxyOnce returns true, and each argument reads afterwards as it read before. -/
import Derived.Test.YtlcbelmbonaooaaF24W
import Derived.Test.YtlcbelmbonaooaaF24t
import Derived.Test.YtlcbelmbonaooaaF24u
import Derived.Test.YtlcbelmbonaooaaF24V
import Derived.Test.YtlcbelmbonaooaaR24
import Derived.Test.YtlcbelmbonaooaaReb
import Derived.Test.YtlcbelmbonaooaaRows
namespace Go.Proofs.Ytlcbelmbonaooaa
set_option maxRecDepth 20000
open Go.RowKit Go.Px Go.Maps Go.Deep
set_option linter.unusedVariables false
set_option linter.unusedSimpArgs false
theorem rchM_of {w : World} {Q : Nat → Prop} {x : MsgD} {cs : List Value} (h : tyMsg.Is w Q x cs) (hl : ∀ u ∈ cs, ∀ A n c, u = .slice A n c → n ≤ 140737488351232) : RchM x := by
  obtain ⟨k, f, t, e, v, nu, cm, no, nc, cl, se, o, r, g, s, l, c11 , c12 , c13 , c14 , c15 , c16 , c17 , c18 , c19 , c20 , c21 , c22 , c23 , c24 , c25 , c26 , c27, rfl, rfl, ho, hr, hg, hs, hll, -⟩ := Msg_parts h
  obtain ⟨dA, dn, dc, qA, qn, qc, rfl, rfl, rfl, rfl, rfl, -, dl1, ol1, -⟩ := Op_cells ho
  obtain ⟨rA, rn, rc, rfl, rfl, -, rl1, -⟩ := Result_cells hr
  obtain ⟨mA, mn, mc, rfl, rfl, -, ml1, -⟩ := Group_cells hg
  obtain ⟨num, b, z, ps, rs, sg, pA, wA, pn, pc, wn, wc, vs, vs2, c5, c6, rfl, hsc, -, -, -, ⟨pl1, -⟩, ⟨wl1, -⟩, -⟩ := State_parts hs
  obtain ⟨lA, ln, lc, lv, rfl, ll1, -⟩ := Row_cell hll
  simp only [List.cons.injEq, and_true] at hsc
  obtain ⟨rfl, rfl, rfl, rfl, rfl, rfl, rfl⟩ := hsc
  refine ⟨?_, ?_, ?_, ?_, ?_, ?_, ?_⟩
  · show l.length ≤ _
    rw [ll1]; exact hl (.slice lA ln lc) (by simp) _ _ _ rfl
  · show ps.length ≤ _
    rw [pl1]; exact hl (.slice pA pn pc) (by simp) _ _ _ rfl
  · show rs.length ≤ _
    rw [wl1]; exact hl (.slice wA wn wc) (by simp) _ _ _ rfl
  · show g.2.length ≤ _
    rw [ml1]; exact hl (.slice mA mn mc) (by simp) _ _ _ rfl
  · show o.2.2.2.1.length ≤ _
    rw [dl1]; exact hl (.slice dA dn dc) (by simp) _ _ _ rfl
  · show o.2.2.2.2.length ≤ _
    rw [ol1]; exact hl (.slice qA qn qc) (by simp) _ _ _ rfl
  · show r.2.length ≤ _
    rw [rl1]; exact hl (.slice rA rn rc) (by simp) _ _ _ rfl

set_option maxRecDepth 20000 in
set_option maxHeartbeats 51200000 in
theorem proxyOnce_walk {w : World} {Q : Nat → Prop} {x : ProxyD} {cs : List Value} {A : Option Addr} {n c : Nat} {l : List CallD} {vs : List Value} (h : tyProxy.Is w Q x cs) (r1 : RchP x) (hA : RowAt tyCall w w.heap.size A n l vs) (h8 : n ≤ 140737488351232)
    (hl : ∀ k, k < n → ∀ i, i < 33 → ∀ u, vs[33 * k + i]? = some u → ∀ A' n' c', u = .slice A' n' c' → n' ≤ 140737488351232) :
    Calls Try.prog 7 #[.agg cs.toArray, .slice A n c] w fun e w' => e = .returned (.bool true) ∧ Below w.heap.size w w' := by
  obtain ⟨c0, c1, c2, c3, c4, c5, c6, c7, c8, c9, c10, c11, c12, c13, rfl⟩ := list_14 (h.len : cs.length = 14)
  obtain ⟨gg, hgg⟩ : ∃ g, w.heap.size = g := ⟨_, rfl⟩
  obtain ⟨w0, hw0⟩ : ∃ x, w.alloc (.cells #[c0, c1, c2, c3, c4, c5, c6, c7, c8, c9, c10, c11, c12, c13] 30) = x := ⟨_, rfl⟩
  have hP0 : Blk w0 gg [c0, c1, c2, c3, c4, c5, c6, c7, c8, c9, c10, c11, c12, c13] 30 := by rw [← hw0, ← hgg]; exact Blk.new w _ _
  have b0 : Below w.heap.size w w0 := by rw [← hw0]; exact (Below.refl _ _).alloc (Nat.le_refl _) _
  have Hw0 := hide hw0
  have s0 := b0.size
  have Hh := hide h
  have HA := hide hA
  have Hl := hide hl
  clear hw0 h hA hl
  go_enter Try.func7, Try.ntmps7
  go_wp2_with (first | (with_reducible refine stop_load 30 rfl ?_) | (with_reducible refine stop_store 30 rfl ?_) | (with_reducible refine stop_load 28 rfl ?_) | (with_reducible refine stop_store 28 rfl ?_) | (with_reducible refine stop_load 49 rfl ?_) | (with_reducible refine stop_store 49 rfl ?_) | (with_reducible refine stop_load 24 rfl ?_) | (with_reducible refine stop_store 24 rfl ?_) | (with_reducible refine stop_load 58 rfl ?_) | (with_reducible refine stop_store 58 rfl ?_) | (with_reducible refine stop_load 68 rfl ?_) | (with_reducible refine stop_store 68 rfl ?_))
  rw [Hw0.out]
  go_fit (awake24_any w0)
  rintro xx w1 ⟨rfl, hd1⟩
  have b1 := b0.trans (hd1.mono b0.size)
  have s1 := hd1.size
  have hP1 := hP0.below hd1
  go_wp2_with (first | (with_reducible refine stop_load 30 rfl ?_) | (with_reducible refine stop_store 30 rfl ?_) | (with_reducible refine stop_load 28 rfl ?_) | (with_reducible refine stop_store 28 rfl ?_) | (with_reducible refine stop_load 49 rfl ?_) | (with_reducible refine stop_store 49 rfl ?_) | (with_reducible refine stop_load 24 rfl ?_) | (with_reducible refine stop_store 24 rfl ?_) | (with_reducible refine stop_load 58 rfl ?_) | (with_reducible refine stop_store 58 rfl ?_) | (with_reducible refine stop_load 68 rfl ?_) | (with_reducible refine stop_store 68 rfl ?_))
  refine go_loadG rfl rfl (k := 0) rfl hP1 [c0, c1, c2, c3, c4, c5, c6, c7, c8, c9, c10, c11, c12, c13] rfl Try.underlying30 rfl (by kernel_rfl) ?_
  go_wp2_with (first | (with_reducible refine stop_load 30 rfl ?_) | (with_reducible refine stop_store 30 rfl ?_) | (with_reducible refine stop_load 28 rfl ?_) | (with_reducible refine stop_store 28 rfl ?_) | (with_reducible refine stop_load 49 rfl ?_) | (with_reducible refine stop_store 49 rfl ?_) | (with_reducible refine stop_load 24 rfl ?_) | (with_reducible refine stop_store 24 rfl ?_) | (with_reducible refine stop_load 58 rfl ?_) | (with_reducible refine stop_store 58 rfl ?_) | (with_reducible refine stop_load 68 rfl ?_) | (with_reducible refine stop_store 68 rfl ?_))
  go_fit (small24_any (Hh.out.below b1) r1)
  rintro xx w2 ⟨rfl, hd2⟩
  have b2 := b1.trans (hd2.mono b1.size)
  have s2 := hd2.size
  have hP2 := hP1.below hd2
  rcases bool_two (smB x) with q1 | q1
  rotate_left
  · rw [q1]
    go_wp2_with (first | (with_reducible refine stop_load 30 rfl ?_) | (with_reducible refine stop_store 30 rfl ?_) | (with_reducible refine stop_load 28 rfl ?_) | (with_reducible refine stop_store 28 rfl ?_) | (with_reducible refine stop_load 49 rfl ?_) | (with_reducible refine stop_store 49 rfl ?_) | (with_reducible refine stop_load 24 rfl ?_) | (with_reducible refine stop_store 24 rfl ?_) | (with_reducible refine stop_load 58 rfl ?_) | (with_reducible refine stop_store 58 rfl ?_) | (with_reducible refine stop_load 68 rfl ?_) | (with_reducible refine stop_store 68 rfl ?_))
    repeat (refine go_skipG rfl ?_; go_wp2_with (first | (with_reducible refine stop_load 30 rfl ?_) | (with_reducible refine stop_store 30 rfl ?_) | (with_reducible refine stop_load 28 rfl ?_) | (with_reducible refine stop_store 28 rfl ?_) | (with_reducible refine stop_load 49 rfl ?_) | (with_reducible refine stop_store 49 rfl ?_) | (with_reducible refine stop_load 24 rfl ?_) | (with_reducible refine stop_store 24 rfl ?_) | (with_reducible refine stop_load 58 rfl ?_) | (with_reducible refine stop_store 58 rfl ?_) | (with_reducible refine stop_load 68 rfl ?_) | (with_reducible refine stop_store 68 rfl ?_)))
    go_wp2
    go_ret
    exact ⟨rfl, b2⟩
  rw [q1]
  clear q1
  go_wp2_with (first | (with_reducible refine stop_load 30 rfl ?_) | (with_reducible refine stop_store 30 rfl ?_) | (with_reducible refine stop_load 28 rfl ?_) | (with_reducible refine stop_store 28 rfl ?_) | (with_reducible refine stop_load 49 rfl ?_) | (with_reducible refine stop_store 49 rfl ?_) | (with_reducible refine stop_load 24 rfl ?_) | (with_reducible refine stop_store 24 rfl ?_) | (with_reducible refine stop_load 58 rfl ?_) | (with_reducible refine stop_store 58 rfl ?_) | (with_reducible refine stop_load 68 rfl ?_) | (with_reducible refine stop_store 68 rfl ?_))
  refine go_loadG rfl rfl (k := 0) rfl hP2 [c0, c1, c2, c3, c4, c5, c6, c7, c8, c9, c10, c11, c12, c13] rfl Try.underlying30 rfl (by kernel_rfl) ?_
  go_wp2_with (first | (with_reducible refine stop_load 30 rfl ?_) | (with_reducible refine stop_store 30 rfl ?_) | (with_reducible refine stop_load 28 rfl ?_) | (with_reducible refine stop_store 28 rfl ?_) | (with_reducible refine stop_load 49 rfl ?_) | (with_reducible refine stop_store 49 rfl ?_) | (with_reducible refine stop_load 24 rfl ?_) | (with_reducible refine stop_store 24 rfl ?_) | (with_reducible refine stop_load 58 rfl ?_) | (with_reducible refine stop_store 58 rfl ?_) | (with_reducible refine stop_load 68 rfl ?_) | (with_reducible refine stop_store 68 rfl ?_))
  go_fit (rprC_any (Hh.out.below b2))
  rintro xx w3 ⟨rfl, hd3⟩
  have b3 := b2.trans (hd3.mono b2.size)
  have s3 := hd3.size
  have hP3 := hP2.below hd3
  rcases bool_two (prB x) with q1 | q1
  rotate_left
  · rw [prE_no q1]
    go_wp2
    go_ret
    exact ⟨rfl, b3⟩
  rw [prE_ok q1]
  have HO0 := hide (⟨hP3, (Hh.out.low.below b3).mono (fun b hb => ⟨by omega, by simp [Value.ownBlock]⟩), World.ownsRow_nil _ _ _ _, by rw [← hgg]; exact b3, q1, Told.nil x⟩ : OnI w gg w3 (.slice none 0 0) [] x [c0, c1, c2, c3, c4, c5, c6, c7, c8, c9, c10, c11, c12, c13])
  clear q1 hP0 hP1 hP2 hP3
  go_wp2
  go_loopw [5, 6] (fun v iv wr => ∃ (k : Nat) (told : List Int) (y : ProxyD) (us : List Value), k ≤ n ∧ k ≤ 60 ∧ iv = .int .i64 k ∧ told.length ≤ k ∧ Hid (OnI w gg wr v told y us)) (fun _ iv _ => n - (intOf iv).toNat)
  case atStart => exact ⟨0, [], x, _, by omega, by omega, rfl, Nat.le_refl _, HO0⟩
  case round =>
    obtain ⟨k, told, y, us, hk, hk6, rfl, htl, HO⟩ := hrel
    obtain ⟨w7, hw7⟩ : ∃ x, x = wr := ⟨_, rfl⟩
    subst hw7
    have hO7 := HO.out
    clear HO
    obtain ⟨pid, pg, pv, pse, pbu, po, pn, pqu, p1, p2, p6, p7, p8, p9, p10, p11, p12, rfl, rfl, -, -, -, -, -, -, -⟩ := Proxy_parts hO7.is
    have b7 : Below w.heap.size w w7 := by rw [hgg]; exact hO7.bl
    have s7 := b7.size
    have g7 := hO7.pb.lt
    by_cases hlt : k < n ∧ k < 60
    rotate_left
    · have hend : k = n ∨ k = 60 := by omega
      obtain ⟨vA, vc, rfl, _, hqc, hcm, hvr, _⟩ := own_out hO7.ow
      have hqm : told.length ≤ 60 := by omega
      obtain ⟨N, hN⟩ : ∃ N, told.length = N := ⟨_, rfl⟩
      have HN := hide hN
      rw [hN] at hqc hqm htl
      have HV := hide hvr
      have HT := hide hO7.tl.up
      have hends : k = n ∨ (k < n ∧ k = 60) := by omega
      clear hO7 hvr hN
      rcases hends with rfl | ⟨hl1, rfl⟩
      all_goals
        rw [HN.out]
        go_wp2
        go_loopw [16] (fun iv wr => ∃ j : Nat, 1 ≤ j ∧ (j ≤ N ∨ j = 1) ∧ iv = .int .i64 j ∧ Below w7.heap.size w7 wr) (fun iv _ => N - (intOf iv).toNat)
        case atStart => exact ⟨1, by omega, by omega, rfl, Below.refl _ _⟩
        case round =>
          obtain ⟨j, hj1, hj2, rfl, hbj⟩ := hrel
          by_cases hlj : j < N
          · have hjI : (j : Int) < (N : Int) := by omega
            have hjK : ((j : Int) - 1) < (N : Int) := by omega
            obtain ⟨i, hij⟩ : ∃ i, i + 1 = j := ⟨j - 1, by omega⟩
            obtain ⟨a1, ha1⟩ : ∃ z, told[i]? = some z := ⟨_, List.getElem?_eq_getElem (by have := HN.out; omega)⟩
            obtain ⟨a2, ha2⟩ : ∃ z, told[j]? = some z := ⟨_, List.getElem?_eq_getElem (by have := HN.out; omega)⟩
            have hup := HT.out i j a1 a2 (by omega) ha1 ha2
            have hvb := HV.out.below hbj
            obtain ⟨p, rfl, hp1⟩ := hvb i (.int .i64 a1) (by simp [ints, ha1])
            obtain ⟨p', hpp, hp2⟩ := hvb j (.int .i64 a2) (by simp [ints, ha2])
            injection hpp with hpp
            subst hpp
            have hle : decide (a2 ≤ a1) = false := decide_eq_false (by omega)
            have hii : (j : Int) - 1 = (i : Int) := by omega
            have hi0 : (0 : Int) ≤ (i : Int) := by omega
            have hi1 : (i : Int) < (N : Int) := by omega
            clear ha1 ha2 hvb hij
            go_wp2_with fail
            have f1 := fun (x : InC (fun W' => Below wr.heap.size wr W')) => below_cell x.h hp1
            have f2 := fun (x : InC (fun W' => Below wr.heap.size wr W')) => below_cell x.h hp2
            refine wp_region_in (fun W' => Below wr.heap.size wr W') (Below.refl _ _).drew (by kernel_rfl) (by kernel_rfl) ?_
            repeat (go_big_quiet_step (first | fail))
            refine wpQuiet_nil ?_
            intro _ hw'
            obtain ⟨nq, hw''⟩ := hw'
            subst hw''
            have hbq := nq.h
            go_wp2
            go_roundw
            case rel => exact ⟨j + 1, by omega, by omega, by go_num, hbj.trans (hbq.mono hbj.size)⟩
            case measure => simp [intOf]; omega
          · go_wp2
            go_ret
            exact ⟨rfl, b7.trans (hbj.mono b7.size)⟩
    obtain ⟨hlt, hlt6⟩ := hlt
    have hkI : (k : Int) < (n : Int) := by omega
    have hkJ : (k : Int) < 60 := by omega
    obtain ⟨⟨opD, ms⟩, a, ds, hx, hAp, hI, hat, hc⟩ := HA.out.at_ (by decide) b7 hlt
    subst hAp
    have hld : ∀ u ∈ ds, ∀ A' n' c', u = .slice A' n' c' → n' ≤ 140737488351232 := by
      intro u hu
      obtain ⟨i, hi, rfl⟩ := List.mem_iff_getElem.1 hu
      exact Hl.out k hlt i (by have := hI.len; rw [this] at hi; exact hi) _ (hc i _ (List.getElem?_eq_getElem hi))
    obtain ⟨z0, z1, z2, z3, z4, z5, z6, z7, z8, z9, z10, z11, z12, z13, z14, z15, z16, z17, z18, z19, z20, z21, z22, z23, z24, z25, z26, z27, z28, z29, z30, z31, z32, rfl⟩ := list_33 (hI.len : ds.length = 33)
    have hone := hI.ones
    have iO : tyOp.Is w7 (fun b => b < w.heap.size) opD [z0, z1, z2, z3, z4] := hI.1
    have iM : tyMsg.Is w7 (fun b => b < w.heap.size) ms [z5, z6, z7, z8, z9, z10, z11, z12, z13, z14, z15, z16, z17, z18, z19, z20, z21, z22, z23, z24, z25, z26, z27, z28, z29, z30, z31, z32] := hI.2
    have HlO := hide (opLen_of iO (fun u hu => hld u (List.mem_of_mem_take (i := 5) (l := [z0, z1, z2, z3, z4, z5, z6, z7, z8, z9, z10, z11, z12, z13, z14, z15, z16, z17, z18, z19, z20, z21, z22, z23, z24, z25, z26, z27, z28, z29, z30, z31, z32]) hu)))
    have HlM := hide (rchM_of iM (fun u hu => hld u (List.mem_of_mem_drop (i := 5) (l := [z0, z1, z2, z3, z4, z5, z6, z7, z8, z9, z10, z11, z12, z13, z14, z15, z16, z17, z18, z19, z20, z21, z22, z23, z24, z25, z26, z27, z28, z29, z30, z31, z32]) hu)))
    obtain ⟨rfl, -⟩ : z0 = .int .u8 ((opD.1 : Nat) : Int) ∧ opD.1 < 256 := iO.1
    obtain ⟨rfl, -⟩ : z5 = .int .u8 ((ms.1 : Nat) : Int) ∧ ms.1 < 256 := iM.1
    have hE := elem_at (n := 33) hat hc
    have HiO := hide iO
    have HiM := hide iM
    clear hld hx hI iO iM hat hc
    go_wp2_with (first | (with_reducible refine stop_load 30 rfl ?_) | (with_reducible refine stop_store 30 rfl ?_) | (with_reducible refine stop_load 28 rfl ?_) | (with_reducible refine stop_store 28 rfl ?_) | (with_reducible refine stop_load 49 rfl ?_) | (with_reducible refine stop_store 49 rfl ?_) | (with_reducible refine stop_load 24 rfl ?_) | (with_reducible refine stop_store 24 rfl ?_) | (with_reducible refine stop_load 58 rfl ?_) | (with_reducible refine stop_store 58 rfl ?_) | (with_reducible refine stop_load 68 rfl ?_) | (with_reducible refine stop_store 68 rfl ?_))
    refine go_loadA rfl rfl (p := a.add (k * 33)) rfl hE Try.underlying68 rfl (by kernel_rfl) ?_
    obtain ⟨g20, hg20⟩ : ∃ m, w7.heap.size = m := ⟨_, rfl⟩
    obtain ⟨w7z, hw7z⟩ : ∃ x, w7.alloc (.cells #[.int .u8 0, .int .i64 0, .int .i64 0, .slice none 0 0, .slice none 0 0, .int .u8 0, .int .i64 0, .int .i64 0, .int .i64 0, .int .i64 0, .int .i64 0, .int .i64 0, .int .i64 0, .int .u64 0, .int .i64 0, .int .i64 0, .int .u8 0, .int .i64 0, .int .i64 0, .slice none 0 0, .slice none 0 0, .int .u8 0, .slice none 0 0, .int .i64 0, .slice none 0 0, .int .i64 0, .int .i64 0, .int .i64 0, .slice none 0 0, .slice none 0 0, .int .i64 0, .slice none 0 0, .slice none 0 0] 68) = x := ⟨_, rfl⟩
    have hZ7 : Blk w7z g20 [.int .u8 0, .int .i64 0, .int .i64 0, .slice none 0 0, .slice none 0 0, .int .u8 0, .int .i64 0, .int .i64 0, .int .i64 0, .int .i64 0, .int .i64 0, .int .i64 0, .int .i64 0, .int .u64 0, .int .i64 0, .int .i64 0, .int .u8 0, .int .i64 0, .int .i64 0, .slice none 0 0, .slice none 0 0, .int .u8 0, .slice none 0 0, .int .i64 0, .slice none 0 0, .int .i64 0, .int .i64 0, .int .i64 0, .slice none 0 0, .slice none 0 0, .int .i64 0, .slice none 0 0, .slice none 0 0] 68 := by rw [← hw7z, ← hg20]; exact Blk.new w7 _ _
    have bz7 : Below w7.heap.size w7 w7z := by rw [← hw7z]; exact (Below.refl _ _).alloc (Nat.le_refl _) _
    obtain ⟨w8, hw8⟩ : ∃ x, w7z.setRow g20 #[.int .u8 ((opD.1 : Nat) : Int), z1, z2, z3, z4, .int .u8 ((ms.1 : Nat) : Int), z6, z7, z8, z9, z10, z11, z12, z13, z14, z15, z16, z17, z18, z19, z20, z21, z22, z23, z24, z25, z26, z27, z28, z29, z30, z31, z32] = x := ⟨_, rfl⟩
    have hF8 : Fr (fun b => b = g20) w7z w8 := by rw [← hw8]; exact Fr.row (X := fun b => b = g20) rfl w7z _
    have hC8 : Blk w8 g20 [.int .u8 ((opD.1 : Nat) : Int), z1, z2, z3, z4, .int .u8 ((ms.1 : Nat) : Int), z6, z7, z8, z9, z10, z11, z12, z13, z14, z15, z16, z17, z18, z19, z20, z21, z22, z23, z24, z25, z26, z27, z28, z29, z30, z31, z32] 68 := by rw [← hw8]; exact hZ7.setAll [.int .u8 ((opD.1 : Nat) : Int), z1, z2, z3, z4, .int .u8 ((ms.1 : Nat) : Int), z6, z7, z8, z9, z10, z11, z12, z13, z14, z15, z16, z17, z18, z19, z20, z21, z22, z23, z24, z25, z26, z27, z28, z29, z30, z31, z32]
    have hd8 : Below w7.heap.size w7 w8 := hF8.below bz7 bz7.size (fun b hb => by have hb' : b = g20 := hb; omega)
    have b8 := b7.trans (hd8.mono b7.size)
    have s8 := hd8.size
    have hO8 := hO7.below hd8
    have Hw7z := hide hw7z
    have Hg20 := hide hg20
    have Hst7 := hide hw8
    clear hw8 hw7z hg20
    go_wp2_with (first | (with_reducible refine stop_load 30 rfl ?_) | (with_reducible refine stop_store 30 rfl ?_) | (with_reducible refine stop_load 28 rfl ?_) | (with_reducible refine stop_store 28 rfl ?_) | (with_reducible refine stop_load 49 rfl ?_) | (with_reducible refine stop_store 49 rfl ?_) | (with_reducible refine stop_load 24 rfl ?_) | (with_reducible refine stop_store 24 rfl ?_) | (with_reducible refine stop_load 58 rfl ?_) | (with_reducible refine stop_store 58 rfl ?_) | (with_reducible refine stop_load 68 rfl ?_) | (with_reducible refine stop_store 68 rfl ?_))
    rw [Hw7z.out]
    try rw [Hg20.out]
    refine go_store rfl rfl rfl rfl rfl hZ7 (by kernel_rfl) rfl (us := [.int .u8 ((opD.1 : Nat) : Int), z1, z2, z3, z4, .int .u8 ((ms.1 : Nat) : Int), z6, z7, z8, z9, z10, z11, z12, z13, z14, z15, z16, z17, z18, z19, z20, z21, z22, z23, z24, z25, z26, z27, z28, z29, z30, z31, z32]) hone ?_
    rw [show w7z.setRow g20 ([.int .u8 ((opD.1 : Nat) : Int), z1, z2, z3, z4, .int .u8 ((ms.1 : Nat) : Int), z6, z7, z8, z9, z10, z11, z12, z13, z14, z15, z16, z17, z18, z19, z20, z21, z22, z23, z24, z25, z26, z27, z28, z29, z30, z31, z32] : List Value).toArray = w8 from Hst7.out]
    go_wp2_with (first | (with_reducible refine stop_load 30 rfl ?_) | (with_reducible refine stop_store 30 rfl ?_) | (with_reducible refine stop_load 28 rfl ?_) | (with_reducible refine stop_store 28 rfl ?_) | (with_reducible refine stop_load 49 rfl ?_) | (with_reducible refine stop_store 49 rfl ?_) | (with_reducible refine stop_load 24 rfl ?_) | (with_reducible refine stop_store 24 rfl ?_) | (with_reducible refine stop_load 58 rfl ?_) | (with_reducible refine stop_store 58 rfl ?_) | (with_reducible refine stop_load 68 rfl ?_) | (with_reducible refine stop_store 68 rfl ?_))
    refine go_loadG rfl rfl (k := 0) rfl hC8 [.int .u8 ((opD.1 : Nat) : Int), z1, z2, z3, z4] rfl Try.underlying28 rfl (by kernel_rfl) ?_
    go_wp2_with (first | (with_reducible refine stop_load 30 rfl ?_) | (with_reducible refine stop_store 30 rfl ?_) | (with_reducible refine stop_load 28 rfl ?_) | (with_reducible refine stop_store 28 rfl ?_) | (with_reducible refine stop_load 49 rfl ?_) | (with_reducible refine stop_store 49 rfl ?_) | (with_reducible refine stop_load 24 rfl ?_) | (with_reducible refine stop_store 24 rfl ?_) | (with_reducible refine stop_load 58 rfl ?_) | (with_reducible refine stop_store 58 rfl ?_) | (with_reducible refine stop_load 68 rfl ?_) | (with_reducible refine stop_store 68 rfl ?_))
    have HZ := hide (Proxy_shut (bu := false) (id := 0) (v := 0) (se := 0) (qu := 0) (by omega) (by omega) (by omega) (by omega) (zeroG_is (w := w8) (Q := fun _ => True)) ((HiO.out.any).below hd8) (zeroG_is (w := w8) (Q := fun _ => True)))
    have HRc := hide (rch_two HlO.out (show zeroG.2.length ≤ 140737488351232 from by decide))
    go_fit (small24_any HZ.out HRc.out)
    rintro xx w9 ⟨rfl, hd9⟩
    have b9 := b8.trans (hd9.mono b8.size)
    have s9 := hd9.size
    have hO9 := hO8.below hd9
    have hC9 := hC8.below hd9
    clear HZ HRc
    rcases bool_two (smB (0, zeroG, 0, 0, false, opD, zeroG, 0)) with q1 | q1
    rotate_left
    · rw [q1]
      go_wp2_with (first | (with_reducible refine stop_load 30 rfl ?_) | (with_reducible refine stop_store 30 rfl ?_) | (with_reducible refine stop_load 28 rfl ?_) | (with_reducible refine stop_store 28 rfl ?_) | (with_reducible refine stop_load 49 rfl ?_) | (with_reducible refine stop_store 49 rfl ?_) | (with_reducible refine stop_load 24 rfl ?_) | (with_reducible refine stop_store 24 rfl ?_) | (with_reducible refine stop_load 58 rfl ?_) | (with_reducible refine stop_store 58 rfl ?_) | (with_reducible refine stop_load 68 rfl ?_) | (with_reducible refine stop_store 68 rfl ?_))
      repeat (refine go_skipG rfl ?_; go_wp2_with (first | (with_reducible refine stop_load 30 rfl ?_) | (with_reducible refine stop_store 30 rfl ?_) | (with_reducible refine stop_load 28 rfl ?_) | (with_reducible refine stop_store 28 rfl ?_) | (with_reducible refine stop_load 49 rfl ?_) | (with_reducible refine stop_store 49 rfl ?_) | (with_reducible refine stop_load 24 rfl ?_) | (with_reducible refine stop_store 24 rfl ?_) | (with_reducible refine stop_load 58 rfl ?_) | (with_reducible refine stop_store 58 rfl ?_) | (with_reducible refine stop_load 68 rfl ?_) | (with_reducible refine stop_store 68 rfl ?_)))
      have hOE := hide hO9
      go_wp2
      go_roundw
      case rel => exact ⟨k + 1, told, (pid, pg, pv, pse, pbu, po, pn, pqu), _, by omega, by omega, by go_num, by omega, hOE⟩
      case measure => simp [intOf]; omega
    rw [q1]
    have HL2 := hide (smB_light q1)
    clear q1
    go_wp2_with (first | (with_reducible refine stop_load 30 rfl ?_) | (with_reducible refine stop_store 30 rfl ?_) | (with_reducible refine stop_load 28 rfl ?_) | (with_reducible refine stop_store 28 rfl ?_) | (with_reducible refine stop_load 49 rfl ?_) | (with_reducible refine stop_store 49 rfl ?_) | (with_reducible refine stop_load 24 rfl ?_) | (with_reducible refine stop_store 24 rfl ?_) | (with_reducible refine stop_load 58 rfl ?_) | (with_reducible refine stop_store 58 rfl ?_) | (with_reducible refine stop_load 68 rfl ?_) | (with_reducible refine stop_store 68 rfl ?_))
    refine go_loadG rfl rfl (k := 5) rfl hC9 [.int .u8 ((ms.1 : Nat) : Int), z6, z7, z8, z9, z10, z11, z12, z13, z14, z15, z16, z17, z18, z19, z20, z21, z22, z23, z24, z25, z26, z27, z28, z29, z30, z31, z32] rfl Try.underlying58 rfl (by kernel_rfl) ?_
    go_wp2_with (first | (with_reducible refine stop_load 30 rfl ?_) | (with_reducible refine stop_store 30 rfl ?_) | (with_reducible refine stop_load 28 rfl ?_) | (with_reducible refine stop_store 28 rfl ?_) | (with_reducible refine stop_load 49 rfl ?_) | (with_reducible refine stop_store 49 rfl ?_) | (with_reducible refine stop_load 24 rfl ?_) | (with_reducible refine stop_store 24 rfl ?_) | (with_reducible refine stop_load 58 rfl ?_) | (with_reducible refine stop_store 58 rfl ?_) | (with_reducible refine stop_load 68 rfl ?_) | (with_reducible refine stop_store 68 rfl ?_))
    go_fit (size24_any ((HiM.out.below hd8).below hd9) HlM.out)
    rintro xx w10 ⟨⟨N, rfl⟩, hd10⟩
    have b10 := b9.trans (hd10.mono b9.size)
    have s10 := hd10.size
    have hO10 := hO9.below hd10
    have hC10 := hC9.below hd10
    rcases bool_two (decide (100 < N)) with q2 | q2
    · have hOE := hide hO10
      go_wp2
      go_roundw
      case rel => exact ⟨k + 1, told, (pid, pg, pv, pse, pbu, po, pn, pqu), _, by omega, by omega, by go_num, by omega, hOE⟩
      case measure => simp [intOf]; omega
    have hz4 := hO10.pb.cell (j := 4) rfl
    have u0 := hC10.cell (j := 0) rfl
    have u5 := hC10.cell (j := 5) rfl
    have hL10 := hide (prB_light hO10.ok)
    have hsb := numB_out (prB_out hO10.ok).2.2.2.1
    have iO10 := HiO.out.below (hd8.trans (hd9.mono hd8.size) |>.trans (hd10.mono (Nat.le_trans hd8.size hd9.size)))
    have iM10 := HiM.out.below (hd8.trans (hd9.mono hd8.size) |>.trans (hd10.mono (Nat.le_trans hd8.size hd9.size)))

    rcases bool_two (((opD.1 : Nat) : Int) != 0) with q3 | q3
    · go_wp2_with (first | (with_reducible refine stop_load 30 rfl ?_) | (with_reducible refine stop_store 30 rfl ?_) | (with_reducible refine stop_load 28 rfl ?_) | (with_reducible refine stop_store 28 rfl ?_) | (with_reducible refine stop_load 49 rfl ?_) | (with_reducible refine stop_store 49 rfl ?_) | (with_reducible refine stop_load 24 rfl ?_) | (with_reducible refine stop_store 24 rfl ?_) | (with_reducible refine stop_load 58 rfl ?_) | (with_reducible refine stop_store 58 rfl ?_) | (with_reducible refine stop_load 68 rfl ?_) | (with_reducible refine stop_store 68 rfl ?_))
      refine go_loadG rfl rfl (k := 0) rfl hO10.pb [.int .i64 pid, p1, p2, .int .i64 pv, .int .i64 pse, .bool pbu, p6, p7, p8, p9, p10, p11, p12, .int .i64 pqu] rfl Try.underlying30 rfl (by kernel_rfl) ?_
      go_wp2_with (first | (with_reducible refine stop_load 30 rfl ?_) | (with_reducible refine stop_store 30 rfl ?_) | (with_reducible refine stop_load 28 rfl ?_) | (with_reducible refine stop_store 28 rfl ?_) | (with_reducible refine stop_load 49 rfl ?_) | (with_reducible refine stop_store 49 rfl ?_) | (with_reducible refine stop_load 24 rfl ?_) | (with_reducible refine stop_store 24 rfl ?_) | (with_reducible refine stop_load 58 rfl ?_) | (with_reducible refine stop_store 58 rfl ?_) | (with_reducible refine stop_load 68 rfl ?_) | (with_reducible refine stop_store 68 rfl ?_))
      refine go_loadG rfl rfl (k := 0) rfl hC10 [.int .u8 ((opD.1 : Nat) : Int), z1, z2, z3, z4] rfl Try.underlying28 rfl (by kernel_rfl) ?_
      go_wp2_with (first | (with_reducible refine stop_load 30 rfl ?_) | (with_reducible refine stop_store 30 rfl ?_) | (with_reducible refine stop_load 28 rfl ?_) | (with_reducible refine stop_store 28 rfl ?_) | (with_reducible refine stop_load 49 rfl ?_) | (with_reducible refine stop_store 49 rfl ?_) | (with_reducible refine stop_load 24 rfl ?_) | (with_reducible refine stop_store 24 rfl ?_) | (with_reducible refine stop_load 58 rfl ?_) | (with_reducible refine stop_store 58 rfl ?_) | (with_reducible refine stop_load 68 rfl ?_) | (with_reducible refine stop_store 68 rfl ?_))
      obtain ⟨ra, hra⟩ : ∃ z, askD (pid, pg, pv, pse, pbu, po, pn, pqu) opD zeroG (asksB opD zeroG) = z := ⟨_, rfl⟩
      have Hra := hide hra
      have hc := mAsk_any hO10.is iO10 hL10.out HL2.out.d HL2.out.q
      rw [hra] at hc
      clear hra
      go_fit (hc)
      rintro xx w11 ⟨lA, AA, nA, cA, rfl, iA, -, hd11⟩
      have b11 := b10.trans (hd11.mono b10.size)
      have s11 := hd11.size
      have hO11 := hO10.below hd11
      have hC11 := hC10.below hd11
      have iA11 := iA
      obtain ⟨ea, hea⟩ : ∃ z, ra.2.2 = z := ⟨_, rfl⟩
      obtain ⟨pa, hpa⟩ : ∃ z, ra.1 = z := ⟨_, rfl⟩
      have Hok := hide (ask_ok (x := (pid, pg, pv, pse, pbu, po, pn, pqu)) (o := opD) hO10.ok)
      rw [Hra.out] at Hok
      rw [hea, hpa] at Hok
      rw [hea]
      rw [hpa] at iA iA11
      clear Hra hea hpa
      obtain ⟨qid, qg, qv, qse, qbu, qo, qn, qqu, q1, q2, q6, q7, q8, q9, q10, q11, q12, rfl, rfl, -, -, -, -, -, -, -⟩ := Proxy_parts iA
      rcases bool_two (ea == 0) with q5 | q5
      rotate_left
      · obtain ⟨g21, hg21⟩ : ∃ m, w11.heap.size = m := ⟨_, rfl⟩
        obtain ⟨w11z, hw11z⟩ : ∃ x, w11.alloc (.cells #[.int .i64 0, .int .i64 0, .slice none 0 0, .int .i64 0, .int .i64 0, .bool false, .int .u8 0, .int .i64 0, .int .i64 0, .slice none 0 0, .slice none 0 0, .int .i64 0, .slice none 0 0, .int .i64 0] 30) = x := ⟨_, rfl⟩
        have hZ11 : Blk w11z g21 [.int .i64 0, .int .i64 0, .slice none 0 0, .int .i64 0, .int .i64 0, .bool false, .int .u8 0, .int .i64 0, .int .i64 0, .slice none 0 0, .slice none 0 0, .int .i64 0, .slice none 0 0, .int .i64 0] 30 := by rw [← hw11z, ← hg21]; exact Blk.new w11 _ _
        have bz11 : Below w11.heap.size w11 w11z := by rw [← hw11z]; exact (Below.refl _ _).alloc (Nat.le_refl _) _
        obtain ⟨w12, hw12⟩ : ∃ x, w11z.setRow g21 #[.int .i64 qid, q1, q2, .int .i64 qv, .int .i64 qse, .bool qbu, q6, q7, q8, q9, q10, q11, q12, .int .i64 qqu] = x := ⟨_, rfl⟩
        have hF12 : Fr (fun b => b = g21) w11z w12 := by rw [← hw12]; exact Fr.row (X := fun b => b = g21) rfl w11z _
        have hX12 : Blk w12 g21 [.int .i64 qid, q1, q2, .int .i64 qv, .int .i64 qse, .bool qbu, q6, q7, q8, q9, q10, q11, q12, .int .i64 qqu] 30 := by rw [← hw12]; exact hZ11.setAll [.int .i64 qid, q1, q2, .int .i64 qv, .int .i64 qse, .bool qbu, q6, q7, q8, q9, q10, q11, q12, .int .i64 qqu]
        have hd12 : Below w11.heap.size w11 w12 := hF12.below bz11 bz11.size (fun b hb => by have hb' : b = g21 := hb; omega)
        have b12 := b11.trans (hd12.mono b11.size)
        have s12 := hd12.size
        have hO12 := hO11.below hd12
        have hC12 := hC11.below hd12
        have iA12 := iA11.below hd12
        have y4 := hO12.pb.cell (j := 4) rfl
        have tS : (pse != pse) = false := by simp
        have Hw11z := hide hw11z
        have Hg21 := hide hg21
        have Hst11 := hide hw12
        clear hw12 hw11z hg21
        go_wp2_with (first | (with_reducible refine stop_load 30 rfl ?_) | (with_reducible refine stop_store 30 rfl ?_) | (with_reducible refine stop_load 28 rfl ?_) | (with_reducible refine stop_store 28 rfl ?_) | (with_reducible refine stop_load 49 rfl ?_) | (with_reducible refine stop_store 49 rfl ?_) | (with_reducible refine stop_load 24 rfl ?_) | (with_reducible refine stop_store 24 rfl ?_) | (with_reducible refine stop_load 58 rfl ?_) | (with_reducible refine stop_store 58 rfl ?_) | (with_reducible refine stop_load 68 rfl ?_) | (with_reducible refine stop_store 68 rfl ?_))
        rw [Hw11z.out]
        try rw [Hg21.out]
        refine go_store rfl rfl rfl rfl rfl hZ11 (by kernel_rfl) rfl (us := [.int .i64 qid, q1, q2, .int .i64 qv, .int .i64 qse, .bool qbu, q6, q7, q8, q9, q10, q11, q12, .int .i64 qqu]) iA.ones ?_
        rw [show w11z.setRow g21 ([.int .i64 qid, q1, q2, .int .i64 qv, .int .i64 qse, .bool qbu, q6, q7, q8, q9, q10, q11, q12, .int .i64 qqu] : List Value).toArray = w12 from Hst11.out]
        go_wp2_with (first | (with_reducible refine stop_load 30 rfl ?_) | (with_reducible refine stop_store 30 rfl ?_) | (with_reducible refine stop_load 28 rfl ?_) | (with_reducible refine stop_store 28 rfl ?_) | (with_reducible refine stop_load 49 rfl ?_) | (with_reducible refine stop_store 49 rfl ?_) | (with_reducible refine stop_load 24 rfl ?_) | (with_reducible refine stop_store 24 rfl ?_) | (with_reducible refine stop_load 58 rfl ?_) | (with_reducible refine stop_store 58 rfl ?_) | (with_reducible refine stop_load 68 rfl ?_) | (with_reducible refine stop_store 68 rfl ?_))
        refine go_loadG rfl rfl (k := 0) rfl hO12.pb [.int .i64 pid, p1, p2, .int .i64 pv, .int .i64 pse, .bool pbu, p6, p7, p8, p9, p10, p11, p12, .int .i64 pqu] rfl Try.underlying30 rfl (by kernel_rfl) ?_
        go_wp2_with (first | (with_reducible refine stop_load 30 rfl ?_) | (with_reducible refine stop_store 30 rfl ?_) | (with_reducible refine stop_load 28 rfl ?_) | (with_reducible refine stop_store 28 rfl ?_) | (with_reducible refine stop_load 49 rfl ?_) | (with_reducible refine stop_store 49 rfl ?_) | (with_reducible refine stop_load 24 rfl ?_) | (with_reducible refine stop_store 24 rfl ?_) | (with_reducible refine stop_load 58 rfl ?_) | (with_reducible refine stop_store 58 rfl ?_) | (with_reducible refine stop_load 68 rfl ?_) | (with_reducible refine stop_store 68 rfl ?_))
        have HE := hide (prE_ok hO12.ok)
        go_fit (rprC_any hO12.is)
        rintro xx wE ⟨rfl, hdE⟩
        rw [HE.out]
        have hOE := hide (hO12.below hdE)
        clear y4 HE
        go_wp2
        go_roundw
        case rel => exact ⟨k + 1, told, (pid, pg, pv, pse, pbu, po, pn, pqu), _, by omega, by omega, by go_num, by omega, hOE⟩
        case measure => simp [intOf]; omega
      have he0 : ea = 0 := beq_iff_eq.1 q5
      obtain ⟨ok1, ok2, -⟩ := Hok.out he0
      subst he0
      clear q5
      have hqs : qse = pse + 1 := ok2
      have hwr : IntKind.i64.wrap (pse + 1) = pse + 1 := IntWalk.i64_in _ (by omega)
      clear ok2
      subst hqs
      obtain ⟨g21, hg21⟩ : ∃ m, w11.heap.size = m := ⟨_, rfl⟩
      obtain ⟨w11z, hw11z⟩ : ∃ x, w11.alloc (.cells #[.int .i64 0, .int .i64 0, .slice none 0 0, .int .i64 0, .int .i64 0, .bool false, .int .u8 0, .int .i64 0, .int .i64 0, .slice none 0 0, .slice none 0 0, .int .i64 0, .slice none 0 0, .int .i64 0] 30) = x := ⟨_, rfl⟩
      have hZ11 : Blk w11z g21 [.int .i64 0, .int .i64 0, .slice none 0 0, .int .i64 0, .int .i64 0, .bool false, .int .u8 0, .int .i64 0, .int .i64 0, .slice none 0 0, .slice none 0 0, .int .i64 0, .slice none 0 0, .int .i64 0] 30 := by rw [← hw11z, ← hg21]; exact Blk.new w11 _ _
      have bz11 : Below w11.heap.size w11 w11z := by rw [← hw11z]; exact (Below.refl _ _).alloc (Nat.le_refl _) _
      obtain ⟨w12, hw12⟩ : ∃ x, w11z.setRow g21 #[.int .i64 qid, q1, q2, .int .i64 qv, .int .i64 (pse + 1), .bool qbu, q6, q7, q8, q9, q10, q11, q12, .int .i64 qqu] = x := ⟨_, rfl⟩
      have hF12 : Fr (fun b => b = g21) w11z w12 := by rw [← hw12]; exact Fr.row (X := fun b => b = g21) rfl w11z _
      have hX12 : Blk w12 g21 [.int .i64 qid, q1, q2, .int .i64 qv, .int .i64 (pse + 1), .bool qbu, q6, q7, q8, q9, q10, q11, q12, .int .i64 qqu] 30 := by rw [← hw12]; exact hZ11.setAll [.int .i64 qid, q1, q2, .int .i64 qv, .int .i64 (pse + 1), .bool qbu, q6, q7, q8, q9, q10, q11, q12, .int .i64 qqu]
      have hd12 : Below w11.heap.size w11 w12 := hF12.below bz11 bz11.size (fun b hb => by have hb' : b = g21 := hb; omega)
      have b12 := b11.trans (hd12.mono b11.size)
      have s12 := hd12.size
      have hO12 := hO11.below hd12
      have hC12 := hC11.below hd12
      have iA12 := iA11.below hd12
      have Hw11z := hide hw11z
      have Hg21 := hide hg21
      have Hst11 := hide hw12
      clear hw12 hw11z hg21
      go_wp2_with (first | (with_reducible refine stop_load 30 rfl ?_) | (with_reducible refine stop_store 30 rfl ?_) | (with_reducible refine stop_load 28 rfl ?_) | (with_reducible refine stop_store 28 rfl ?_) | (with_reducible refine stop_load 49 rfl ?_) | (with_reducible refine stop_store 49 rfl ?_) | (with_reducible refine stop_load 24 rfl ?_) | (with_reducible refine stop_store 24 rfl ?_) | (with_reducible refine stop_load 58 rfl ?_) | (with_reducible refine stop_store 58 rfl ?_) | (with_reducible refine stop_load 68 rfl ?_) | (with_reducible refine stop_store 68 rfl ?_))
      rw [Hw11z.out]
      try rw [Hg21.out]
      refine go_store rfl rfl rfl rfl rfl hZ11 (by kernel_rfl) rfl (us := [.int .i64 qid, q1, q2, .int .i64 qv, .int .i64 (pse + 1), .bool qbu, q6, q7, q8, q9, q10, q11, q12, .int .i64 qqu]) iA.ones ?_
      rw [show w11z.setRow g21 ([.int .i64 qid, q1, q2, .int .i64 qv, .int .i64 (pse + 1), .bool qbu, q6, q7, q8, q9, q10, q11, q12, .int .i64 qqu] : List Value).toArray = w12 from Hst11.out]
      go_wp2_with (first | (with_reducible refine stop_load 30 rfl ?_) | (with_reducible refine stop_store 30 rfl ?_) | (with_reducible refine stop_load 28 rfl ?_) | (with_reducible refine stop_store 28 rfl ?_) | (with_reducible refine stop_load 49 rfl ?_) | (with_reducible refine stop_store 49 rfl ?_) | (with_reducible refine stop_load 24 rfl ?_) | (with_reducible refine stop_store 24 rfl ?_) | (with_reducible refine stop_load 58 rfl ?_) | (with_reducible refine stop_store 58 rfl ?_) | (with_reducible refine stop_load 68 rfl ?_) | (with_reducible refine stop_store 68 rfl ?_))
      refine go_loadG rfl rfl (k := 0) rfl hX12 [.int .i64 qid, q1, q2, .int .i64 qv, .int .i64 (pse + 1), .bool qbu, q6, q7, q8, q9, q10, q11, q12, .int .i64 qqu] rfl Try.underlying30 rfl (by kernel_rfl) ?_
      go_wp2_with (first | (with_reducible refine stop_load 30 rfl ?_) | (with_reducible refine stop_store 30 rfl ?_) | (with_reducible refine stop_load 28 rfl ?_) | (with_reducible refine stop_store 28 rfl ?_) | (with_reducible refine stop_load 49 rfl ?_) | (with_reducible refine stop_store 49 rfl ?_) | (with_reducible refine stop_load 24 rfl ?_) | (with_reducible refine stop_store 24 rfl ?_) | (with_reducible refine stop_load 58 rfl ?_) | (with_reducible refine stop_store 58 rfl ?_) | (with_reducible refine stop_load 68 rfl ?_) | (with_reducible refine stop_store 68 rfl ?_))
      obtain ⟨w13, hw13⟩ : ∃ x, w12.setRow gg #[.int .i64 qid, q1, q2, .int .i64 qv, .int .i64 (pse + 1), .bool qbu, q6, q7, q8, q9, q10, q11, q12, .int .i64 qqu] = x := ⟨_, rfl⟩
      have hF13 : Fr (fun b => b = gg) w12 w13 := by rw [← hw13]; exact Fr.row (X := fun b => b = gg) rfl w12 _
      have hB13 : Blk w13 gg [.int .i64 qid, q1, q2, .int .i64 qv, .int .i64 (pse + 1), .bool qbu, q6, q7, q8, q9, q10, q11, q12, .int .i64 qqu] 30 := by rw [← hw13]; exact hO12.pb.setAll [.int .i64 qid, q1, q2, .int .i64 qv, .int .i64 (pse + 1), .bool qbu, q6, q7, q8, q9, q10, q11, q12, .int .i64 qqu]
      have hO13 : OnI w gg w13 _ told (qid, qg, qv, (pse + 1), qbu, qo, qn, qqu) [.int .i64 qid, q1, q2, .int .i64 qv, .int .i64 (pse + 1), .bool qbu, q6, q7, q8, q9, q10, q11, q12, .int .i64 qqu] := hO12.put (N := w10.heap.size) (by have := hO10.pb.lt; omega) (fun g hg => (own_lt24 hO10.ow g hg).2) hF13 hB13 iA12 ok1 (hO12.tl.ask rfl)
      have b13 : Below w.heap.size w w13 := by rw [hgg]; exact hO13.bl
      have s13 := b13.size
      have Hst12 := hide hw13
      clear hw13
      refine go_store rfl rfl rfl rfl rfl hO12.pb (by kernel_rfl) rfl (us := [.int .i64 qid, q1, q2, .int .i64 qv, .int .i64 (pse + 1), .bool qbu, q6, q7, q8, q9, q10, q11, q12, .int .i64 qqu]) iA.ones ?_
      rw [show w12.setRow gg ([.int .i64 qid, q1, q2, .int .i64 qv, .int .i64 (pse + 1), .bool qbu, q6, q7, q8, q9, q10, q11, q12, .int .i64 qqu] : List Value).toArray = w13 from Hst12.out]
      have y4 := hO13.pb.cell (j := 4) rfl
      have tS : (pse + 1 != pse + 1) = false := by simp
      go_wp2_with (first | (with_reducible refine stop_load 30 rfl ?_) | (with_reducible refine stop_store 30 rfl ?_) | (with_reducible refine stop_load 28 rfl ?_) | (with_reducible refine stop_store 28 rfl ?_) | (with_reducible refine stop_load 49 rfl ?_) | (with_reducible refine stop_store 49 rfl ?_) | (with_reducible refine stop_load 24 rfl ?_) | (with_reducible refine stop_store 24 rfl ?_) | (with_reducible refine stop_load 58 rfl ?_) | (with_reducible refine stop_store 58 rfl ?_) | (with_reducible refine stop_load 68 rfl ?_) | (with_reducible refine stop_store 68 rfl ?_))
      refine go_loadG rfl rfl (k := 0) rfl hO13.pb [.int .i64 qid, q1, q2, .int .i64 qv, .int .i64 (pse + 1), .bool qbu, q6, q7, q8, q9, q10, q11, q12, .int .i64 qqu] rfl Try.underlying30 rfl (by kernel_rfl) ?_
      go_wp2_with (first | (with_reducible refine stop_load 30 rfl ?_) | (with_reducible refine stop_store 30 rfl ?_) | (with_reducible refine stop_load 28 rfl ?_) | (with_reducible refine stop_store 28 rfl ?_) | (with_reducible refine stop_load 49 rfl ?_) | (with_reducible refine stop_store 49 rfl ?_) | (with_reducible refine stop_load 24 rfl ?_) | (with_reducible refine stop_store 24 rfl ?_) | (with_reducible refine stop_load 58 rfl ?_) | (with_reducible refine stop_store 58 rfl ?_) | (with_reducible refine stop_load 68 rfl ?_) | (with_reducible refine stop_store 68 rfl ?_))
      have HE := hide (prE_ok hO13.ok)
      go_fit (rprC_any hO13.is)
      rintro xx wE ⟨rfl, hdE⟩
      rw [HE.out]
      have hOE := hide (hO13.below hdE)
      clear y4 HE
      go_wp2
      go_roundw
      case rel => exact ⟨k + 1, told, (qid, qg, qv, (pse + 1), qbu, qo, qn, qqu), _, by omega, by omega, by go_num, by omega, hOE⟩
      case measure => simp [intOf]; omega
    rcases bool_two (((ms.1 : Nat) : Int) != 0) with q4 | q4
    · go_wp2_with (first | (with_reducible refine stop_load 30 rfl ?_) | (with_reducible refine stop_store 30 rfl ?_) | (with_reducible refine stop_load 28 rfl ?_) | (with_reducible refine stop_store 28 rfl ?_) | (with_reducible refine stop_load 49 rfl ?_) | (with_reducible refine stop_store 49 rfl ?_) | (with_reducible refine stop_load 24 rfl ?_) | (with_reducible refine stop_store 24 rfl ?_) | (with_reducible refine stop_load 58 rfl ?_) | (with_reducible refine stop_store 58 rfl ?_) | (with_reducible refine stop_load 68 rfl ?_) | (with_reducible refine stop_store 68 rfl ?_))
      refine go_loadG rfl rfl (k := 0) rfl hO10.pb [.int .i64 pid, p1, p2, .int .i64 pv, .int .i64 pse, .bool pbu, p6, p7, p8, p9, p10, p11, p12, .int .i64 pqu] rfl Try.underlying30 rfl (by kernel_rfl) ?_
      go_wp2_with (first | (with_reducible refine stop_load 30 rfl ?_) | (with_reducible refine stop_store 30 rfl ?_) | (with_reducible refine stop_load 28 rfl ?_) | (with_reducible refine stop_store 28 rfl ?_) | (with_reducible refine stop_load 49 rfl ?_) | (with_reducible refine stop_store 49 rfl ?_) | (with_reducible refine stop_load 24 rfl ?_) | (with_reducible refine stop_store 24 rfl ?_) | (with_reducible refine stop_load 58 rfl ?_) | (with_reducible refine stop_store 58 rfl ?_) | (with_reducible refine stop_load 68 rfl ?_) | (with_reducible refine stop_store 68 rfl ?_))
      refine go_loadG rfl rfl (k := 5) rfl hC10 [.int .u8 ((ms.1 : Nat) : Int), z6, z7, z8, z9, z10, z11, z12, z13, z14, z15, z16, z17, z18, z19, z20, z21, z22, z23, z24, z25, z26, z27, z28, z29, z30, z31, z32] rfl Try.underlying58 rfl (by kernel_rfl) ?_
      go_wp2_with (first | (with_reducible refine stop_load 30 rfl ?_) | (with_reducible refine stop_store 30 rfl ?_) | (with_reducible refine stop_load 28 rfl ?_) | (with_reducible refine stop_store 28 rfl ?_) | (with_reducible refine stop_load 49 rfl ?_) | (with_reducible refine stop_store 49 rfl ?_) | (with_reducible refine stop_load 24 rfl ?_) | (with_reducible refine stop_store 24 rfl ?_) | (with_reducible refine stop_load 58 rfl ?_) | (with_reducible refine stop_store 58 rfl ?_) | (with_reducible refine stop_load 68 rfl ?_) | (with_reducible refine stop_store 68 rfl ?_))
      obtain ⟨rt, hrt⟩ : ∃ z, takeD (pid, pg, pv, pse, pbu, po, pn, pqu) ms = z := ⟨_, rfl⟩
      have Hrt := hide hrt
      have hc := mTake_any hO10.is iM10 hL10.out
      rw [hrt] at hc
      clear hrt
      go_fit (hc)
      rintro xx w11 ⟨lA, AA, nA, cA, fA, rfl, iA, -, tA, hd11⟩
      have b11 := b10.trans (hd11.mono b10.size)
      have s11 := hd11.size
      have hO11 := hO10.below hd11
      have hC11 := hC10.below hd11
      have iA11 := iA
      obtain ⟨ea, hea⟩ : ∃ z, rt.2.2.2 = z := ⟨_, rfl⟩
      obtain ⟨pa, hpa⟩ : ∃ z, rt.1 = z := ⟨_, rfl⟩
      have Hok := hide (take_ok (x := (pid, pg, pv, pse, pbu, po, pn, pqu)) (y := ms) hO10.ok)
      rw [Hrt.out] at Hok
      rw [hea, hpa] at Hok
      rw [hea]
      rw [hpa] at iA iA11
      clear Hrt hea hpa
      obtain ⟨qid, qg, qv, qse, qbu, qo, qn, qqu, q1, q2, q6, q7, q8, q9, q10, q11, q12, rfl, rfl, -, -, -, -, -, -, -⟩ := Proxy_parts iA
      obtain ⟨u0_, u1_, rfl⟩ := list_2 (tA.len : fA.length = 2)
      obtain ⟨g21, hg21⟩ : ∃ m, w11.heap.size = m := ⟨_, rfl⟩
      obtain ⟨w11z, hw11z⟩ : ∃ x, (w11.alloc (.cells #[.int .i64 0, .int .i64 0, .slice none 0 0, .int .i64 0, .int .i64 0, .bool false, .int .u8 0, .int .i64 0, .int .i64 0, .slice none 0 0, .slice none 0 0, .int .i64 0, .slice none 0 0, .int .i64 0] 30)).alloc (.cells #[.int .u8 0, .slice none 0 0] 49) = x := ⟨_, rfl⟩
      have hZ11 : Blk w11z g21 [.int .i64 0, .int .i64 0, .slice none 0 0, .int .i64 0, .int .i64 0, .bool false, .int .u8 0, .int .i64 0, .int .i64 0, .slice none 0 0, .slice none 0 0, .int .i64 0, .slice none 0 0, .int .i64 0] 30 := by rw [← hw11z, ← hg21]; exact (Blk.new w11 _ _).alloc _
      have hY11 : Blk w11z (g21 + 1) [.int .u8 0, .slice none 0 0] 49 := by
        rw [← hw11z, ← hg21]
        have := Blk.new (w11.alloc (.cells #[.int .i64 0, .int .i64 0, .slice none 0 0, .int .i64 0, .int .i64 0, .bool false, .int .u8 0, .int .i64 0, .int .i64 0, .slice none 0 0, .slice none 0 0, .int .i64 0, .slice none 0 0, .int .i64 0] 30)) [.int .u8 0, .slice none 0 0] 49
        rwa [World.size_alloc] at this
      have bz11 : Below w11.heap.size w11 w11z := by rw [← hw11z]; exact ((Below.refl _ _).alloc (Nat.le_refl _) _).alloc (by simp) _
      have sz11 := bz11.size
      obtain ⟨w11y, hw11y⟩ : ∃ x, w11z.setRow g21 #[.int .i64 qid, q1, q2, .int .i64 qv, .int .i64 qse, .bool qbu, q6, q7, q8, q9, q10, q11, q12, .int .i64 qqu] = x := ⟨_, rfl⟩
      have hFz11 : Fr (fun b => b = g21) w11z w11y := by rw [← hw11y]; exact Fr.row (X := fun b => b = g21) rfl w11z _
      have hZy11 : Blk w11y g21 [.int .i64 qid, q1, q2, .int .i64 qv, .int .i64 qse, .bool qbu, q6, q7, q8, q9, q10, q11, q12, .int .i64 qqu] 30 := by rw [← hw11y]; exact hZ11.setAll [.int .i64 qid, q1, q2, .int .i64 qv, .int .i64 qse, .bool qbu, q6, q7, q8, q9, q10, q11, q12, .int .i64 qqu]
      have hYy11 := hY11.fr hFz11 (by omega)
      have by11 := hFz11.below bz11 bz11.size (fun b hb => by have hb' : b = g21 := hb; omega)
      have sy11 := by11.size
      obtain ⟨w12, hw12⟩ : ∃ x, w11y.setRow (g21 + 1) #[u0_, u1_] = x := ⟨_, rfl⟩
      have hFy11 : Fr (fun b => b = g21 + 1) w11y w12 := by rw [← hw12]; exact Fr.row (X := fun b => b = g21 + 1) rfl w11y _
      have hX12 := hZy11.fr hFy11 (by omega)
      have hd12 : Below w11.heap.size w11 w12 := hFy11.below by11 by11.size (fun b hb => by have hb' : b = g21 + 1 := hb; omega)
      have b12 := b11.trans (hd12.mono b11.size)
      have s12 := hd12.size
      have hO12 := hO11.below hd12
      have hC12 := hC11.below hd12
      have iA12 := iA11.below hd12
      have Hw11z := hide hw11z
      have Hg21 := hide hg21
      have Hst11 := hide hw11y
      have Hsu11 := hide hw12
      clear hw12 hw11z hw11y hg21
      go_wp2_with (first | (with_reducible refine stop_load 30 rfl ?_) | (with_reducible refine stop_store 30 rfl ?_) | (with_reducible refine stop_load 28 rfl ?_) | (with_reducible refine stop_store 28 rfl ?_) | (with_reducible refine stop_load 49 rfl ?_) | (with_reducible refine stop_store 49 rfl ?_) | (with_reducible refine stop_load 24 rfl ?_) | (with_reducible refine stop_store 24 rfl ?_) | (with_reducible refine stop_load 58 rfl ?_) | (with_reducible refine stop_store 58 rfl ?_) | (with_reducible refine stop_load 68 rfl ?_) | (with_reducible refine stop_store 68 rfl ?_))
      rw [Hw11z.out]
      try rw [Hg21.out]
      refine go_store rfl rfl rfl rfl rfl hZ11 (by kernel_rfl) rfl (us := [.int .i64 qid, q1, q2, .int .i64 qv, .int .i64 qse, .bool qbu, q6, q7, q8, q9, q10, q11, q12, .int .i64 qqu]) iA.ones ?_
      rw [show w11z.setRow g21 ([.int .i64 qid, q1, q2, .int .i64 qv, .int .i64 qse, .bool qbu, q6, q7, q8, q9, q10, q11, q12, .int .i64 qqu] : List Value).toArray = w11y from Hst11.out]
      go_wp2_with (first | (with_reducible refine stop_load 30 rfl ?_) | (with_reducible refine stop_store 30 rfl ?_) | (with_reducible refine stop_load 28 rfl ?_) | (with_reducible refine stop_store 28 rfl ?_) | (with_reducible refine stop_load 49 rfl ?_) | (with_reducible refine stop_store 49 rfl ?_) | (with_reducible refine stop_load 24 rfl ?_) | (with_reducible refine stop_store 24 rfl ?_) | (with_reducible refine stop_load 58 rfl ?_) | (with_reducible refine stop_store 58 rfl ?_) | (with_reducible refine stop_load 68 rfl ?_) | (with_reducible refine stop_store 68 rfl ?_))
      refine go_store rfl rfl rfl rfl rfl hYy11 (by kernel_rfl) rfl (us := [u0_, u1_]) tA.ones ?_
      rw [show w11y.setRow (g21 + 1) ([u0_, u1_] : List Value).toArray = w12 from Hsu11.out]
      go_wp2_with (first | (with_reducible refine stop_load 30 rfl ?_) | (with_reducible refine stop_store 30 rfl ?_) | (with_reducible refine stop_load 28 rfl ?_) | (with_reducible refine stop_store 28 rfl ?_) | (with_reducible refine stop_load 49 rfl ?_) | (with_reducible refine stop_store 49 rfl ?_) | (with_reducible refine stop_load 24 rfl ?_) | (with_reducible refine stop_store 24 rfl ?_) | (with_reducible refine stop_load 58 rfl ?_) | (with_reducible refine stop_store 58 rfl ?_) | (with_reducible refine stop_load 68 rfl ?_) | (with_reducible refine stop_store 68 rfl ?_))
      refine go_loadG rfl rfl (k := 0) rfl hX12 [.int .i64 qid, q1, q2, .int .i64 qv, .int .i64 qse, .bool qbu, q6, q7, q8, q9, q10, q11, q12, .int .i64 qqu] rfl Try.underlying30 rfl (by kernel_rfl) ?_
      go_wp2_with (first | (with_reducible refine stop_load 30 rfl ?_) | (with_reducible refine stop_store 30 rfl ?_) | (with_reducible refine stop_load 28 rfl ?_) | (with_reducible refine stop_store 28 rfl ?_) | (with_reducible refine stop_load 49 rfl ?_) | (with_reducible refine stop_store 49 rfl ?_) | (with_reducible refine stop_load 24 rfl ?_) | (with_reducible refine stop_store 24 rfl ?_) | (with_reducible refine stop_load 58 rfl ?_) | (with_reducible refine stop_store 58 rfl ?_) | (with_reducible refine stop_load 68 rfl ?_) | (with_reducible refine stop_store 68 rfl ?_))
      obtain ⟨ok1, ok2, ok3, ok4⟩ := Hok.out
      have hqs : qse = pse := ok2
      subst hqs
      have HT : Told (qid, qg, qv, qse, qbu, qo, qn, qqu) told := by
        cases ea with
        | true => exact Told.idle hO10.tl rfl (ok3 rfl).2
        | false => exact Told.stay hO10.tl rfl (ok4 rfl)
      have HT2 := hide (fun (e : ea = true) => Told.told (y := (qid, qg, qv, qse, qbu, qo, qn, qqu)) hO10.tl rfl (ok3 e).1 (ok3 e).2)
      clear ok2 ok3 ok4
      obtain ⟨w13, hw13⟩ : ∃ x, w12.setRow gg #[.int .i64 qid, q1, q2, .int .i64 qv, .int .i64 qse, .bool qbu, q6, q7, q8, q9, q10, q11, q12, .int .i64 qqu] = x := ⟨_, rfl⟩
      have hF13 : Fr (fun b => b = gg) w12 w13 := by rw [← hw13]; exact Fr.row (X := fun b => b = gg) rfl w12 _
      have hB13 : Blk w13 gg [.int .i64 qid, q1, q2, .int .i64 qv, .int .i64 qse, .bool qbu, q6, q7, q8, q9, q10, q11, q12, .int .i64 qqu] 30 := by rw [← hw13]; exact hO12.pb.setAll [.int .i64 qid, q1, q2, .int .i64 qv, .int .i64 qse, .bool qbu, q6, q7, q8, q9, q10, q11, q12, .int .i64 qqu]
      have hO13 : OnI w gg w13 _ told (qid, qg, qv, qse, qbu, qo, qn, qqu) [.int .i64 qid, q1, q2, .int .i64 qv, .int .i64 qse, .bool qbu, q6, q7, q8, q9, q10, q11, q12, .int .i64 qqu] := hO12.put (N := w10.heap.size) (by have := hO10.pb.lt; omega) (fun g hg => (own_lt24 hO10.ow g hg).2) hF13 hB13 iA12 ok1 HT
      have b13 : Below w.heap.size w w13 := by rw [hgg]; exact hO13.bl
      have s13 := b13.size
      have Hst12 := hide hw13
      clear hw13
      refine go_store rfl rfl rfl rfl rfl hO12.pb (by kernel_rfl) rfl (us := [.int .i64 qid, q1, q2, .int .i64 qv, .int .i64 qse, .bool qbu, q6, q7, q8, q9, q10, q11, q12, .int .i64 qqu]) iA.ones ?_
      rw [show w12.setRow gg ([.int .i64 qid, q1, q2, .int .i64 qv, .int .i64 qse, .bool qbu, q6, q7, q8, q9, q10, q11, q12, .int .i64 qqu] : List Value).toArray = w13 from Hst12.out]
      cases ea with
      | false =>
        have y4 := hO13.pb.cell (j := 4) rfl
        have tS : (qse != qse) = false := by simp
        go_wp2_with (first | (with_reducible refine stop_load 30 rfl ?_) | (with_reducible refine stop_store 30 rfl ?_) | (with_reducible refine stop_load 28 rfl ?_) | (with_reducible refine stop_store 28 rfl ?_) | (with_reducible refine stop_load 49 rfl ?_) | (with_reducible refine stop_store 49 rfl ?_) | (with_reducible refine stop_load 24 rfl ?_) | (with_reducible refine stop_store 24 rfl ?_) | (with_reducible refine stop_load 58 rfl ?_) | (with_reducible refine stop_store 58 rfl ?_) | (with_reducible refine stop_load 68 rfl ?_) | (with_reducible refine stop_store 68 rfl ?_))
        refine go_loadG rfl rfl (k := 0) rfl hO13.pb [.int .i64 qid, q1, q2, .int .i64 qv, .int .i64 qse, .bool qbu, q6, q7, q8, q9, q10, q11, q12, .int .i64 qqu] rfl Try.underlying30 rfl (by kernel_rfl) ?_
        go_wp2_with (first | (with_reducible refine stop_load 30 rfl ?_) | (with_reducible refine stop_store 30 rfl ?_) | (with_reducible refine stop_load 28 rfl ?_) | (with_reducible refine stop_store 28 rfl ?_) | (with_reducible refine stop_load 49 rfl ?_) | (with_reducible refine stop_store 49 rfl ?_) | (with_reducible refine stop_load 24 rfl ?_) | (with_reducible refine stop_store 24 rfl ?_) | (with_reducible refine stop_load 58 rfl ?_) | (with_reducible refine stop_store 58 rfl ?_) | (with_reducible refine stop_load 68 rfl ?_) | (with_reducible refine stop_store 68 rfl ?_))
        have HE := hide (prE_ok hO13.ok)
        go_fit (rprC_any hO13.is)
        rintro xx wE ⟨rfl, hdE⟩
        rw [HE.out]
        have hOE := hide (hO13.below hdE)
        clear y4 HE
        go_wp2
        go_roundw
        case rel => exact ⟨k + 1, told, (qid, qg, qv, qse, qbu, qo, qn, qqu), _, by omega, by omega, by go_num, by omega, hOE⟩
        case measure => simp [intOf]; omega
      | true =>
        have y4 := hO13.pb.cell (j := 4) rfl
        go_wp2_with (first | (with_reducible refine stop_append rfl ?_) | (with_reducible refine stop_copy rfl ?_) | (with_reducible refine stop_make rfl ?_))
        refine (Grow.start hO13.ow (by have := hO13.pb.lt; omega)).push (u := .int .i64 qse) rfl rfl rfl tInts rfl rfl rfl (by omega) (by omega) ?_
        intro v' w14 hG14 _
        have hO14 := hO13.grow hG14 (HT2.out (by first | exact rfl | exact trivial))
        clear y4
        have y4 := hO14.pb.cell (j := 4) rfl
        have tS : (qse != qse) = false := by simp
        go_wp2_with (first | (with_reducible refine stop_load 30 rfl ?_) | (with_reducible refine stop_store 30 rfl ?_) | (with_reducible refine stop_load 28 rfl ?_) | (with_reducible refine stop_store 28 rfl ?_) | (with_reducible refine stop_load 49 rfl ?_) | (with_reducible refine stop_store 49 rfl ?_) | (with_reducible refine stop_load 24 rfl ?_) | (with_reducible refine stop_store 24 rfl ?_) | (with_reducible refine stop_load 58 rfl ?_) | (with_reducible refine stop_store 58 rfl ?_) | (with_reducible refine stop_load 68 rfl ?_) | (with_reducible refine stop_store 68 rfl ?_))
        refine go_loadG rfl rfl (k := 0) rfl hO14.pb [.int .i64 qid, q1, q2, .int .i64 qv, .int .i64 qse, .bool qbu, q6, q7, q8, q9, q10, q11, q12, .int .i64 qqu] rfl Try.underlying30 rfl (by kernel_rfl) ?_
        go_wp2_with (first | (with_reducible refine stop_load 30 rfl ?_) | (with_reducible refine stop_store 30 rfl ?_) | (with_reducible refine stop_load 28 rfl ?_) | (with_reducible refine stop_store 28 rfl ?_) | (with_reducible refine stop_load 49 rfl ?_) | (with_reducible refine stop_store 49 rfl ?_) | (with_reducible refine stop_load 24 rfl ?_) | (with_reducible refine stop_store 24 rfl ?_) | (with_reducible refine stop_load 58 rfl ?_) | (with_reducible refine stop_store 58 rfl ?_) | (with_reducible refine stop_load 68 rfl ?_) | (with_reducible refine stop_store 68 rfl ?_))
        have HE := hide (prE_ok hO14.ok)
        go_fit (rprC_any hO14.is)
        rintro xx wE ⟨rfl, hdE⟩
        rw [HE.out]
        have hOE := hide (hO14.below hdE)
        clear y4 HE
        go_wp2
        go_roundw
        case rel => exact ⟨k + 1, told ++ [qse], (qid, qg, qv, qse, qbu, qo, qn, qqu), _, by omega, by omega, by go_num, by simp; omega, hOE⟩
        case measure => simp [intOf]; omega
    go_wp2_with (first | (with_reducible refine stop_load 30 rfl ?_) | (with_reducible refine stop_store 30 rfl ?_) | (with_reducible refine stop_load 28 rfl ?_) | (with_reducible refine stop_store 28 rfl ?_) | (with_reducible refine stop_load 49 rfl ?_) | (with_reducible refine stop_store 49 rfl ?_) | (with_reducible refine stop_load 24 rfl ?_) | (with_reducible refine stop_store 24 rfl ?_) | (with_reducible refine stop_load 58 rfl ?_) | (with_reducible refine stop_store 58 rfl ?_) | (with_reducible refine stop_load 68 rfl ?_) | (with_reducible refine stop_store 68 rfl ?_))
    refine go_loadG rfl rfl (k := 0) rfl hO10.pb [.int .i64 pid, p1, p2, .int .i64 pv, .int .i64 pse, .bool pbu, p6, p7, p8, p9, p10, p11, p12, .int .i64 pqu] rfl Try.underlying30 rfl (by kernel_rfl) ?_
    go_wp2_with (first | (with_reducible refine stop_load 30 rfl ?_) | (with_reducible refine stop_store 30 rfl ?_) | (with_reducible refine stop_load 28 rfl ?_) | (with_reducible refine stop_store 28 rfl ?_) | (with_reducible refine stop_load 49 rfl ?_) | (with_reducible refine stop_store 49 rfl ?_) | (with_reducible refine stop_load 24 rfl ?_) | (with_reducible refine stop_store 24 rfl ?_) | (with_reducible refine stop_load 58 rfl ?_) | (with_reducible refine stop_store 58 rfl ?_) | (with_reducible refine stop_load 68 rfl ?_) | (with_reducible refine stop_store 68 rfl ?_))
    obtain ⟨rt, hrt⟩ : ∃ z, tickD (pid, pg, pv, pse, pbu, po, pn, pqu) = z := ⟨_, rfl⟩
    have Hrt := hide hrt
    have hc := mTick2_any hO10.is hL10.out
    rw [hrt] at hc
    clear hrt
    go_fit (hc)
    rintro xx w11 ⟨lA, AA, nA, cA, rfl, iA, -, hd11⟩
    have b11 := b10.trans (hd11.mono b10.size)
    have s11 := hd11.size
    have hO11 := hO10.below hd11
    have hC11 := hC10.below hd11
    have iA11 := iA
    obtain ⟨pa, hpa⟩ : ∃ z, rt.1 = z := ⟨_, rfl⟩
    have Hok := hide (tick_ok (x := (pid, pg, pv, pse, pbu, po, pn, pqu)) hO10.ok)
    rw [Hrt.out] at Hok
    rw [hpa] at Hok
    rw [hpa] at iA iA11
    clear Hrt hpa
    obtain ⟨qid, qg, qv, qse, qbu, qo, qn, qqu, q1, q2, q6, q7, q8, q9, q10, q11, q12, rfl, rfl, -, -, -, -, -, -, -⟩ := Proxy_parts iA
    obtain ⟨ok1, ok2, ok3⟩ := Hok.out
    have hqs : qse = pse := ok2
    subst hqs
    have HT : Told (qid, qg, qv, qse, qbu, qo, qn, qqu) told := hO11.tl.stay rfl ok3
    clear ok2 ok3
    go_wp2_with (first | (with_reducible refine stop_load 30 rfl ?_) | (with_reducible refine stop_store 30 rfl ?_) | (with_reducible refine stop_load 28 rfl ?_) | (with_reducible refine stop_store 28 rfl ?_) | (with_reducible refine stop_load 49 rfl ?_) | (with_reducible refine stop_store 49 rfl ?_) | (with_reducible refine stop_load 24 rfl ?_) | (with_reducible refine stop_store 24 rfl ?_) | (with_reducible refine stop_load 58 rfl ?_) | (with_reducible refine stop_store 58 rfl ?_) | (with_reducible refine stop_load 68 rfl ?_) | (with_reducible refine stop_store 68 rfl ?_))
    obtain ⟨w12, hw12⟩ : ∃ x, w11.setRow gg #[.int .i64 qid, q1, q2, .int .i64 qv, .int .i64 qse, .bool qbu, q6, q7, q8, q9, q10, q11, q12, .int .i64 qqu] = x := ⟨_, rfl⟩
    have hF12 : Fr (fun b => b = gg) w11 w12 := by rw [← hw12]; exact Fr.row (X := fun b => b = gg) rfl w11 _
    have hB12 : Blk w12 gg [.int .i64 qid, q1, q2, .int .i64 qv, .int .i64 qse, .bool qbu, q6, q7, q8, q9, q10, q11, q12, .int .i64 qqu] 30 := by rw [← hw12]; exact hO11.pb.setAll [.int .i64 qid, q1, q2, .int .i64 qv, .int .i64 qse, .bool qbu, q6, q7, q8, q9, q10, q11, q12, .int .i64 qqu]
    have hO12 : OnI w gg w12 _ told (qid, qg, qv, qse, qbu, qo, qn, qqu) [.int .i64 qid, q1, q2, .int .i64 qv, .int .i64 qse, .bool qbu, q6, q7, q8, q9, q10, q11, q12, .int .i64 qqu] := hO11.put (N := w10.heap.size) (by have := hO10.pb.lt; omega) (fun g hg => (own_lt24 hO10.ow g hg).2) hF12 hB12 iA11 ok1 HT
    have b12 : Below w.heap.size w w12 := by rw [hgg]; exact hO12.bl
    have s12 := b12.size
    have Hst11 := hide hw12
    clear hw12
    refine go_store rfl rfl rfl rfl rfl hO11.pb (by kernel_rfl) rfl (us := [.int .i64 qid, q1, q2, .int .i64 qv, .int .i64 qse, .bool qbu, q6, q7, q8, q9, q10, q11, q12, .int .i64 qqu]) iA.ones ?_
    rw [show w11.setRow gg ([.int .i64 qid, q1, q2, .int .i64 qv, .int .i64 qse, .bool qbu, q6, q7, q8, q9, q10, q11, q12, .int .i64 qqu] : List Value).toArray = w12 from Hst11.out]
    have y4 := hO12.pb.cell (j := 4) rfl
    have tS : (qse != qse) = false := by simp
    go_wp2_with (first | (with_reducible refine stop_load 30 rfl ?_) | (with_reducible refine stop_store 30 rfl ?_) | (with_reducible refine stop_load 28 rfl ?_) | (with_reducible refine stop_store 28 rfl ?_) | (with_reducible refine stop_load 49 rfl ?_) | (with_reducible refine stop_store 49 rfl ?_) | (with_reducible refine stop_load 24 rfl ?_) | (with_reducible refine stop_store 24 rfl ?_) | (with_reducible refine stop_load 58 rfl ?_) | (with_reducible refine stop_store 58 rfl ?_) | (with_reducible refine stop_load 68 rfl ?_) | (with_reducible refine stop_store 68 rfl ?_))
    refine go_loadG rfl rfl (k := 0) rfl hO12.pb [.int .i64 qid, q1, q2, .int .i64 qv, .int .i64 qse, .bool qbu, q6, q7, q8, q9, q10, q11, q12, .int .i64 qqu] rfl Try.underlying30 rfl (by kernel_rfl) ?_
    go_wp2_with (first | (with_reducible refine stop_load 30 rfl ?_) | (with_reducible refine stop_store 30 rfl ?_) | (with_reducible refine stop_load 28 rfl ?_) | (with_reducible refine stop_store 28 rfl ?_) | (with_reducible refine stop_load 49 rfl ?_) | (with_reducible refine stop_store 49 rfl ?_) | (with_reducible refine stop_load 24 rfl ?_) | (with_reducible refine stop_store 24 rfl ?_) | (with_reducible refine stop_load 58 rfl ?_) | (with_reducible refine stop_store 58 rfl ?_) | (with_reducible refine stop_load 68 rfl ?_) | (with_reducible refine stop_store 68 rfl ?_))
    have HE := hide (prE_ok hO12.ok)
    go_fit (rprC_any hO12.is)
    rintro xx wE ⟨rfl, hdE⟩
    rw [HE.out]
    have hOE := hide (hO12.below hdE)
    clear y4 HE
    go_wp2
    go_roundw
    case rel => exact ⟨k + 1, told, (qid, qg, qv, qse, qbu, qo, qn, qqu), _, by omega, by omega, by go_num, by omega, hOE⟩
    case measure => simp [intOf]; omega
end Go.Proofs.Ytlcbelmbonaooaa
namespace Go.Proofs.Ytlcbelmbonaooaa
open Go.ChangeShapes Go.WideShapes Go.ChangeAt Go.RowKit Go.Px Go.Joins Go.Deep
set_option linter.unusedVariables false

set_option maxRecDepth 100000 in
theorem proxyOnce_lifted (os : Os) (started : os.Started) (H : Type) (enc : TypeId × Value → H) :
    ReturnsInHanded {} Try.checked os 7 .any (Rows.proxyOnceSpec.pre6 enc Try.prog Try.f7 Rows.proxyOnceRow.domain false) (Rows.proxyOnceSpec.post enc Try.prog Try.f7 false true false false) := by
  refine returnsInHanded_of_change_sized (C := Try.checked) own started (by kernel_rfl) Try.func7
    (ChangeSpec.witness6 (enc := enc) (C := Try.checked) false ⟨#[], #[.agg #[.int .i64 0, .int .i64 0, .slice none 0 0, .int .i64 0, .int .i64 0, .bool false, .int .u8 0, .int .i64 0, .int .i64 0, .slice none 0 0, .slice none 0 0, .int .i64 0, .slice none 0 0, .int .i64 0], .slice none 0 0], []⟩ 8 (by kernel_rfl) (by kernel_rfl) (by kernel_rfl) (by kernel_rfl)) ?_
  intro W base args ds gs before hval0 hW _ hsz _
  have hval : ∀ (j : Nat) t v, Try.f7.params[j]? = some t → args[j]? = some v → Value.okWide Try.prog W .any base t v := hval0
  have hW' := hW
  obtain ⟨p, q, hA0, hV, rfl, hfz, hnd⟩ := hW
  have hA : DataW.TrodAll enc Try.prog W 0 (fun _ => true) true Try.f7.params.toList args.toList ds p := hA0
  rw [Try.params7] at hA hval
  obtain ⟨v0, l0, d0, e0, p0, q0, ha0, rfl, rfl, h0, r0⟩ := trodAll_cons hA
  obtain ⟨v1, l1, d1, e1, p1, q1, rfl, rfl, rfl, h1, r1⟩ := trodAll_cons r0
  obtain ⟨rfl, rfl, rfl⟩ := trodAll_nil r1
  obtain rfl : args = #[v0, v1] := by cases args; simp_all
  obtain ⟨rfl, rfl⟩ := trodVars_none hV
  have L0 := light_any (t := tyProxy) (T := 30) (by kernel_rfl) (by kernel_rfl) h0 (weights_at hsz (j := 0) rfl rfl)
  obtain ⟨⟨lpa⟩, rfl, _⟩ := okWide_struct Try.underlying30 (hval 0 30 v0 rfl rfl); obtain ⟨pa, hx0⟩ := open_any (t := tyProxy) (T := 30) (by kernel_rfl) h0; have hy0 : tyProxy.Is _ _ pa lpa := hx0
  obtain ⟨lA, ln, lc, rfl⟩ := okWide_slice Try.underlying66 (hval 1 66 v1 rfl rfl)
  have L2 := light_any (t := .row tyCall) (T := 66) (by kernel_rfl) (by kernel_rfl) h1 (weights_at hsz (j := 1) rfl rfl) (.slice lA ln lc) (by simp [Value.cells]) _ _ _ rfl
  obtain ⟨l, hx1⟩ := open_any (t := .row tyCall) (T := 66) (by kernel_rfl) h1
  obtain ⟨lv, hl_l, hc_l, hm_l, hr_l, hq_l, he_l⟩ := row_out hx1
  have L1 := light_row (t := tyCall) (T := 66) (E := 68) Try.underlying66 (by kernel_rfl) (by kernel_rfl) h1 (weights_at hsz (j := 1) rfl rfl) hr_l
  refine (proxyOnce_walk hy0 (rchP_of hy0 L0) (rowAt_of (by decide) hl_l hr_l he_l) L2 L1).mono fun e W' ⟨he, hb⟩ => ?_
  subst he
  exact ⟨_, rfl, law_post laidOut rfl rfl Try.underlying4 (fun t ht => (show ∀ t ∈ Try.f7.params.toList, Try.prog.readableRec t = true ∧ t < Try.prog.types.size from by decide +kernel) t ht) hW' rfl hb⟩

theorem proxyOnce_holds : Rows.ProxyOnceSaid :=
  OpenClaim.holds_of_wide 7 Try.f7 rfl rfl rfl rfl rfl rfl rfl ⟨rfl, rfl, rfl, rfl, rfl⟩ rfl rfl rfl rfl rfl (by kernel_rfl) Try.func7 (by kernel_rfl)
    (of_decide_eq_true (by kernel_rfl)) (by unfold Func.isWrapper; first | (rw [if_pos (by decide +kernel)]; kernel_rfl) | (rw [if_neg (by decide +kernel)]; exact ⟨rfl, rfl⟩))
    (fun os started H enc _ => proxyOnce_lifted os started H enc)
end Go.Proofs.Ytlcbelmbonaooaa
