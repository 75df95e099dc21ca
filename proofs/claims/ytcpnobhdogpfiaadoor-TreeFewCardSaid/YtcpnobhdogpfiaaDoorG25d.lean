/- The document's Diff where both trees may be. -/
import Derived.Test.YtcpnobhdogpfiaaDoorG25c
import Derived.Test.YtcpnobhdogpfiaaDoorF25o
import Derived.Test.YtcpnobhdogpfiaaDoorQui
import Derived.Deep.DeepFit
import Derived.Deep.CutRange
namespace Go.Proofs.YtcpnobhdogpfiaaDoor
set_option maxRecDepth 20000
open Go.RowKit Go.Px
set_option linter.unusedVariables false
theorem tree_row {w : World} {Q : Nat → Prop} {ls : List (List Nat)} {A : Option Addr} {n c : Nat} (hT : tyTree.Is w Q ls [.slice A n c]) {k : Nat} (hk : k < n) : ∃ (a : Addr) (B : Option Addr) (m : Nat), A = some a ∧ w.cell? (a.add k) = some (.slice B (ls.getD k []).length m) ∧ (ls.getD k []).length ≤ m ∧ m ≤ 9223372036854775807 ∧ Rd w B (u32s (ls.getD k [])) ∧ ∀ x ∈ ls.getD k [], x < 4294967296 := by
  obtain ⟨p, pA, pn, pc, pv, rfl, hpe, hl1, hc1, hm1, hr1, _, he1⟩ := Tree_out hT
  simp only [List.cons.injEq, Value.slice.injEq, and_true] at hpe
  obtain ⟨rfl, rfl, rfl⟩ := hpe
  have hkl : k < ls.length := by omega
  obtain ⟨B, m, hv, h1, h2, h3, _, h4⟩ := rows32_at he1 hkl
  obtain ⟨a, rfl, hc⟩ := hr1 k _ hv
  have e : ls.getD k [] = ls[k] := by rw [List.getD_eq_getElem?_getD, List.getElem?_eq_getElem hkl]; rfl
  rw [e]
  exact ⟨a, B, m, rfl, hc, h1, h2, h3, h4⟩
theorem stD_last {a b : List (List Nat)} {j : Nat} (h : a.length - 1 - j = 0) : stD a b (j + 1) = (unD (a.getD 0 []) (b.getD 0 []) (stD a b j).1, (stD a b j).2 + (stD a b j).1.length) := by
  rw [stD, if_pos h, h]
theorem stD_more {a b : List (List Nat)} {j k : Nat} (h : a.length - 1 - j = k + 1) : stD a b (j + 1) = (belowD (unD (a.getD (k + 1) []) (b.getD (k + 1) []) (stD a b j).1) (a.getD k []).length, (stD a b j).2 + (stD a b j).1.length) := by
  rw [stD, if_neg (by omega), h]; rfl
set_option maxRecDepth 100000 in
set_option maxHeartbeats 6400000 in
theorem rdiff_yes (A : Option Addr) (n c : Nat) (B : Option Addr) (m d : Nat) (a b : List (List Nat)) (w : World) {Q Q' : Nat → Prop} (hT : tyTree.Is w Q a [.slice A n c]) (hU : tyTree.Is w Q' b [.slice B m d]) (ha : okT a = true) (hb : okT b = true) (hL : Lv a b) :
    Calls Tryd.prog 39 #[.agg #[.slice A n c], .agg #[.slice B m d]] w fun e w' => ∃ P q pc, e = .returned (.tuple #[.slice P q pc, .int .i64 ((stD a b a.length).2 : Int), .int .i64 0]) ∧ (stD a b a.length).1.length = q ∧ q ≤ 4096 ∧ Rd w' P (nis (stD a b a.length).1) ∧ Below w.heap.size w w' := by
  obtain ⟨w0, hw0⟩ : ∃ x, (w.alloc (.cells #[.slice A n c] 29)).alloc (.cells #[.slice B m d] 29) = x := ⟨_, rfl⟩
  have hb0 : Below w.heap.size w w0 := by rw [← hw0]; exact ((Below.refl _ _).alloc (Nat.le_refl _) _).alloc (by simp) _
  have B2 : Blk w0 w.heap.size [.slice A n c] 29 := by rw [← hw0]; exact (Blk.new w [.slice A n c] 29).alloc _
  have B3 : Blk w0 (w.heap.size + 1) [.slice B m d] 29 := by
    rw [← hw0]
    have := Blk.new (w.alloc (.cells #[.slice A n c] 29)) [.slice B m d] 29
    rwa [World.size_alloc] at this
  have hn : a.length = n := by
    obtain ⟨p, pA, pn, pc, pv, rfl, hpe, hl1, _⟩ := Tree_out hT
    simp only [List.cons.injEq, Value.slice.injEq, and_true] at hpe
    obtain ⟨rfl, rfl, rfl⟩ := hpe
    exact hl1
  have hm : b.length = m := by
    obtain ⟨p, pA, pn, pc, pv, rfl, hpe, hl1, _⟩ := Tree_out hU
    simp only [List.cons.injEq, Value.slice.injEq, and_true] at hpe
    obtain ⟨rfl, rfl, rfl⟩ := hpe
    exact hl1
  have hT0 := hT.below hb0
  have hU0 := hU.below hb0
  obtain ⟨hL1, hL2, hL3, hL4, hL5, hL6⟩ := id hL
  rw [hn] at hL1 hL2 hL3
  rw [hm] at hL1
  subst hL1
  have RA := hide (fun (X : World) (hX : Below w0.heap.size w0 X) {k : Nat} (hk : k < n) => tree_row (hT0.below hX) hk)
  have RB := hide (fun (X : World) (hX : Below w0.heap.size w0 X) {k : Nat} (hk : k < n) => tree_row (hU0.below hX) hk)
  have K2 := hide (fun (X : World) (hX : Below w0.heap.size w0 X) => (B2.below hX).cell (j := 0) rfl)
  have K3 := hide (fun (X : World) (hX : Below w0.heap.size w0 X) => (B3.below hX).cell (j := 0) rfl)
  obtain ⟨xa, A0, ca, rfl, ka, _, _, _, _⟩ := RA.out w0 (Below.refl _ _) (k := 0) (by omega)
  obtain ⟨xb, D0, cb, rfl, kb, _, _, _, _⟩ := RB.out w0 (Below.refl _ _) (k := 0) (by omega)
  rw [← hL4 0] at kb
  have ka' : w0.cell? xa = some (.slice A0 (a.getD 0 []).length ca) := ka
  have kb' : w0.cell? xb = some (.slice D0 (a.getD 0 []).length cb) := kb
  obtain ⟨N, hN⟩ : ∃ N, (a.getD 0 []).length = N := ⟨_, rfl⟩
  rw [hN] at ka' kb'
  have g2 : ∀ z : InC (fun W => Below w0.heap.size w0 W), z.W.cell? ⟨w.heap.size, 0, none⟩ = some (.slice (some xa) n c) := fun z => K2.out z.W z.h
  have g3 : ∀ z : InC (fun W => Below w0.heap.size w0 W), z.W.cell? ⟨w.heap.size + 1, 0, none⟩ = some (.slice (some xb) n d) := fun z => K3.out z.W z.h
  have g4 : ∀ z : InC (fun W => Below w0.heap.size w0 W), z.W.cell? xa = some (.slice A0 N ca) := fun z => below_cell z.h ka'
  have g5 : ∀ z : InC (fun W => Below w0.heap.size w0 W), z.W.cell? xb = some (.slice D0 N cb) := fun z => below_cell z.h kb'
  have HC1 := hide (fun (z : InC (fun W => Below w0.heap.size w0 W)) => rcheck_any (some xa) n c a z.W (hT0.below z.h))
  have HC2 := hide (fun (z : InC (fun W => Below w0.heap.size w0 W)) => rcheck_any (some xb) n d b z.W (hU0.below z.h))
  rw [show ckE a = 0 by unfold ckE; rw [ha]; rfl] at HC1
  rw [show ckE b = 0 by unfold ckE; rw [hb]; rfl] at HC2
  have Hw0 := hide hw0
  have HL := hide hL
  have Hn := hide hn
  clear hw0 hT hU ha hb hT0 hU0 ka kb ka' kb' B2 B3 hL hL4 hL5 hL6 hm hN hn
  go_enter Tryd.func39, Tryd.ntmps39
  go_wp2_with fail
  rw [Hw0.out]
  refine wp_region_in (fun W => Below w0.heap.size w0 W) (Below.refl _ _).drew (by kernel_rfl) (by kernel_rfl) ?_
  repeat (go_big_quiet_step (first
      | (go_at_call 30; with_reducible exact Calls.in_below (HC1.out _))
      | (go_at_call 30; with_reducible exact Calls.in_below (HC2.out _))))
  refine wpQuiet_nil ?_
  rintro _ ⟨nq, rfl⟩
  have hbq := nq.h
  obtain ⟨w5, hw5⟩ : ∃ y, nq.W = y := ⟨_, rfl⟩
  rw [hw5] at hbq ⊢
  clear g2 g3 g4 g5 hw5
  obtain ⟨w6, hw6⟩ : ∃ x, w5.alloc (.cells #[.int .i64 0] 3) = x := ⟨_, rfl⟩
  have hb6 : Below w0.heap.size w0 w6 := by rw [← hw6]; exact hbq.alloc hbq.size _
  have d2 := K2.out w6 hb6
  have hP0 : Rd w6 (some ⟨w5.heap.size, 0, none⟩) (nis [0]) := by rw [← hw6]; exact Rd.new1 w5 _ _
  rw [← hw6] at d2
  have Hw6 := hide hw6
  clear hw6
  go_wp2_with fail
  rw [Hw6.out]
  clear d2
  go_loopw [7, 8, 9] (fun sp sc sk W => ∃ (j k : Nat) (P : Option Addr) (q pc : Nat), j + k + 1 = n ∧ sp = .slice P q pc ∧ (stD a b j).1.length = q ∧ Rd W P (nis (stD a b j).1) ∧ sc = .int .i64 ((stD a b j).2 : Int) ∧ sk = .int .i64 (k : Int) ∧ Below w0.heap.size w0 W) (fun _ _ sk _ => (intOf sk).toNat)
  case atStart => exact ⟨0, n - 1, _, _, _, by omega, rfl, rfl, hP0, rfl, by go_num, hb6⟩
  case round =>
    obtain ⟨j, k, P, q, pc, hjk, rfl, hpq, hrP, rfl, rfl, hbw⟩ := hrel
    have hnj : a.length - 1 - j = k := by rw [Hn.out]; omega
    have hlt := stD_lt HL.out j (by rw [Hn.out]; omega)
    have hq6 := stD_len6 a b (j := j) (by omega)
    have hc7 := stD_cnt a b j (by omega)
    have hlast := fun (h : k = 0) => stD_last (a := a) (b := b) (j := j) (by omega)
    have hmore := fun (k' : Nat) (h : k = k' + 1) => stD_more (a := a) (b := b) (j := j) (k := k') (by omega)
    rw [hnj] at hlt
    have hjn : n = a.length := Hn.out.symm
    obtain ⟨pl, hpl⟩ : ∃ y, (stD a b j).1 = y := ⟨_, rfl⟩
    obtain ⟨c0, hc0⟩ : ∃ y, (stD a b j).2 = y := ⟨_, rfl⟩
    rw [hpl] at hpq hrP hlt hq6 hlast hmore
    rw [hc0] at hc7 hlast hmore ⊢
    rw [hpq] at hq6 hlast hmore
    have Hq := hide hpq
    have Hla := hide hlast
    have Hmo := hide hmore
    have hABl : (a.getD k []).length = (b.getD k []).length := HL.out.2.2.2.1 k
    obtain ⟨u, Ak, ck, hu, kc, _, _, hrk, _⟩ := RA.out wr hbw (k := k) (by omega)
    obtain ⟨v, Bk, dk, hv, kd, _, _, hsk, _⟩ := RB.out wr hbw (k := k) (by omega)
    injection hu with hu
    injection hv with hv
    subst hu hv
    obtain ⟨la, hla⟩ : ∃ y, a.getD k [] = y := ⟨_, rfl⟩
    obtain ⟨lb, hlb⟩ : ∃ y, b.getD k [] = y := ⟨_, rfl⟩
    rw [hla] at hABl kc hrk
    rw [hlb] at hABl kd hsk
    rw [hla] at hlt
    have Hlt := hide hlt
    clear hpq hlast hmore hnj hjn hpl hc0 HC1 HC2
    obtain ⟨x, hx⟩ : ∃ x, la.length = x := ⟨_, rfl⟩
    rw [← hABl, hx] at kd
    rw [hx] at kc hABl
    obtain ⟨wR, rfl⟩ : ∃ y, y = wr := ⟨_, rfl⟩
    clear hlt
    go_wp2_with fail
    go_loopw [8, 10, 11] (fun sc su si W => ∃ i : Nat, i ≤ q ∧ si = .int .i64 (i : Int) ∧ sc = .int .i64 ((c0 + i : Nat) : Int) ∧ Grow wR (.slice none 0 0) wR.heap.size 3 1 W su (unD la lb (pl.take i)).length (nis (unD la lb (pl.take i)))) (fun _ _ si _ => q - (intOf si).toNat)
    case atStart => exact ⟨0, by omega, rfl, rfl, Grow.nil _ _ _⟩
    case round =>
      obtain ⟨i, hi, rfl, rfl, hG⟩ := hrel
      have hbw2 : Below w0.heap.size w0 wr := hbw.trans (hG.all.mono hbw.size)
      have d2 := K2.out wr hbw2
      have d3 := K3.out wr hbw2
      have kc2 := below_cell hG.all kc
      have kd2 := below_cell hG.all kd
      by_cases hiq : i < q
      · have hip : i < pl.length := by rw [Hq.out]; exact hiq
        obtain ⟨ap, hap, hcp⟩ := hrP.below hG.all i _ (nis_get hip)
        subst hap
        have hpx := Hlt.out _ (List.getElem_mem hip)
        have hul := unD_len la lb (pl.take i)
        rw [List.length_take, Nat.min_eq_left (by omega)] at hul
        obtain ⟨p, hp⟩ : ∃ p, pl[i] = p := ⟨_, rfl⟩
        rw [hp] at hcp hpx
        have hpa : p < la.length := hpx
        have hpb : p < lb.length := by omega
        rw [hx] at hpx
        obtain ⟨ua, hua, hca⟩ := hrk.below hG.all p _ (u32s_get hpa)
        obtain ⟨ub, hub, hcb⟩ := hsk.below hG.all p _ (u32s_get hpb)
        subst hua hub
        obtain ⟨xv, hxv⟩ : ∃ y, la[p] = y := ⟨_, rfl⟩
        obtain ⟨yv, hyv⟩ : ∃ y, lb[p] = y := ⟨_, rfl⟩
        have hun := un_eq (a := la) (b := lb) (x := xv) (y := yv) hip hp (by rw [List.getElem?_eq_getElem hpa, hxv]) (by rw [List.getElem?_eq_getElem hpb, hyv])
        rw [hxv] at hca
        rw [hyv] at hcb
        clear hxv hyv hpa hpb hp hip hx hABl
        by_cases hv : xv = yv
        · rw [if_pos hv, List.append_nil] at hun
          have HU := hide hun
          have q1 : ((xv : Int) != (yv : Int)) = false := by simp [hv]
          clear hun hv
          go_wp2
          go_quiet (fail)
          all_goals
            go_wp2
            go_roundw
            case rel => exact ⟨i + 1, by omega, by go_num, by go_num, by rw [HU.out]; exact hG.below (below_drewN (Below.refl _ _) _)⟩
            case measure => simp [intOf]; omega
        · rw [if_neg hv] at hun
          have HU := hide hun
          have q1 : ((xv : Int) != (yv : Int)) = true := by simp; omega
          clear hun hv
          go_wp2
          go_quiet (fail)
          all_goals
            have hG' := hG.below (below_drewN (Below.refl _ wr) nq)
            go_wp2_with (first | (with_reducible refine stop_append rfl ?_) | (with_reducible refine stop_copy rfl ?_) | (with_reducible refine stop_make rfl ?_))
            refine hG'.push rfl rfl rfl tInts rfl rfl rfl (by omega) (by omega) ?_
            intro u' W4 hG4 _
            go_wp2
            go_roundw
            case rel => exact ⟨i + 1, by omega, by go_num, by go_num, by rw [HU.out, nis_append, List.length_append]; exact hG4⟩
            case measure => simp [intOf]; omega
      · have hiq2 : i = q := by omega
        subst hiq2
        rw [List.take_of_length_le (by rw [Hq.out]; exact Nat.le_refl _)] at hG
        have hul := unD_len la lb pl
        rw [Hq.out] at hul
        have hulx : ∀ z ∈ unD la lb pl, z < x := fun z hz => by
          have := Hlt.out z (by unfold unD at hz; exact (List.mem_filter.1 hz).1)
          omega
        obtain ⟨un, hun⟩ : ∃ y, unD la lb pl = y := ⟨_, rfl⟩
        rw [hun] at hG hul hulx
        obtain ⟨U, uc, rfl, _, hcu, hcmu, hru, hau⟩ := own_out hG.owns
        obtain ⟨ul, hull⟩ : ∃ y, un.length = y := ⟨_, rfl⟩
        rw [hull] at hul hcu ⊢
        have Hul := hide hull
        have hx6 : x ≤ 4096 := by rw [← hx, ← hla]; exact HL.out.2.2.2.2.2 k
        cases k with
        | zero =>
          have HR := hide (show stD a b a.length = (un, c0 + i) from by
            rw [Hn.out, show n = j + 1 by omega, Hla.out rfl, hla, hlb, hun])
          have hbz : Below w.heap.size w wr := hb0.trans (hbw2.mono hb0.size)
          have Hru := hide hru
          clear hun hull hx hla hlb hABl hru kc kd kc2 kd2 hrk hsk hau
          go_wp2
          refine bodyPost_ret (results_tmp3 rfl _ _ _) rfl ?_
          rw [HR.out]
          exact ⟨U, ul, ⟨uc, rfl⟩, Hul.out, by omega, Hru.out, hbz⟩
        | succ k' =>
          have HR := hide (show stD a b (j + 1) = (belowD un (a.getD k' []).length, c0 + i) from by
            rw [Hmo.out k' rfl, hla, hlb, hun])
          obtain ⟨u2, Ay, cy, hu2, ky, _, _, _, _⟩ := RA.out wr hbw2 (k := k') (by omega)
          injection hu2 with hu2
          subst hu2
          have hy6 : (a.getD k' []).length ≤ 4096 := HL.out.2.2.2.2.2 k'
          obtain ⟨y, hy⟩ : ∃ y, (a.getD k' []).length = y := ⟨_, rfl⟩
          rw [hy] at ky hy6 HR
          obtain ⟨wS, rfl⟩ : ∃ y, y = wr := ⟨_, rfl⟩
          have Hru := hide hru
          clear hun hull hx hla hlb hABl kc kd kc2 kd2 hrk hsk hau d2 d3 hy hG hiq
          rw [show (((k' + 1 : Nat)) : Int) = (k' : Int) + 1 by omega, show (((c0 + i : Nat)) : Int) = (c0 : Int) + (i : Int) by omega]
          have q0 : ((k' : Int) + 1 == 0) = false := by rw [beq_eq_false_iff_ne]; omega
          go_wp2_with fail
          go_loopw [12, 13] (fun sb si W => ∃ e : Nat, e ≤ ul ∧ si = .int .i64 (e : Int) ∧ Grow wS (.slice none 0 0) wS.heap.size 3 1 W sb (belowD (un.take e) y).length (nis (belowD (un.take e) y))) (fun _ si _ => ul - (intOf si).toNat)
          case atStart => exact ⟨0, by omega, rfl, Grow.nil _ _ _⟩
          case round =>
            obtain ⟨e, he, rfl, hG⟩ := hrel
            by_cases hel : e < ul
            · have hkl : e < un.length := by rw [Hul.out]; exact hel
              obtain ⟨au, hau, hce⟩ := (Hru.out.below hG.all) e _ (nis_get hkl)
              subst hau
              have HB := hide (belowD_snoc un y e hkl)
              have HNE := hide (nis_get hkl)
              have hlo := belowD_len (un.take e) y
              rw [List.length_take, Nat.min_eq_left (by omega)] at hlo
              have hxe := hulx _ (List.getElem_mem hkl)
              obtain ⟨xe, hxe'⟩ : ∃ x, un[e] = x := ⟨_, rfl⟩
              rw [hxe'] at hce HB hxe HNE
              obtain ⟨Lk, hLk⟩ : ∃ L, belowD (un.take e) y = L := ⟨_, rfl⟩
              rw [hLk] at hG HB hlo
              clear hxe' hkl hLk
              go_wp2_with fail
              go_loopw [12, 14] (fun sb si W => ∃ f : Nat, f ≤ 4 ∧ si = .int .i64 (f : Int) ∧ Grow wS (.slice none 0 0) wS.heap.size 3 1 W sb (Lk ++ belD xe y f).length (nis (Lk ++ belD xe y f))) (fun _ si _ => 4 - (intOf si).toNat)
              case atStart => exact ⟨0, by omega, rfl, by simpa [belD] using hG⟩
              case round =>
                obtain ⟨f, hf, rfl, hG2⟩ := hrel
                have hbl := belD_len xe y f
                have hbw4 : Below w0.heap.size w0 wr := hbw2.trans (hG2.all.mono hbw2.size)
                have d2 := K2.out wr hbw4
                have ky2 := below_cell hG2.all ky
                have hce2 := Hru.out.below hG2.all e _ (by rw [show (nis un)[e]? = _ from HNE.out])
                obtain ⟨au', hau', hce3⟩ := hce2
                injection hau' with hau'
                subst hau'
                have g2 : ∀ z : InC (fun W => Below wr.heap.size wr W), z.W.cell? ⟨w.heap.size, 0, none⟩ = some (.slice (some xa) n c) := fun z => below_cell z.h d2
                have g3 : ∀ z : InC (fun W => Below wr.heap.size wr W), z.W.cell? (xa.add k') = some (.slice Ay y cy) := fun z => below_cell z.h ky2
                have g4 : ∀ z : InC (fun W => Below wr.heap.size wr W), z.W.cell? (au.add e) = some (.int .i64 (xe : Int)) := fun z => below_cell z.h hce3
                clear hce ky2 hce3 d2
                by_cases hf4 : f < 4
                · have q93 : decide ((f : Int) < 4) = true := decide_eq_true (by omega)
                  have q94 : decide (f < 4) = true := decide_eq_true hf4
                  have HS := hide (belD_snoc xe y f)
                  have hlen : (Lk ++ belD xe y f).length ≤ 16388 := by rw [List.length_append]; omega
                  by_cases hat : 4 * xe + f < y
                  · rw [if_pos hat] at HS
                    have HV := hide (show (xe : Int) * 4 + (f : Int) = ((4 * xe + f : Nat) : Int) by omega)
                    have hat2 : (xe : Int) * 4 + (f : Int) < (y : Int) := by omega
                    go_wp2_with fail
                    refine wp_region_in (fun W => Below wr.heap.size wr W) (Below.refl _ _).drew (by kernel_rfl) (by kernel_rfl) ?_
                    repeat (go_big_quiet_step (fail))
                    refine wpQuiet_nil ?_
                    rintro _ ⟨nq, rfl⟩
                    have hbq := nq.h
                    obtain ⟨wT, hwT⟩ : ∃ y, nq.W = y := ⟨_, rfl⟩
                    rw [hwT] at hbq ⊢
                    have hceT : wT.cell? (au.add e) = some (.int .i64 (xe : Int)) := by rw [← hwT]; exact g4 nq
                    have hG' := hG2.below hbq
                    clear g2 g3 g4 hwT
                    go_wp2_with (first | (with_reducible refine stop_append rfl ?_) | (with_reducible refine stop_copy rfl ?_) | (with_reducible refine stop_make rfl ?_))
                    refine hG'.push rfl rfl rfl tInts rfl rfl rfl (by omega) (by omega) ?_
                    intro u' W4 hG4 _
                    go_wp2
                    go_roundw
                    case rel =>
                      refine ⟨f + 1, by omega, by go_num, ?_⟩
                      rw [HS.out, ← List.append_assoc, nis_append _ [4 * xe + f], show (Lk ++ belD xe y f ++ [4 * xe + f]).length = (Lk ++ belD xe y f).length + 1 from by simp only [List.length_append, List.length_singleton]]
                      rw [HV.out] at hG4
                      exact hG4
                    case measure => simp [intOf]; omega
                  · have hend := belD_end (i := xe) (n := y) hf (.inr (by omega))
                    have HE := hide hend
                    have hat2 : ¬ (xe : Int) * 4 + (f : Int) < (y : Int) := by omega
                    clear hend
                    go_wp2_with fail
                    refine wp_region_in (fun W => Below wr.heap.size wr W) (Below.refl _ _).drew (by kernel_rfl) (by kernel_rfl) ?_
                    repeat (go_big_quiet_step (fail))
                    refine wpQuiet_nil ?_
                    rintro _ ⟨nq, rfl⟩
                    have hbq := nq.h
                    obtain ⟨wT, hwT⟩ : ∃ y, nq.W = y := ⟨_, rfl⟩
                    rw [hwT] at hbq ⊢
                    have hceT : wT.cell? (au.add e) = some (.int .i64 (xe : Int)) := by rw [← hwT]; exact g4 nq
                    have hG' := hG2.below hbq
                    clear g2 g3 g4 hwT
                    go_wp2
                    go_roundw
                    case rel => exact ⟨e + 1, by omega, by go_num, by rw [HB.out, ← HE.out]; exact hG'⟩
                    case measure => simp [intOf]; omega
                · have hf4 : f = 4 := by omega
                  subst hf4
                  go_wp2_with fail
                  refine wp_region_in (fun W => Below wr.heap.size wr W) (Below.refl _ _).drew (by kernel_rfl) (by kernel_rfl) ?_
                  repeat (go_big_quiet_step (fail))
                  refine wpQuiet_nil ?_
                  rintro _ ⟨nq, rfl⟩
                  have hbq := nq.h
                  obtain ⟨wT, hwT⟩ : ∃ y, nq.W = y := ⟨_, rfl⟩
                  rw [hwT] at hbq ⊢
                  have hceT : wT.cell? (au.add e) = some (.int .i64 (xe : Int)) := by rw [← hwT]; exact g4 nq
                  have hG' := hG2.below hbq
                  clear g2 g3 g4 hwT
                  go_wp2
                  go_roundw
                  case rel => exact ⟨e + 1, by omega, by go_num, by rw [HB.out]; exact hG'⟩
                  case measure => simp [intOf]; omega
            · have hel2 : e = ul := by omega
              subst hel2
              rw [List.take_of_length_le (by rw [Hul.out]; exact Nat.le_refl _)] at hG
              obtain ⟨V, vc, rfl, _, hcv, hcmv, hrv, hav⟩ := own_out hG.owns
              have hbw4 : Below w0.heap.size w0 wr := hbw2.trans (hG.all.mono hbw2.size)
              have Hrv := hide hrv
              clear hrv hG
              go_wp2
              go_roundw
              case rel => exact ⟨j + 1, k', V, _, vc, by omega, rfl, by rw [HR.out], by rw [HR.out]; exact Hrv.out, by rw [HR.out]; exact congrArg _ (show (c0 : Int) + (i : Int) = ((c0 + i : Nat) : Int) by omega), by go_num, hbw4⟩
              case measure => simp [intOf]; try omega
end Go.Proofs.YtcpnobhdogpfiaaDoor
