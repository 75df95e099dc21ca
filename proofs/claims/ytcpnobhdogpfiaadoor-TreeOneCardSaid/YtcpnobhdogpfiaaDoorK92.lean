/- Texts joined (shake.py). -/
import Derived.Test.YtcpnobhdogpfiaaDoorF25h
import Derived.Deep.DeepFit
import Derived.Deep.RegionHeld
import Derived.Laws.BitsAllLaws
import Derived.Test.YtcpnobhdogpfiaaDoorP02t
import Derived.Test.YtcpnobhdogpfiaaDoorArg
import Derived.Test.YtcpnobhdogpfiaaDoorAgg
import Derived.Test.YtcpnobhdogpfiaaDoorGrp
import Derived.Test.YtcpnobhdogpfiaaDoorFrm
import Derived.Test.YtcpnobhdogpfiaaDoorMore
import Derived.Test.YtcpnobhdogpfiaaDoorK91
namespace Go.Proofs.YtcpnobhdogpfiaaDoor
set_option maxRecDepth 20000
open Go.RowKit Go.Px Go.Shelf
set_option linter.unusedVariables false
attribute [local go_sem] Oper.semAt_some
theorem wl_appendIn {F : Fence} {nF : Nat} {P : Program} {ops : Array Oper} {rest : List Oper} {o : Oper} {a : Act} {Q : Exit → Act → World → Prop} {w : World} (hg : o.guard = none) {s x : Operand} {t : TypeId}
    (ho : o.op = .call { callee := .builtin .append, args := #[s, x], argTypes := #[t, t] })
    {base e size bytes : Nat} (T : SlT P t e size bytes) {v : Value} {n : Nat} {xs : List Value} (hs : a.eval s = v) (hown : w.ownsRow base e size v n xs)
    {ad : Addr} {m c : Nat} {news : List Value} (hx : a.eval x = .slice (some ad) m c) (hl : news.length = m * size) (hr : Rd w (some ad) news) (h1 : ∀ u ∈ news, u.oneCell' = true)
    (hb : (n + m) * bytes ≤ 140737488355328) (h63 : n + m ≤ 140737488355328) (hbase : base ≤ w.heap.size)
    (h : ∀ v' w', w'.ownsRow base e size v' (n + m) (xs ++ news) → w.grownBy w' v.ownBlock → (v'.ownBlock = v.ownBlock ∨ v'.ownBlock = some w.heap.size) → wpListIn F nF P ops Q rest (a.put o.dst v') w') :
    wpListIn F nF P ops Q (o :: rest) a w := by
  obtain ⟨i, z, hi, hz, h2, h3, h4⟩ := T.info
  exact wpListIn_append_own_at _ hg s x t ho base e i z size bytes T.und hi hz h2 h3 h4 T.pos v n xs hs hown ad m c news hx hl (fun j u hu => hr.at_ hu) h1 (by unfold maxLen; omega) hb hbase (fun v' w' a b _ d => h v' w' a b d)
/-- The loop of Diff: blocks bc (the pairs) and bo (the places). -/
def DfI (W0 : World) (bc bo : Nat) (a b : List (List Nat)) (j : Nat) (W : World) : Prop :=
  ∃ P pc, Blk W bc [.int .i64 ((stD a b j).2 : Int)] 3 ∧ Blk W bo [.slice P (stD a b j).1.length pc] 44 ∧ Rd W P (nis (stD a b j).1) ∧ (∀ ad, P = some ad → ad.block ≠ bc ∧ ad.block ≠ bo ∧ ad.block ≠ W0.heap.size + 1) ∧ Fr (fun k => k = bc ∨ k = bo) W0 W ∧ W0.heap.size + 2 ≤ W.heap.size ∧ j ≤ a.length
theorem DfI.put {W0 : World} {bc bo : Nat} {a b : List (List Nat)} {j : Nat} {W : World} (h : DfI W0 bc bo a b j W) (hc : bc < W0.heap.size) (ho : bo < W0.heap.size) (r : Loop) : DfI W0 bc bo a b j (W.putObj (W0.heap.size + 1) (.loop r)) := by
  obtain ⟨P, pc, h1, h2, h3, h4, h5, h6, h7⟩ := h
  have hf : Fr (fun b => b = W0.heap.size + 1) W (W.putObj (W0.heap.size + 1) (.loop r)) := Fr.of_grown (grownBy_putObj' W _ _) (fun k e => by injection e with e; exact e.symm)
  exact ⟨P, pc, h1.fr hf (by omega), h2.fr hf (by omega), h3.fr hf (fun _ ad ha hx => (h4 ad ha).2.2 hx), h4, h5.trans' hf (fun b hb => .inr (by omega)), by rw [putObj_size]; exact h6, h7⟩
theorem DfI.drewN {W0 : World} {bc bo : Nat} {a b : List (List Nat)} {j : Nat} {W : World} (h : DfI W0 bc bo a b j W) (k : Nat) : DfI W0 bc bo a b j (W.drewN k) := by
  obtain ⟨P, pc, h1, h2, h3, h4, h5, h6, h7⟩ := h
  exact ⟨P, pc, h1, h2, h3.below ⟨rfl, rfl, rfl, Nat.le_refl _, fun _ _ => rfl⟩, h4, ⟨h5.os, h5.tape, h5.output, h5.size, h5.blk⟩, h6, h7⟩
theorem fr_drewN {Y : Nat → Prop} {w w' : World} (h : Fr Y w w') (k : Nat) : Fr Y w (w'.drewN k) := ⟨h.os, h.tape, h.output, h.size, h.blk⟩
theorem keepsFr {Y : Nat → Prop} {W W' : World} (h : Fr Y W W') (hY : ∀ k o, Y k → W.heap[k]? = some o → o.isCells = true) : KeepsOthers W W' := ⟨h.size, fun k o hk ho => by
  by_cases hy : Y k
  · rw [hY k o hy hk] at ho; cases ho
  · rw [h.blk k (Array.getElem?_eq_some_iff.1 hk).1 hy]; exact hk⟩
set_option maxRecDepth 100000 in
set_option maxHeartbeats 6400000 in
theorem tdiff_yes (A : Option Addr) (n c : Nat) (B : Option Addr) (m d : Nat) (a b : List (List Nat)) (w : World) {Q Q' : Nat → Prop} (hT : tyTree.Is w Q a [.slice A n c]) (hU : tyTree.Is w Q' b [.slice B m d]) (ha : okT a = true) (hb : okT b = true) (hL : Lv a b) (ht : Tab w) :
    Calls Tryd.prog 38 #[.agg #[.slice A n c], .agg #[.slice B m d]] w fun e w' => ∃ P q pc, e = .returned (.tuple #[.slice P q pc, .int .i64 ((stD a b a.length).2 : Int), .int .i64 0]) ∧ (stD a b a.length).1.length = q ∧ q ≤ 4096 ∧ Rd w' P (nis (stD a b a.length).1) ∧ Below w.heap.size w w' := by
  have hmo : Tryd.prog.follows .mixedOrders = true := by kernel_rfl
  refine (callsIn_wide (n := 8)).1 ?_
  refine callsIn_of_wp_marks Tryd.func38 rfl trivial ?_ rfl
  simp only [Tryd.ntmps38, List.size_toArray, List.length_cons, List.length_nil, Nat.reduceAdd, Nat.reduceSub, Array.replicate_succ, Array.replicate_zero, List.push_toArray, List.append_toArray, List.nil_append, List.cons_append]
  obtain ⟨w0, hw0⟩ : ∃ x, (w.alloc (.cells #[.slice A n c] 29)).alloc (.cells #[.slice B m d] 29) = x := ⟨_, rfl⟩
  have hb0 : Below w.heap.size w w0 := by rw [← hw0]; exact ((Below.refl _ _).alloc (Nat.le_refl _) _).alloc (by simp) _
  have B2 : Blk w0 w.heap.size [.slice A n c] 29 := by rw [← hw0]; exact (Blk.new w [.slice A n c] 29).alloc _
  have B3 : Blk w0 (w.heap.size + 1) [.slice B m d] 29 := by
    rw [← hw0]
    have := Blk.new (w.alloc (.cells #[.slice A n c] 29)) [.slice B m d] 29
    rwa [World.size_alloc] at this
  have hn : a.length = n := by
    obtain ⟨p, pA, pn, pc, pv, rfl, hpe, hl1, _⟩ := Tree_out hT
    simp only [List.cons.injEq, Value.slice.injEq, and_true] at hpe
    obtain ⟨rfl, rfl, rfl⟩ := hpe
    exact hl1
  have hm : b.length = m := by
    obtain ⟨p, pA, pn, pc, pv, rfl, hpe, hl1, _⟩ := Tree_out hU
    simp only [List.cons.injEq, Value.slice.injEq, and_true] at hpe
    obtain ⟨rfl, rfl, rfl⟩ := hpe
    exact hl1
  have hT0 := (hT.below hb0).low
  have hU0 := (hU.below hb0).low
  have ht0 : Tab w0 := Rd.below ht hb0
  obtain ⟨hL1, hL2, hL3, hL4, hL5, hL6⟩ := id hL
  rw [hn] at hL1 hL2 hL3
  rw [hm] at hL1
  subst hL1
  have RA := hide (fun (X : World) (hX : tyTree.Is X (fun b => b < w0.heap.size) a [.slice A n c]) {k : Nat} (hk : k < n) => tree_row hX hk)
  have RB := hide (fun (X : World) (hX : tyTree.Is X (fun b => b < w0.heap.size) b [.slice B n d]) {k : Nat} (hk : k < n) => tree_row hX hk)
  obtain ⟨xa, A0, ca, rfl, ka, -, -, -, -⟩ := RA.out w0 hT0 (k := 0) (by omega)
  obtain ⟨xb, D0, cb, rfl, kb, -, -, -, -⟩ := RB.out w0 hU0 (k := 0) (by omega)
  rw [← hL4 0] at kb
  have ka' : w0.cell? xa = some (.slice A0 (a.getD 0 []).length ca) := ka
  have kb' : w0.cell? xb = some (.slice D0 (a.getD 0 []).length cb) := kb
  obtain ⟨N, hN⟩ : ∃ N, (a.getD 0 []).length = N := ⟨_, rfl⟩
  rw [hN] at ka' kb'
  have g2 : ∀ z : InC (fun W => Below w0.heap.size w0 W), z.W.cell? ⟨w.heap.size, 0, none⟩ = some (.slice (some xa) n c) := fun z => (B2.below z.h).cell (j := 0) rfl
  have g3 : ∀ z : InC (fun W => Below w0.heap.size w0 W), z.W.cell? ⟨w.heap.size + 1, 0, none⟩ = some (.slice (some xb) n d) := fun z => (B3.below z.h).cell (j := 0) rfl
  have g4 : ∀ z : InC (fun W => Below w0.heap.size w0 W), z.W.cell? xa = some (.slice A0 N ca) := fun z => below_cell z.h ka'
  have g5 : ∀ z : InC (fun W => Below w0.heap.size w0 W), z.W.cell? xb = some (.slice D0 N cb) := fun z => below_cell z.h kb'
  have HC1 := hide (fun (z : InC (fun W => Below w0.heap.size w0 W)) => check_any (some xa) n c a z.W (hT0.below z.h) (Rd.below ht0 z.h))
  have HC2 := hide (fun (z : InC (fun W => Below w0.heap.size w0 W)) => check_any (some xb) n d b z.W (hU0.below z.h) (Rd.below ht0 z.h))
  rw [show ckE a = 0 by unfold ckE; rw [ha]; rfl] at HC1
  rw [show ckE b = 0 by unfold ckE; rw [hb]; rfl] at HC2
  have Hw0 := hide hw0
  have HL := hide hL
  have Hn := hide hn
  have Hz0 := hide (show w0.heap.size = w.heap.size + 2 by rw [← hw0]; simp)
  have HT0 := hide hT0
  have HU0 := hide hU0
  clear hw0 hT hU ha hb hT0 hU0 ka kb ka' kb' hL hL4 hL5 hL6 hm hN hn
  gi_wp2_with fail
  rw [Hw0.out]
  refine wpIn_wide.2 ?_
  refine wp_region_in (fun W => Below w0.heap.size w0 W) (Below.refl _ _).drew (by kernel_rfl) (by kernel_rfl) ?_
  repeat (go_big_quiet_step (first
      | (go_at_call 29; with_reducible exact Calls.in_below (HC1.out _))
      | (go_at_call 29; with_reducible exact Calls.in_below (HC2.out _))))
  refine wpQuiet_nil ?_
  rintro _ ⟨nq, rfl⟩
  have hbq := nq.h
  obtain ⟨w5, hw5⟩ : ∃ y, nq.W = y := ⟨_, rfl⟩
  rw [hw5] at hbq ⊢
  clear g2 g3 g4 g5 hw5 HC1 HC2
  obtain ⟨w6, hw6⟩ : ∃ x, ((w5.alloc (.cells #[.int .i64 0] 3)).alloc (.cells #[.int .i64 0] 3)).alloc (.cells #[.slice (some ⟨w5.heap.size + 1, 0, none⟩) 1 1] 44) = x := ⟨_, rfl⟩
  have hb56 : Below w5.heap.size w5 w6 := by rw [← hw6]; exact (((Below.refl _ _).alloc (Nat.le_refl _) _).alloc (by simp) _).alloc (by simp; omega) _
  have z6 : w6.heap.size = w5.heap.size + 3 := by rw [← hw6]; simp
  have y1 : Blk w6 w5.heap.size [.int .i64 0] 3 := by rw [← hw6]; exact ((Blk.new w5 [.int .i64 0] 3).alloc _).alloc _
  have y2 : Rd w6 (some ⟨w5.heap.size + 1, 0, none⟩) (nis [0]) := by
    rw [← hw6]
    have := (Rd.new1 (w5.alloc (.cells #[.int .i64 0] 3)) (.int .i64 0) 3).alloc (.cells #[.slice (some ⟨w5.heap.size + 1, 0, none⟩) 1 1] 44)
    rwa [World.size_alloc] at this
  have y3 : Blk w6 (w5.heap.size + 1 + 1) [.slice (some ⟨w5.heap.size + 1, 0, none⟩) 1 1] 44 := by
    rw [← hw6]
    have := Blk.new ((w5.alloc (.cells #[.int .i64 0] 3)).alloc (.cells #[.int .i64 0] 3)) [.slice (some ⟨w5.heap.size + 1, 0, none⟩) 1 1] 44
    rwa [World.size_alloc, World.size_alloc] at this
  have hb6 : Below w0.heap.size w0 w6 := hbq.trans (hb56.mono hbq.size)
  have d2 := (B2.below hb6).cell (j := 0) rfl
  rw [← hw6] at d2
  have Hw6 := hide hw6
  clear hw6
  gi_wp2_with fail
  rw [Hw6.out]
  refine ⟨trivial, (callsIn_wide.2 (backward_any (some xa) n c w6)).mono ?_⟩
  rintro x w7 ⟨rfl, hw7⟩
  have hb7 : Below w6.heap.size w6 w7 := by rw [hw7]; exact (Below.refl _ _).alloc (Nat.le_refl _) _
  have ys : Blk w7 w6.heap.size [.slice (some xa) n c] 27 := by rw [hw7]; exact Blk.new w6 [.slice (some xa) n c] _
  have z7 : w7.heap.size = w6.heap.size + 1 := by rw [hw7]; simp
  have x1 := y1.below hb7
  have x2 := y2.below hb7
  have x3 := y3.below hb7
  have hb07 : Below w0.heap.size w0 w7 := hb6.trans (hb7.mono hb6.size)
  have E2 := B2.below hb07
  have E3 := B3.below hb07
  have HT7 := hide (HT0.out.below hb07)
  have HU7 := hide (HU0.out.below hb07)
  have zq := hbq.size
  obtain ⟨bc, hbc⟩ : ∃ y, w5.heap.size = y := ⟨_, rfl⟩
  rw [hbc] at x1 x2 x3 z6 zq ⊢
  obtain ⟨bo, hbo⟩ : ∃ y, bc + 1 + 1 = y := ⟨_, rfl⟩
  rw [hbo] at x3 ⊢
  obtain ⟨bs, hbs⟩ : ∃ y, w6.heap.size = y := ⟨_, rfl⟩
  rw [hbs] at ys z7 z6
  have Hbw := hide (hb0.trans (hb07.mono hb0.size))
  clear hw7 d2 y1 y2 y3 B2 B3 hb56 Hw6 hb7 hb6
  have z0 := Hz0.out
  gi_wp2_with fail
  obtain ⟨pv, hpv, hrv, hqv⟩ : ∃ pv : List Value, pv.length = n ∧ Rd w7 (some xa) pv ∧ xa.block < w0.heap.size := by
    obtain ⟨p, pA, pn, pc, pv, rfl, hpe, hl1, hc1, hm1, hr1, hq1, he1⟩ := Tree_out HT7.out
    simp only [List.cons.injEq, Value.slice.injEq, and_true] at hpe
    obtain ⟨rfl, rfl, rfl⟩ := hpe
    exact ⟨pv, by have h := he1.1; rw [hl1] at h; exact h.trans (Nat.one_mul n), hr1, hq1 (fun e => by rw [e] at hl1; simp at hl1; omega) xa rfl⟩
  refine range_own 8 (by omega) (lb := #[.pointer (some ⟨bs, 0, none⟩)]) (by simp [Act.eval]) (enters_of Tryd.func74 (by kernel_rfl) rfl) (encB pv n) (fun _ => rfl) (fun j => j < n)
    (DfI w7 bc bo a b) (fun j W => DfI w7 bc bo a b (j + 1) W) (fun _ _ => False) ?i0 ?ip ?mp (fun _ _ _ _ h => h) ?it ?round ?done (fun _ _ h => h.elim)
  case i0 =>
    intro r
    have hb2 : Below w7.heap.size w7 ((w7.alloc (.deferred (some []))).alloc (.loop r)) := ((Below.refl _ _).alloc (Nat.le_refl _) _).alloc (by simp) _
    exact ⟨_, 1, x1.below hb2, x3.below hb2, x2.below hb2, fun ad ha => by injection ha with ha; subst ha; refine ⟨?_, ?_, ?_⟩ <;> dsimp only <;> omega, Fr.of_below hb2, by simp, Nat.zero_le _⟩
  case ip => intro j W r hW h; exact h.put (by omega) (by omega) r
  case mp => intro j W r hW h; exact h.put (by omega) (by omega) r
  case it =>
    refine backward_iter (8 - 1) (by omega) _ bs (some xa) n c pv hpv (by omega) _ _ ?_ ?_ ?_
    · rintro j W ⟨P, pc, h1, h2, h3, h4, h5, h6, h7⟩
      exact ⟨(ys.fr h5 (by omega)).cell (j := 0) rfl, hrv.fr h5 (fun _ ad ha hx => by injection ha with ha; subst ha; omega)⟩
    · exact fun j W k h => h.drewN k
    · exact fun j W h => h
  case done =>
    intro j W hU hnm hDq
    obtain ⟨P, pc, h1, h2, h3, h4, h5, h6, h7⟩ := hU
    have hjn : j = n := by have := Hn.out; omega
    subst hjn
    obtain ⟨q, hpq⟩ : ∃ y, (stD a b j).1.length = y := ⟨_, rfl⟩
    obtain ⟨cc, hcc⟩ : ∃ y, (stD a b j).2 = y := ⟨_, rfl⟩
    have hq6 : q ≤ 4096 := by
      obtain ⟨j', rfl⟩ : ∃ j', j = j' + 1 := ⟨j - 1, by omega⟩
      have h0 := stD_last (a := a) (b := b) (j := j') (by have := Hn.out; omega)
      rw [h0] at hpq
      have h1 := unD_len (a.getD 0 []) (b.getD 0 []) (stD a b j').1
      have h2 := stD_len6 a b (j := j') (by omega)
      have h3 : (unD (a.getD 0 []) (b.getD 0 []) (stD a b j').1).length = q := hpq
      omega
    rw [hpq] at h2
    rw [hcc] at h1
    have b1 := h1.cell (j := 0) rfl
    have b2 := h2.cell (j := 0) rfl
    have HF := hide h5
    have HR := hide h3
    have HD := hide hDq
    have Hpq := hide hpq
    have Hcc := hide hcc
    clear h1 h2 h3 h5 hDq hpq hcc hpv hrv HT7 HU7 E2 E3 ys x1 x2 x3
    gi_wp2_with fail
    refine wpIn_wide.2 ?_
    go_quiet (fail)
    have hko : KeepsOthers W (W.drewN nq) := ⟨Nat.le_refl _, fun _ _ h _ => h⟩
    have hbn : Below w.heap.size w (W.drewN nq) := (fr_drewN HF.out nq).below Hbw.out (by omega) (fun k hk => by omega)
    gi_wp2
    refine leaves_marks (B := w.heap.size) [w7.heap.size] _ ⟨List.nodup_cons.2 ⟨List.not_mem_nil, List.nodup_nil⟩, fun r hr => ?_⟩ ?_
    · rw [List.mem_singleton] at hr
      subst hr
      exact ⟨by omega, hko.same _ _ HD.out rfl⟩
    intro W' hca hbl'
    rw [Hn.out]
    exact ⟨_, results_tmp3 rfl _ _ _, P, q, pc, by rw [Hcc.out]; rfl, Hpq.out, hq6, hca.rd (HR.out.below ⟨rfl, rfl, rfl, Nat.le_refl _, fun _ _ => rfl⟩), hbn.trans hbl'⟩
  case round =>
    intro j W hU hmj hlW
    obtain ⟨P, pc, h1, h2, h3, h4, h5, h6, h7⟩ := hU
    obtain ⟨k, hk⟩ : ∃ k, n - 1 - j = k := ⟨_, rfl⟩
    have hnj : a.length - 1 - j = k := by rw [Hn.out]; exact hk
    have hlt := stD_lt HL.out j (by rw [Hn.out]; exact hmj)
    have hq6 := stD_len6 a b (j := j) (by omega)
    have hc7 := stD_cnt a b j (by omega)
    have hlast := fun (h : k = 0) => stD_last (a := a) (b := b) (j := j) (by omega)
    have hmore := fun (k' : Nat) (h : k = k' + 1) => stD_more (a := a) (b := b) (j := j) (k := k') (by omega)
    rw [hnj] at hlt
    have hABl : (a.getD k []).length = (b.getD k []).length := HL.out.2.2.2.1 k
    have hx6 : (a.getD k []).length ≤ 4096 := HL.out.2.2.2.2.2 k
    have hjk : j + k + 1 = n := by omega
    have hkn : k < n := by omega
    have e0 : encB pv n j = #[.int .i64 (k : Int), (pv[k]?).getD undef] := by unfold encB; rw [hk]
    obtain ⟨pl, hpl⟩ : ∃ y, (stD a b j).1 = y := ⟨_, rfl⟩
    obtain ⟨c0, hc0⟩ : ∃ y, (stD a b j).2 = y := ⟨_, rfl⟩
    rw [hpl] at h2 h3 hlt hq6 hlast hmore
    rw [hc0] at hc7 hlast hmore h1
    have hc8 : c0 ≤ 28672 := by omega
    obtain ⟨q, hpq⟩ : ∃ y, pl.length = y := ⟨_, rfl⟩
    rw [hpq] at h2 hq6 hlast hmore
    obtain ⟨pk, hpk⟩ : ∃ y, (pv[k]?).getD undef = y := ⟨_, rfl⟩
    rw [hpk] at e0
    rw [e0]
    have Hq := hide hpq
    have Hla := hide hlast
    have Hmo := hide hmore
    have hTW := HT7.out.fr h5 (fun b hb hx => by omega)
    have hUW := HU7.out.fr h5 (fun b hb hx => by omega)
    clear hpq hlast hmore hnj hk hpl hc0 e0 hpk hc7
    gi_wp2
    refine ⟨KeepsOthers.refl _, fun r' => ?_⟩
    obtain ⟨X, hXX⟩ : ∃ y, W.putObj (w7.heap.size + 1) (.loop r') = y := ⟨_, rfl⟩
    have hFX : Fr (fun b => b = w7.heap.size + 1) W X := by
      rw [← hXX]
      exact Fr.of_grown (grownBy_putObj' _ _ _) (fun k e => by injection e with e; exact e.symm)
    have hzX : X.heap.size = W.heap.size := by rw [← hXX, putObj_size]
    rw [hXX]
    have g1 := h1.fr hFX (by omega)
    have g2 := h2.fr hFX (by omega)
    have g3 := h3.fr hFX (fun _ ad ha hx => (h4 ad ha).2.2 hx)
    have gF := h5.trans' hFX (fun b hb => .inr (by omega))
    have hTX := hTW.fr hFX (fun b hb hx => by omega)
    have hUX := hUW.fr hFX (fun b hb hx => by omega)
    have E2X := (E2.fr h5 (by omega)).fr hFX (by omega)
    have E3X := (E3.fr h5 (by omega)).fr hFX (by omega)
    have c8 := g2.cell (j := 0) rfl
    clear h1 h2 h3 h5 hTW hUW hXX
    gi_wp2_with fail
    gi_loopw [10, 42] (fun u i Z => ∃ e : Nat, e ≤ q ∧ i = .int .i64 (e : Int) ∧ Blk Z bc [.int .i64 ((c0 : Int) + (e : Int))] 3 ∧ Z.ownsRow X.heap.size 3 1 u (unD (a.getD k []) (b.getD k []) (pl.take e)).length (nis (unD (a.getD k []) (b.getD k []) (pl.take e))) ∧ Fr (fun b => b = bc) X Z) (fun _ i _ => q - (intOf i).toNat)
    case atStart => exact ⟨0, by omega, rfl, by simpa using g1, World.ownsRow_nil _ _ _ _, Fr.refl _ _⟩
    case round =>
      obtain ⟨e, he, rfl, k1, k2, kF⟩ := hrel
      have b1 := k1.cell (j := 0) rfl
      have f1 := k1.frozen 0
      have hlo := ownRow_lt k2
      have zF := kF.size
      by_cases heq : e < q
      · have hip : e < pl.length := by rw [Hq.out]; exact heq
        obtain ⟨ap, hap, hcp⟩ := (g3.fr kF (fun _ ad ha hx => (h4 ad ha).1 hx)) e _ (nis_get hip)
        subst hap
        have hpx := hlt _ (List.getElem_mem hip)
        have hul := unD_len (a.getD k []) (b.getD k []) (pl.take e)
        rw [List.length_take, Nat.min_eq_left (by omega)] at hul
        obtain ⟨Z1, hZ1⟩ : ∃ y, wr.setCell ⟨bc, 0, none⟩ (.int .i64 ((c0 : Int) + (e : Int) + 1)) = y := ⟨_, rfl⟩
        have fZ : Fr (fun b => b = bc) wr Z1 := by rw [← hZ1]; exact Fr.set _ _ _ rfl
        have kZ : Blk Z1 bc [.int .i64 ((c0 : Int) + (e : Int) + 1)] 3 := by rw [← hZ1]; exact k1.set 0 _
        have kFZ := kF.trans fZ
        have hTZ := hTX.fr kFZ (fun b hb hx => by omega)
        have hUZ := hUX.fr kFZ (fun b hb hx => by omega)
        have kO := ownRow_fr k2 fZ (fun g hg hx => by have := (hlo g hg).1; omega)
        have d2 := (E2X.fr kFZ (by omega)).cell (j := 0) rfl
        have d3 := (E3X.fr kFZ (by omega)).cell (j := 0) rfl
        obtain ⟨u', Ak, ck, hu', kc, -, -, hrk, -⟩ := RA.out Z1 hTZ (k := k) hkn
        obtain ⟨v', Bk, dk, hv', kd, -, -, hsk, -⟩ := RB.out Z1 hUZ (k := k) hkn
        injection hu' with hu'
        injection hv' with hv'
        subst hu' hv'
        rw [← hABl] at kd
        obtain ⟨p, hp⟩ : ∃ p, pl[e] = p := ⟨_, rfl⟩
        rw [hp] at hcp hpx
        have hpa : p < (a.getD k []).length := hpx
        have hpb : p < (b.getD k []).length := by omega
        obtain ⟨ua, hua, hca⟩ := hrk p _ (u32s_get hpa)
        obtain ⟨ub, hub, hcb⟩ := hsk p _ (u32s_get hpb)
        subst hua hub
        obtain ⟨xv, hxv⟩ : ∃ y, (a.getD k [])[p] = y := ⟨_, rfl⟩
        obtain ⟨yv, hyv⟩ : ∃ y, (b.getD k [])[p] = y := ⟨_, rfl⟩
        have hun := un_eq (a := a.getD k []) (b := b.getD k []) (x := xv) (y := yv) hip hp (by rw [List.getElem?_eq_getElem hpa, hxv]) (by rw [List.getElem?_eq_getElem hpb, hyv])
        rw [hxv] at hca
        rw [hyv] at hcb
        obtain ⟨x, hx⟩ : ∃ y, (a.getD k []).length = y := ⟨_, rfl⟩
        rw [hx] at kc kd hpx
        have Hun := hide hun
        have HkO := hide kO
        clear hxv hyv hpa hpb hp hip hx hun hTZ hUZ hrk hsk hABl hx6 hlt kO
        by_cases hv : xv = yv
        · have q1 : ((xv : Int) != (yv : Int)) = false := by simp [hv]
          gi_wp2_with fail
          try rw [hZ1]
          refine round_quiet (fun Z => ∃ k, Z = Z1.drewN k) hmo (by kernel_rfl) (by rintro ⟨_, _, h⟩; exact h) (by kernel_rfl) ⟨1, rfl⟩ ?_
          repeat (go_big_quiet_step (fail))
          refine wpQuiet_nil ?_
          rintro _ ⟨nq, rfl⟩
          have hun := Hun.out
          rw [if_pos hv, List.append_nil] at hun
          clear b1 f1 d2 d3 kc kd hca hcb hcp
          gi_wp2
          go_roundw
          case rel => exact ⟨e + 1, by omega, by go_num, by rw [show (c0 : Int) + ((e + 1 : Nat) : Int) = (c0 : Int) + (e : Int) + 1 by omega]; exact kZ, by rw [hun]; exact own_below HkO.out ⟨rfl, rfl, rfl, Nat.le_refl _, fun _ _ => rfl⟩, fr_drewN kFZ nq⟩
          case measure => simp [intOf]; omega
        · have q1 : ((xv : Int) != (yv : Int)) = true := by simp; omega
          gi_wp2_with fail
          try rw [hZ1]
          refine round_quiet (fun Z => ∃ k, Z = Z1.drewN k) hmo (by kernel_rfl) (by rintro ⟨_, _, h⟩; exact h) (by kernel_rfl) ⟨1, rfl⟩ ?_
          repeat (go_big_quiet_step (fail))
          refine wpQuiet_nil ?_
          rintro _ ⟨nq, rfl⟩
          have hun := Hun.out
          rw [if_neg hv] at hun
          clear b1 f1 d2 d3 kc kd hca hcb hcp
          obtain ⟨Y, hY⟩ : ∃ y, (Z1.drewN nq).alloc (.cells #[.int .i64 (p : Int)] 3) = y := ⟨_, rfl⟩
          have bY : Below Z1.heap.size Z1 Y := by rw [← hY]; exact (show Below Z1.heap.size Z1 (Z1.drewN nq) from ⟨rfl, rfl, rfl, Nat.le_refl _, fun _ _ => rfl⟩).alloc (Nat.le_refl _) _
          have rY : Rd Y (some ⟨(Z1.drewN nq).heap.size, 0, none⟩) [.int .i64 (p : Int)] := by rw [← hY]; exact Rd.new1 _ _ _
          gi_wp2_with (first | (with_reducible refine stop_appendIn rfl ?_))
          show wpListIn _ _ _ _ _ _ _ _
          try rw [hY]
          refine wl_appendIn rfl rfl tInts rfl (own_below HkO.out bY) rfl (m := 1) (by rfl) rY (by intro u hu; simp at hu; subst hu; rfl) (by omega) (by omega) (by have := bY.size; have := fZ.size; omega) ?_
          intro v7 W4 hO7 hg7 hv7
          have fY : Fr (fun b => some b = u10.ownBlock) Z1 W4 := (Fr.of_below bY).trans (Fr.of_grown hg7 (fun k e => e.symm))
          have k1' := kZ.fr fY (fun e => by have := (hlo _ e.symm).1; omega)
          have kF' := kFZ.trans' fY (fun b hb => .inr (hlo _ hb.symm).1)
          have HO7 := hide hO7
          clear hO7 hg7 hv7
          gi_wp2
          go_roundw
          case rel => exact ⟨e + 1, by omega, by go_num, by rw [show (c0 : Int) + ((e + 1 : Nat) : Int) = (c0 : Int) + (e : Int) + 1 by omega]; exact k1', by rw [hun, nis_append, List.length_append]; exact HO7.out, kF'⟩
          case measure => simp [intOf]; omega
      · obtain rfl : e = q := by omega
        rw [List.take_of_length_le (by rw [Hq.out]; exact Nat.le_refl _)] at k2
        have hul := unD_len (a.getD k []) (b.getD k []) pl
        rw [Hq.out] at hul
        have hulx : ∀ z ∈ unD (a.getD k []) (b.getD k []) pl, z < (a.getD k []).length := fun z hz => hlt z (by unfold unD at hz; exact (List.mem_filter.1 hz).1)
        obtain ⟨un, hun⟩ : ∃ y, unD (a.getD k []) (b.getD k []) pl = y := ⟨_, rfl⟩
        rw [hun] at k2 hul hulx
        have hlo2 := hlo
        clear hlo
        obtain ⟨U, uc, rfl, _, hcu, hcmu, hru, hau⟩ := own_out k2
        obtain ⟨ul, hull⟩ : ∃ y, un.length = y := ⟨_, rfl⟩
        rw [hull] at hul hcu ⊢
        have Hul := hide hull
        have kb := g2.fr kF (by omega)
        have b8 := kb.cell (j := 0) rfl
        have f8 := kb.frozen 0
        obtain ⟨W1, hW1⟩ : ∃ y, wr.setCell ⟨bo, 0, none⟩ (.slice U ul uc) = y := ⟨_, rfl⟩
        have f1W : Fr (fun b => b = bc ∨ b = bo) X W1 := by rw [← hW1]; exact (kF.mono (fun b h => .inl h)).trans (Fr.set wr _ _ (.inr rfl))
        have fW1 : Fr (fun b => b = bo) wr W1 := by rw [← hW1]; exact Fr.set wr _ _ rfl
        have kc1 := k1.fr fW1 (by omega)
        have ko1 : Blk W1 bo [.slice U ul uc] 44 := by rw [← hW1]; exact kb.set 0 _
        have hru1 := hru.fr fW1 (fun _ ad ha hx => by have := (hau ad ha).1; omega)
        have HKE := hide (fun (W' : World) (h : Fr (fun b => b = bc ∨ b = bo) X W') => keepsFr h (fun k o hk ho => by
          rcases hk with rfl | rfl
          · have := g1; unfold Blk at this; rw [this] at ho; injection ho with ho; rw [← ho]; rfl
          · have := g2; unfold Blk at this; rw [this] at ho; injection ho with ho; rw [← ho]; rfl))
        cases k with
        | zero =>
          have HR : stD a b (j + 1) = (un, c0 + e) := by rw [Hla.out rfl, hun]
          have HD := hide (show DfI w7 bc bo a b (j + 1) W1 from by
            unfold DfI
            rw [HR]
            exact ⟨U, uc, by rw [show (((c0 + e : Nat)) : Int) = (c0 : Int) + (e : Int) by omega]; exact kc1, by rw [show (un, c0 + e).1.length = ul from hull]; exact ko1, hru1, fun ad ha => by have := (hau ad ha).1; omega, gF.trans' f1W (fun b hb => .inl hb), by have := f1W.size; omega, by rw [Hn.out]; omega⟩)
          have HK := hide (HKE.out W1 f1W)
          clear HR hun hull hru hru1 hau kc1 ko1 k2 hulx hjk
          gi_wp2
          exact ⟨HK.out, HD.out⟩
        | succ k' =>
          have hy6 : (a.getD k' []).length ≤ 4096 := HL.out.2.2.2.2.2 k'
          have HR : stD a b (j + 1) = (belowD un (a.getD k' []).length, c0 + e) := by rw [Hmo.out k' rfl, hun]
          have hT1 := hTX.fr f1W (fun b hb hx => by omega)
          have d2 := (E2X.fr f1W (by omega)).cell (j := 0) rfl
          obtain ⟨u', Ay, cy, hu', ky, -, -, -, -⟩ := RA.out W1 hT1 (k := k') (by omega)
          injection hu' with hu'
          subst hu'
          obtain ⟨y, hy⟩ : ∃ y, (a.getD k' []).length = y := ⟨_, rfl⟩
          rw [hy] at ky HR hy6
          have HB := hide (below_any U ul uc un y W1 hull (by omega) hy6 (fun z hz => by have := hulx z hz; omega) hru1)
          have HRR := hide HR
          clear HR hun hull hru hru1 k2 hulx hy
          gi_wp2_with fail
          try rw [hW1]
          refine ⟨trivial, (CallsIn.inRound _ (callsIn_wide.2 HB.out)).mono ?_⟩
          rintro x W2 ⟨v, rfl, hoV, hbV⟩
          obtain ⟨V, vc, rfl, _, hcv, hcmv, hrV, haV⟩ := own_out hoV
          obtain ⟨vl, hvl⟩ : ∃ z, (belowD un y).length = z := ⟨_, rfl⟩
          rw [hvl] at hcv ⊢
          have kb2 := ko1.below hbV
          have b9 := kb2.cell (j := 0) rfl
          have f9 := kb2.frozen 0
          have f2W : Fr (fun b => b = bc ∨ b = bo) X W2 := f1W.trans (Fr.of_below hbV)
          have f3W : Fr (fun b => b = bc ∨ b = bo) X (W2.setCell ⟨bo, 0, none⟩ (.slice V vl vc)) := f2W.trans (Fr.set W2 _ _ (.inr rfl))
          have fS : Fr (fun b => b = bo) W2 (W2.setCell ⟨bo, 0, none⟩ (.slice V vl vc)) := Fr.set W2 _ _ rfl
          have HD := hide (show DfI w7 bc bo a b (j + 1) (W2.setCell ⟨bo, 0, none⟩ (.slice V vl vc)) from by
            unfold DfI
            rw [HRR.out]
            have hz1 := f1W.size
            exact ⟨V, vc, by rw [show (((c0 + e : Nat)) : Int) = (c0 : Int) + (e : Int) by omega]; exact (kc1.below hbV).fr fS (by omega), by rw [show (belowD un y, c0 + e).1.length = vl from hvl]; exact kb2.set 0 _, hrV.fr fS (fun _ ad ha hx => by have := (haV ad ha).1; omega), fun ad ha => by have := (haV ad ha).1; omega, gF.trans' f3W (fun b hb => .inl hb), by have := f3W.size; omega, by rw [Hn.out]; omega⟩)
          have HK := hide (HKE.out _ f3W)
          clear hvl hoV hbV hrV haV kc1 ko1 kb2 hjk d2 ky b8 f8
          gi_wp2
          exact ⟨HK.out, HD.out⟩
end Go.Proofs.YtcpnobhdogpfiaaDoor
namespace Go.Proofs.YtcpnobhdogpfiaaDoor
set_option maxRecDepth 20000
open Go.RowKit Go.Px
set_option linter.unusedVariables false
theorem page_ver {w : World} {Q : Nat → Prop} {ps : List PageD} {vs : List Value} (h : tyPage.Rows w Q ps vs) {j : Nat} {p : PageD} (hp : ps[j]? = some p) : (-9223372036854775808 ≤ p.1 ∧ p.1 ≤ 9223372036854775807) ∧ -9223372036854775808 ≤ p.2.1 ∧ p.2.1 ≤ 9223372036854775807 := by
  obtain ⟨cs, hI, hc⟩ := h.get hp
  obtain ⟨pAt, pVersion, pData, pDataA, pDatan, pDatac, rfl, rfl, h1_pAt, h2_pAt, h1_pVersion, h2_pVersion, hl_pData, hc_pData, hm_pData, hr_pData, hq_pData⟩ := Page_out hI
  exact ⟨⟨by assumption, by assumption⟩, by assumption, by assumption⟩
theorem mpA_swap {b z : Int} {p p0 : PageD} {r : List PageD} (h1 : p.1 = p0.1) (h2 : p.2.1 = p0.2.1) (h3 : p.2.2.length = p0.2.2.length) : ∀ (l : List PageD) (ah : Int), mpA b z ah (l ++ p :: r) = mpA b z ah (l ++ p0 :: r)
  | [], ah => by simp only [List.nil_append, mpA, h1, h2, h3]
  | x :: l, ah => by simp only [List.cons_append, mpA, mpA_swap h1 h2 h3 l x.1]
theorem stateB_data {num b z : Int} {ps : List PageD} {rows : List RowD} {g : GroupD} {i : Nat} {p0 p : PageD} (h : ps[i]? = some p0) (h1 : p.1 = p0.1) (h2 : p.2.1 = p0.2.1) (h3 : p.2.2.length = p0.2.2.length) :
    stateB (num, (b, z), ps.set i p, rows, g) = stateB (num, (b, z), ps, rows, g) := by
  obtain ⟨e1, e2⟩ := set_split (p := p) h
  have m1 : ∀ ah, mpA b z ah (ps.set i p) = mpA b z ah ps := fun ah => by
    rw [e2, mpA_swap h1 h2 h3, ← e1]
  have m2 : versB num (ps.set i p) = versB num ps := by
    rw [e2]
    conv => rhs; rw [e1]
    unfold versB
    rw [List.all_append, List.all_append, List.all_cons, List.all_cons, h2]
  unfold stateB
  show (_ && (_ && (mpA b z (-1) (ps.set i p) && (_ && (_ && versB num (ps.set i p)))))) = _
  rw [m1, m2]
/-- Two states that differ in one page's bytes within four bytes side by side: their trees. -/
theorem two_trees {num b z : Int} {ps : List PageD} {rows : List RowD} {g : GroupD} {i k : Nat} {p1 p2 : Int} {pd bs : List UInt8} (hs : stateB (num, (b, z), ps, rows, g) = true) (hp0 : ps[i]? = some (p1, p2, pd)) (hl : bs.length = pd.length)
    (ho : ∀ j, j < k ∨ k + 4 ≤ j → bs[j]? = pd[j]?) (hne : bs ≠ pd) :
    stateB (num, (b, z), ps.set i (p1, p2, bs), rows, g) = true ∧ ∃ y : Nat, p1 = (y : Int) ∧ Lv (treeD (ofL (num, (b, z), ps, rows, g))) (treeD (ofL (num, (b, z), ps.set i (p1, p2, bs), rows, g))) ∧
      okT (treeD (ofL (num, (b, z), ps, rows, g))) = true ∧ okT (treeD (ofL (num, (b, z), ps.set i (p1, p2, bs), rows, g))) = true ∧
      (stD (treeD (ofL (num, (b, z), ps, rows, g))) (treeD (ofL (num, (b, z), ps.set i (p1, p2, bs), rows, g))) (treeD (ofL (num, (b, z), ps, rows, g))).length).1 = [y] := by
  obtain ⟨⟨f1, f2⟩, _, f5, f6⟩ := state_facts hs
  dsimp only at f1 f2 f5 f6
  obtain ⟨g1, g2, _⟩ := f5 _ (List.mem_of_getElem? hp0)
  dsimp only at g1 g2
  have hs8 : stateB (num, (b, z), ps.set i (p1, p2, bs), rows, g) = true := by
    rw [stateB_data (p := (p1, p2, bs)) hp0 rfl rfl hl]; exact hs
  have hOne := ofL_one (num := num) (z := z) (rows := rows) (g := g) (p := (p1, p2, bs)) hp0 rfl g1 g2 f6 (leaf_outside hl ho hne p1 p2)
  have h1 := ofL_length (num, (b, z), ps, rows, g)
  have h2 := ofL_length (num, (b, z), ps.set i (p1, p2, bs), rows, g)
  have l1 := ofL_lt (num, (b, z), ps, rows, g)
  have l2 := ofL_lt (num, (b, z), ps.set i (p1, p2, bs), rows, g)
  dsimp only at h1 h2 hOne
  generalize ofL (num, (b, z), ps, rows, g) = O1 at *
  generalize ofL (num, (b, z), ps.set i (p1, p2, bs), rows, g) = O2 at *
  have hLv := lv_tree (la := O1) (lb := O2) (by rw [h1, h2]) (by omega) (by omega)
  exact ⟨hs8, p1.toNat, by omega, hLv, okT_tree (by omega) (by omega), okT_tree (by omega) (by omega), diff_one hOne l1 l2 hLv⟩
theorem tdiff_one (A : Option Addr) (n c : Nat) (B : Option Addr) (m d : Nat) {a b : List (List Nat)} {y : Nat} (w : World) {Q Q' : Nat → Prop} (hT : tyTree.Is w Q a [.slice A n c]) (hU : tyTree.Is w Q' b [.slice B m d]) (ha : okT a = true) (hb : okT b = true) (hL : Lv a b) (hst : (stD a b a.length).1 = [y]) (ht : Tab w) :
    Calls Tryd.prog 38 #[.agg #[.slice A n c], .agg #[.slice B m d]] w fun e w' => ∃ P pc, ∃ cnt : Nat, e = .returned (.tuple #[.slice P 1 pc, .int .i64 (cnt : Int), .int .i64 0]) ∧ Rd w' P (nis [y]) ∧ Below w.heap.size w w' := by
  refine (tdiff_yes A n c B m d a b w hT hU ha hb hL ht).mono ?_
  rintro e w' ⟨P, q, pc, rfl, hq, _, hR, hb⟩
  rw [hst] at hq hR
  have hq : q = 1 := hq.symm
  subst hq
  exact ⟨P, pc, _, rfl, hR, hb⟩
theorem own_blk1 {w : World} {base e n g c : Nat} {xs : List Value} (h : w.ownsRow base e 1 (.slice (some ⟨g, 0, none⟩) n c) n xs) (hn : 0 < n) : base ≤ g ∧ g < w.heap.size := (ownRow_lt h g rfl)
theorem wrap64_small {n : Int} (h : 0 ≤ n) (h2 : n < 18446744073709551616) : IntKind.u64.wrap n = n := by simp [IntKind.wrap, IntKind.bits, IntKind.signed]; omega
theorem wz_add (k e : Nat) (hk : k < 1000000) (he : e < 1000000) : IntKind.i64.wrap ((k : Int) + (e : Int)) = (k : Int) + (e : Int) := by rw [IntKind.wrap_i64]; omega
theorem wz_mul8 (e : Nat) (he : e < 1000000) : IntKind.i64.wrap (8 * (e : Int)) = 8 * (e : Int) := by rw [IntKind.wrap_i64]; omega
theorem xor_byte (b : UInt8) (t : Int) : ∃ b' : UInt8, bits .xor .u8 (b.toNat : Int) (IntKind.u8.wrap t) = (b'.toNat : Int) := by
  have h : IntKind.u8.wrap t = (((t % 256).toNat : Nat) : Int) := by simp [IntKind.wrap, IntKind.bits, IntKind.signed]; omega
  have h2 : (t % 256).toNat < 256 := by omega
  refine ⟨UInt8.ofNat (b.toNat ^^^ (t % 256).toNat), ?_⟩
  rw [h, u8_xor_nat _ _ b.toNat_lt h2, UInt8.toNat_ofNat_of_lt' (Nat.xor_lt_two_pow (n := 8) b.toNat_lt h2)]
set_option maxRecDepth 100000 in
set_option maxHeartbeats 6400000 in
theorem treeOne_walk {w : World} {Q : Nat → Prop} {x : StateD} {cs : List Value} (pg at_ xr : Nat) (h : tyState.Is w Q x cs) (ht : Tab w) (hpg : pg < 256) (hat : at_ < 256) (hxr : xr < 4294967296) :
    Calls Tryd.prog 8 #[.agg cs.toArray, .int .u8 (pg : Int), .int .u8 (at_ : Int), .int .u32 (xr : Int)] w fun e w' => e = .returned (.bool true) ∧ Below w.heap.size w w' := by
  replace h := h.mono (Q' := fun _ => True) (fun _ _ => trivial)
  have hI := h
  obtain ⟨sNum, sShapeBlocks, sShapeSize, sPages, sPagesA, sPagesn, sPagesc, sPagesv, sRows, sRowsA, sRowsn, sRowsc, sRowsv, sGroupEpoch, sGroupMembers, sGroupMembersA, sGroupMembersn, sGroupMembersc, sGroupMembersv, rfl, rfl, h1_sNum, h2_sNum, h1_sShapeBlocks, h2_sShapeBlocks, h1_sShapeSize, h2_sShapeSize, hl_sPages, hc_sPages, hm_sPages, hr_sPages, hq_sPages, he_sPages, hl_sRows, hc_sRows, hm_sRows, hr_sRows, hq_sRows, he_sRows, h1_sGroupEpoch, h2_sGroupEpoch, hl_sGroupMembers, hc_sGroupMembers, hm_sGroupMembers, hr_sGroupMembers, hq_sGroupMembers, he_sGroupMembers⟩ := State_out h
  obtain ⟨w0, hw0⟩ : ∃ x, w.alloc (.cells #[.int .i64 sNum, .int .i64 sShapeBlocks, .int .i64 sShapeSize, .slice sPagesA sPagesn sPagesc, .slice sRowsA sRowsn sRowsc, .int .i64 sGroupEpoch, .slice sGroupMembersA sGroupMembersn sGroupMembersc] 48) = x := ⟨_, rfl⟩; have hBw0 : Blk w0 w.heap.size [.int .i64 sNum, .int .i64 sShapeBlocks, .int .i64 sShapeSize, .slice sPagesA sPagesn sPagesc, .slice sRowsA sRowsn sRowsc, .int .i64 sGroupEpoch, .slice sGroupMembersA sGroupMembersn sGroupMembersc] 48 := (by rw [← hw0]; exact Blk.new w [.int .i64 sNum, .int .i64 sShapeBlocks, .int .i64 sShapeSize, .slice sPagesA sPagesn sPagesc, .slice sRowsA sRowsn sRowsc, .int .i64 sGroupEpoch, .slice sGroupMembersA sGroupMembersn sGroupMembersc] _); have hbw0 : Below w.heap.size w w0 := (by rw [← hw0]; exact (Below.refl _ _).alloc (Nat.le_refl _) _); have Hw0 := hide hw0; clear hw0
  have hI0 := hI.below hbw0
  have ht0 : Tab w0 := Rd.below ht hbw0
  have SM := hide (fun (X : World) (hX : Below w0.heap.size w0 X) => small_any2 (hI0.below hX))
  have RS := hide (fun (X : World) (hX : Below w0.heap.size w0 X) => rstate_any (hI0.below hX))
  have T1 := hide (fun (X : World) (hX : Below w0.heap.size w0 X) (hs : stateB (sNum, (sShapeBlocks, sShapeSize), sPages, sRows, (sGroupEpoch, sGroupMembers)) = true) => tof_yes (hI0.below hX) (Rd.below ht0 hX) hs)
  have HB := hide hBw0
  have AW := hide (awake_any w0 ht0)
  have HrP := hide (hr_sPages.below hbw0)
  have HeP := hide (he_sPages.below hbw0)
  have HlP := hide hl_sPages
  have hSF := fun (hs : stateB (sNum, (sShapeBlocks, sShapeSize), sPages, sRows, (sGroupEpoch, sGroupMembers)) = true) => state_facts hs
  have HSF := hide hSF
  have hst : ∀ hs : stateB (sNum, (sShapeBlocks, sShapeSize), sPages, sRows, (sGroupEpoch, sGroupMembers)) = true, True := fun _ => trivial
  clear hI hI0 ht hSF hst hBw0 hl_sPages
  go_enter Tryd.func8, Tryd.ntmps8
  go_wp2_with fail
  rw [Hw0.out]
  go_fit AW.out
  rintro e w1 ⟨rfl, hb1⟩
  have hB1 := HB.out.below hb1
  have y0 := Blk.cell hB1 (j := 0) rfl; have y1 := Blk.cell hB1 (j := 1) rfl; have y2 := Blk.cell hB1 (j := 2) rfl; have y3 := Blk.cell hB1 (j := 3) rfl; have y4 := Blk.cell hB1 (j := 4) rfl; have y5 := Blk.cell hB1 (j := 5) rfl; have y6 := Blk.cell hB1 (j := 6) rfl
  clear hB1
  go_wp2_with fail
  go_fit (SM.out w1 hb1)
  rintro e w2 ⟨r, rfl, hb2'⟩
  have hb2 := hb1.trans (hb2'.mono hb1.size)
  have hbz2 := hbw0.trans (hb2.mono hbw0.size)
  clear y0 y1 y2 y3 y4 y5 y6 SM AW
  cases r with
  | false =>
    go_wp2
    go_ret
    exact ⟨rfl, hbz2⟩
  | true =>
    have hB2 := HB.out.below hb2
    have y0 := Blk.cell hB2 (j := 0) rfl; have y1 := Blk.cell hB2 (j := 1) rfl; have y2 := Blk.cell hB2 (j := 2) rfl; have y3 := Blk.cell hB2 (j := 3) rfl; have y4 := Blk.cell hB2 (j := 4) rfl; have y5 := Blk.cell hB2 (j := 5) rfl; have y6 := Blk.cell hB2 (j := 6) rfl
    clear hB2
    go_wp2_with fail
    go_fit (RS.out w2 hb2)
    rintro e w3 ⟨rfl, hb3'⟩
    have hb3 := hb2.trans (hb3'.mono hb2.size)
    have hbz3 := hbw0.trans (hb3.mono hbw0.size)
    have HB3 := HB.out.below hb3
    clear y0 y1 y2 y3 y4 y5 y6 hbz2
    cases hs : stateB (sNum, (sShapeBlocks, sShapeSize), sPages, sRows, (sGroupEpoch, sGroupMembers)) with
    | false =>
      rw [stE_no hs]
      clear HB3
      go_wp2
      go_ret
      exact ⟨rfl, hbz3⟩
    | true =>
      rw [stE_ok hs]
      obtain ⟨⟨f1, f2⟩, ⟨f3, f4⟩, f5, f6⟩ := HSF.out hs
      try dsimp only at f1 f2 f3 f4 f5 f6
      have y0 := Blk.cell HB3 (j := 0) rfl; have y1 := Blk.cell HB3 (j := 1) rfl; have y2 := Blk.cell HB3 (j := 2) rfl; have y3 := Blk.cell HB3 (j := 3) rfl; have y4 := Blk.cell HB3 (j := 4) rfl; have y5 := Blk.cell HB3 (j := 5) rfl; have y6 := Blk.cell HB3 (j := 6) rfl
      by_cases hn0 : sPagesn = 0
      · have q0 : ((sPagesn : Int) == 0) = true := by simp [hn0]
        go_wp2
        go_ret
        exact ⟨rfl, hbz3⟩
      · have q0 : ((sPagesn : Int) == 0) = false := by simp [hn0]
        by_cases hd1 : xr = 0
        · have q1 : ((xr : Int) == 0) = true := by simp [hd1]
          go_wp2
          go_ret
          exact ⟨rfl, hbz3⟩
        · have q1 : ((xr : Int) == 0) = false := by simp [hd1]
          have hn4 : sPagesn ≤ 4096 := by
            have h1 := asc_len sPages 0 f6 (fun p hp => by have := f5 p hp; exact ⟨this.1, this.2.1⟩)
            rw [HlP.out] at h1
            omega
          obtain ⟨q, hq⟩ : ∃ q, pg % sPagesn = q := ⟨_, rfl⟩
          have hqn : q < sPagesn := by rw [← hq]; exact Nat.mod_lt _ (by omega)
          have hqI : (pg : Int) % (sPagesn : Int) = (q : Int) := by rw [← hq]; rfl
          have hq3 : 3 * q + 2 < sPagesv.length := by have h0 := HeP.out.1; have h1 := HlP.out; rw [h1] at h0; rw [h0]; show 3 * q + 2 < 3 * sPagesn; omega
          obtain ⟨p0, hp0⟩ : ∃ p0, sPages[q]? = some p0 := ⟨_, List.getElem?_eq_getElem (by rw [HlP.out]; exact hqn)⟩
          obtain ⟨A', n', c', h1, h2, h3, h4, h5, h6, h7, _⟩ := (pg_of HeP.out).2 q p0 hp0
          have hp5 := f5 p0 (List.mem_of_getElem? hp0)
          obtain ⟨a, ha, hat'⟩ := (HrP.out.below hb3).some_of (xs := sPagesv) (by omega)
          subst ha
          have cA := rd3_0 hat' h1
          have cB := rd3_S (i := 0) hat' h2
          have cC := rd3_S (i := 1) hat' h3
          have HcC := hide cC
          have HpD := hide h7
          obtain ⟨p1, p2, pd⟩ := p0
          dsimp only at h4 h7 cA cB hp5
          rw [h4] at hp5
          have hn1 : 1 ≤ n' ∧ n' ≤ 4096 := by omega
          have Hp5 := hide hp5
          replace hp5 := And.intro hp5.1 hp5.2.1
          obtain ⟨w4, hw4⟩ : ∃ y, w3.alloc (.cells #[.int .i64 p1, .int .i64 p2, .slice A' n' c'] 24) = y := ⟨_, rfl⟩
          have hb34 : Below w3.heap.size w3 w4 := by rw [← hw4]; exact (Below.refl _ _).alloc (Nat.le_refl _) _
          have hb4 := hb3.trans (hb34.mono hb3.size)
          have B10 : Blk w4 w3.heap.size [.int .i64 p1, .int .i64 p2, .slice A' n' c'] 24 := by rw [← hw4]; exact Blk.new w3 [.int .i64 p1, .int .i64 p2, .slice A' n' c'] _
          have z3 := (B10.alloc (.cells #[] 5)).cell (j := 2) rfl
          have hzw4 : w4.heap.size = w3.heap.size + 1 := by rw [← hw4]; exact World.size_alloc _ _
          rw [← hw4] at z3
          have Hw4 := hide hw4
          have Hz4 := hide hzw4
          clear hw4 hq hzw4 h1 h2 h3 hat'
          go_wp2_with (first | (with_reducible refine stop_append rfl ?_) | (with_reducible refine stop_copy rfl ?_) | (with_reducible refine stop_make rfl ?_))
          try rw [Hw4.out]
          rw [← Hz4.out]
          refine (Grow.empty w4 _ _).append rfl rfl tBytes rfl rfl (m := n') (by rw [bys_length, h4, Nat.mul_one]) ((h7.below hb4).alloc _) (bys_one _) (by omega) (by omega) ?_
          intro v1 w6 hG1 _
          rw [Nat.zero_add, List.nil_append] at hG1
          obtain ⟨g, c1, rfl, hgb, hc1, hcm1⟩ : ∃ g c1, v1 = .slice (some ⟨g, 0, none⟩) n' c1 ∧ w4.heap.size ≤ g ∧ n' ≤ c1 ∧ c1 ≤ maxLen := by
            rcases hG1.owns.2 with ⟨_, h2, _⟩ | ⟨g, cap, cur, rfl, hb, hg, h1, h2, _⟩
            · omega
            · exact ⟨g, cap, rfl, hb, h1, h2⟩
          have hb46 : Below w4.heap.size w4 w6 := hG1.emptyAll
          have hb6 := hb4.trans (hb46.mono hb4.size)
          have B10' := B10.below hb46
          obtain ⟨b10, hb10⟩ : ∃ y, w3.heap.size = y := ⟨_, rfl⟩
          have hz4 := Hz4.out
          rw [hb10] at B10 B10' hz4
          have d10 := B10'.cell (j := 2) rfl
          have fr10 := B10'.frozen 2
          obtain ⟨W7, hW7⟩ : ∃ y, w6.setCell ⟨b10, 2, none⟩ (.slice (some ⟨g, 0, none⟩) n' c1) = y := ⟨_, rfl⟩
          have fW7 : Fr (fun b => b = b10) w6 W7 := by rw [← hW7]; exact Fr.set _ _ _ rfl
          have B107 : Blk W7 b10 [.int .i64 p1, .int .i64 p2, .slice (some ⟨g, 0, none⟩) n' c1] 24 := by rw [← hW7]; exact B10'.set 2 _
          have hO7 := ownRow_fr hG1.owns fW7 (fun y hy hx => by have := (ownRow_lt hG1.owns y hy).1; omega)
          have c107 := B107.cell (j := 2) rfl
          obtain ⟨k, hk⟩ : ∃ k, at_ % n' = k := ⟨_, rfl⟩
          have hkn : k < n' := by rw [← hk]; exact Nat.mod_lt _ (by omega)
          have hkI : (at_ : Int) % (n' : Int) = (k : Int) := by rw [← hk]; rfl
          have HW7 := hide hW7
          have Hb10 := hide hb10
          have Hz := hide hz4
          have hgb10 : b10 < g := by omega
          clear hk z3 y0 y1 y2 y3 y4 y5 y6
          have hwz : b10 < w4.heap.size := B10.lt
          have hn00 : ((n' : Int) == 0) = false := by simp; omega
          go_wp2_with fail
          try rw [hW7]
          rw [hkI]
          clear hkI
          go_loopw [12] (fun si W => ∃ (e : Nat) (bs : List UInt8), e ≤ 4 ∧ si = .int .i64 (e : Int) ∧ bs.length = n' ∧ (∀ j, j < k ∨ k + 4 ≤ j → bs[j]? = pd[j]?) ∧ W.ownsRow w4.heap.size 5 1 (.slice (some ⟨g, 0, none⟩) n' c1) n' (bys bs) ∧ Fr (fun b => b = g) W7 W) (fun si _ => 4 - (intOf si).toNat)
          case atStart => exact ⟨0, pd, by omega, rfl, h4, fun _ _ => rfl, hO7, Fr.refl _ _⟩
          case round =>
            obtain ⟨e, bs, he, rfl, hbl, hbo, hO, hF⟩ := hrel
            have d10 := (B107.fr hF (by omega)).cell (j := 2) rfl
            by_cases hlt : e < 4 ∧ k + e < n'
            · obtain ⟨hl1, hl2⟩ := hlt
              have q2 : decide ((e : Int) < 4) = true := decide_eq_true (by omega)
              have q3 : decide ((k : Int) + (e : Int) < (n' : Int)) = true := decide_eq_true (by omega)
              have hkl : k + e < bs.length := by omega
              obtain ⟨b, hb⟩ : ∃ b, bs[k + e] = b := ⟨_, rfl⟩
              obtain ⟨A5, c5, hv5, -, -, -, hr5, -⟩ := own_out hO
              injection hv5 with hv5 hn5 hc5
              subst hv5
              clear hn5
              subst hc5
              obtain ⟨ab, hab, hcb⟩ := hr5 (k + e) (.int .u8 (b.toNat : Int)) (by unfold bys; rw [List.getElem?_map, List.getElem?_eq_getElem hkl, hb]; rfl)
              injection hab with hab
              subst hab
              rw [show (⟨g, 0, none⟩ : Addr).add (k + e) = ⟨g, k + e, none⟩ from by unfold Addr.add; split <;> simp_all] at hcb
              have fz := own_frozen25 hO (k + e)
              obtain ⟨tv, htv⟩ : ∃ y, (xr : Int) / 2 ^ (8 * (e : Int)).toNat = y := ⟨_, rfl⟩
              obtain ⟨b', hb'⟩ := xor_byte b tv
              have hw64 : IntKind.u64.wrap (8 * (e : Int)) = 8 * (e : Int) := wrap64_small (by omega) (by omega)
              have wz1 := wz_add k e (by omega) (by omega)
              have wz8 := wz_mul8 e (by omega)
              have Hb' := hide hb'
              have Hb := hide hb
              have i1 : (0 : Int) ≤ (k : Int) + (e : Int) := by omega
              have i2 : (k : Int) + (e : Int) < (n' : Int) := by omega
              have i3 : ((k : Int) + (e : Int)).toNat = k + e := by omega
              have i5 : (0 : Int) ≤ 8 * (e : Int) := by omega
              go_wp2_with fail
              go_region_with fail
              all_goals
                obtain ⟨Z, hZ⟩ : ∃ y, (wr.setCell ⟨g, k + e, none⟩ (.int .u8 (b'.toNat : Int))).drew = y := ⟨_, rfl⟩
                have hO2 : Z.ownsRow w4.heap.size 5 1 (.slice (some ⟨g, 0, none⟩) n' c1) n' (bys (bs.set (k + e) b')) := by
                  rw [← hZ, show bys (bs.set (k + e) b') = (bys bs).set (k + e) (.int .u8 (b'.toNat : Int)) from by unfold bys; rw [List.map_set]]
                  exact own_store25 hO (k + e) _
                have hF2 : Fr (fun b => b = g) W7 Z := by rw [← hZ]; exact (hF.trans (Fr.set _ _ _ rfl)).drew
                have hl2 : (bs.set (k + e) b').length = n' := by rw [List.length_set]; exact hbl
                have hbo2 : ∀ j, j < k ∨ k + 4 ≤ j → (bs.set (k + e) b')[j]? = pd[j]? := fun j hj => by rw [List.getElem?_set_ne (by omega)]; exact hbo j hj
                rw [hZ]
                clear hZ hO hF hcb d10 fz i1 i2 i3 i5 wz1 wz8 hw64 q2 q3 htv hbo hr5
                go_wp2
                go_roundw
                case rel => exact ⟨e + 1, _, by omega, by go_num, hl2, hbo2, hO2, hF2⟩
                case measure => simp [intOf]; omega
            · have hx : ¬ e < 4 ∨ (e < 4 ∧ ¬ k + e < n') := by omega
              have hs3 := hb3.size
              have hlt0 := HB.out.lt
              have hs46 := hb46.size
              have HBr := ((HB.out.below hb6).fr fW7 (by omega)).fr hF (by omega)
              have hF7 : Below w0.heap.size w0 W7 := fW7.below hb6 (by have := hb6.size; omega) (fun b hb => by omega)
              have hFr : Below w0.heap.size w0 wr := hF.below hF7 (by have := hF7.size; omega) (fun b hb => by omega)
              have hbwr := hbw0.trans (hFr.mono hbw0.size)
              have B10r := B107.fr hF (by omega)
              have hagb : a.block < w0.heap.size := rd_block HrP.out (fun e => by rw [e] at hq3; simp at hq3) a rfl
              have h3r := hF.below (fW7.below ((hb34.trans (hb46.mono hb34.size))) (by omega) (fun b hb => by omega)) (by have := fW7.size; omega) (fun b hb => by omega)
              have cCr : wr.cell? ⟨(a.add (q * 3)).block, (a.add (q * 3)).off + 2, none⟩ = some (.slice A' n' c') := below_cell h3r HcC.out
              have hrr : Rd wr A' (bys pd) := HpD.out.below hFr
              obtain ⟨A5, c5, hv5, -, -, -, hr5, -⟩ := own_out hO
              injection hv5 with hv5 hn5 hc5
              subst hv5
              clear hn5
              subst hc5
              have Hbl := hide hbl
              have Hh4 := hide h4
              obtain ⟨wd, hwd⟩ : ∃ y, wr.drew = y := ⟨_, rfl⟩
              have hdr : Below wr.heap.size wr wd := by rw [← hwd]; exact (Below.refl _ _).drew
              have cv1 := convB c1 hbl (hr5.below hdr)
              have cv2 := convB c' h4 (hrr.below hdr)
              have Bd10 := B10r.below hdr
              have HBd := HBr.below hdr
              have hFd := hFr.trans (hdr.mono hFr.size)
              have hrd := hr5.below hdr
              have hzd : wd.heap.size = wr.heap.size := by rw [← hwd]; rfl
              have hS0 : (wd.cell? ⟨b10, 2, none⟩ = some (.slice (some ⟨g, 0, none⟩) n' c1) ∧ wd.cell? ⟨w.heap.size, 3, none⟩ = some (.slice (some a) sPagesn sPagesc) ∧ wd.cell? ⟨(a.add (q * 3)).block, (a.add (q * 3)).off + 2, none⟩ = some (.slice A' n' c') ∧ (convert 22 9 (.slice (some ⟨g, 0, none⟩) n' c1)).run Tryd.prog wd = .ok (.string (strOf bs)) wd ∧ (convert 22 9 (.slice A' n' c')).run Tryd.prog wd = .ok (.string (strOf pd)) wd) := ⟨Bd10.cell (j := 2) rfl, HBd.cell (j := 3) rfl, below_cell hdr cCr, cv1, cv2⟩
              have HSS := hide hS0
              have Hwd := hide hwd
              obtain ⟨rq, hrq⟩ : ∃ y : Bool, (bs == pd) = y := ⟨_, rfl⟩
              have Hrq := hide hrq
              have Hbo := hide hbo
              have Hzd := hide hzd
              clear hrq hbo hzd
              have HB10 := hide Bd10
              have HBd := hide HBd
              have hgs : g < wr.heap.size := by have := (own_blk1 hO (by omega)); omega
              have hwg : w0.heap.size ≤ b10 := by omega
              clear hS0 cv1 cv2 hwd hO hF hbl h4 hrr hr5 B10r HBr Bd10 cCr hb10 hz4 hW7 hlt fr10 c107 cC cA cB B107 B10 B10' HB3 hO7 fW7 hs46 h7 hG1 
              rcases hx with hx | ⟨hx, hx2⟩
              case' inl => have q2 : decide ((e : Int) < 4) = false := decide_eq_false (by omega)
              case' inr =>
                have q2 : decide ((e : Int) < 4) = true := decide_eq_true (by omega)
                have q3 : decide ((k : Int) + (e : Int) < (n' : Int)) = false := decide_eq_false (by omega)
              all_goals
                go_wp2_with fail
                refine wp_region_held_drew (S := fun Z => Z.cell? ⟨b10, 2, none⟩ = some (.slice (some ⟨g, 0, none⟩) n' c1) ∧ Z.cell? ⟨w.heap.size, 3, none⟩ = some (.slice (some a) sPagesn sPagesc) ∧ Z.cell? ⟨(a.add (q * 3)).block, (a.add (q * 3)).off + 2, none⟩ = some (.slice A' n' c') ∧ (convert 22 9 (.slice (some ⟨g, 0, none⟩) n' c1)).run Tryd.prog Z = .ok (.string (strOf bs)) Z ∧ (convert 22 9 (.slice A' n' c')).run Tryd.prog Z = .ok (.string (strOf pd)) Z) (by kernel_rfl) (by rw [Hwd.out]; exact HSS.out) (fun hSd => ?_)
                rw [Hwd.out] at hSd ⊢
                refine wpAnyH_take (fuel := 10) (i := 0) (v := .pointer (some ⟨b10, 2, none⟩)) rfl (by kernel_rfl) (by kernel_rfl) (by kernel_rfl) (fun _ _ _ h => h) (Or.inl ⟨by rfl, fun Z hZ => ?_⟩) hSd ?_
                · obtain ⟨z1, z2, z3, z4, z5⟩ := hZ
                  go_simp
                refine wpAnyH_take (i := 1) (v := .slice (some ⟨g, 0, none⟩) n' c1) rfl (by kernel_rfl) (by kernel_rfl) (by kernel_rfl) (fun _ _ _ h => h) (Or.inl ⟨by rfl, fun Z hZ => ?_⟩) hSd ?_
                · obtain ⟨z1, z2, z3, z4, z5⟩ := hZ
                  go_simp
                refine wpAnyH_take (i := 2) (v := .string (strOf bs)) rfl (by kernel_rfl) (by kernel_rfl) (by kernel_rfl) (fun _ _ _ h => h) (Or.inl ⟨by rfl, fun Z hZ => ?_⟩) hSd ?_
                · obtain ⟨z1, z2, z3, z4, z5⟩ := hZ
                  go_simp
                refine wpAnyH_take (i := 3) (v := .pointer (some ⟨w.heap.size, 3, none⟩)) rfl (by kernel_rfl) (by kernel_rfl) (by kernel_rfl) (fun _ _ _ h => h) (Or.inl ⟨by rfl, fun Z hZ => ?_⟩) hSd ?_
                · obtain ⟨z1, z2, z3, z4, z5⟩ := hZ
                  go_simp
                refine wpAnyH_take (i := 4) (v := .slice (some a) sPagesn sPagesc) rfl (by kernel_rfl) (by kernel_rfl) (by kernel_rfl) (fun _ _ _ h => h) (Or.inl ⟨by rfl, fun Z hZ => ?_⟩) hSd ?_
                · obtain ⟨z1, z2, z3, z4, z5⟩ := hZ
                  go_simp
                refine wpAnyH_take (i := 5) (v := .int .i64 (q : Int)) rfl (by kernel_rfl) (by kernel_rfl) (by kernel_rfl) (fun _ _ _ h => h) (Or.inl ⟨by rfl, fun Z hZ => ?_⟩) hSd ?_
                · obtain ⟨z1, z2, z3, z4, z5⟩ := hZ
                  go_simp
                refine wpAnyH_take (i := 6) (v := .pointer (some (a.add (q * 3)))) rfl (by kernel_rfl) (by kernel_rfl) (by kernel_rfl) (fun _ _ _ h => h) (Or.inl ⟨by rfl, fun Z hZ => ?_⟩) hSd ?_
                · obtain ⟨z1, z2, z3, z4, z5⟩ := hZ
                  go_simp
                refine wpAnyH_take (i := 7) (v := .pointer (some ⟨(a.add (q * 3)).block, (a.add (q * 3)).off + 2, none⟩)) rfl (by kernel_rfl) (by kernel_rfl) (by kernel_rfl) (fun _ _ _ h => h) (Or.inl ⟨by rfl, fun Z hZ => ?_⟩) hSd ?_
                · obtain ⟨z1, z2, z3, z4, z5⟩ := hZ
                  go_simp
                refine wpAnyH_take (i := 8) (v := .slice A' n' c') rfl (by kernel_rfl) (by kernel_rfl) (by kernel_rfl) (fun _ _ _ h => h) (Or.inl ⟨by rfl, fun Z hZ => ?_⟩) hSd ?_
                · obtain ⟨z1, z2, z3, z4, z5⟩ := hZ
                  go_simp
                refine wpAnyH_take (i := 9) (v := .string (strOf pd)) rfl (by kernel_rfl) (by kernel_rfl) (by kernel_rfl) (fun _ _ _ h => h) (Or.inl ⟨by rfl, fun Z hZ => ?_⟩) hSd ?_
                · obtain ⟨z1, z2, z3, z4, z5⟩ := hZ
                  go_simp
                refine wpAnyH_take (i := 10) (v := .bool rq) rfl (by kernel_rfl) (by kernel_rfl) (by kernel_rfl) (fun _ _ _ h => h) (Or.inl ⟨by rfl, fun Z hZ => ?_⟩) hSd ?_
                · obtain ⟨z1, z2, z3, z4, z5⟩ := hZ
                  go_simp
                  exact Hrq.out
                refine wpAnyH_done (by kernel_rfl) ?_ _
                clear hSd
                simp only [Act.put, List.setIfInBounds_toArray, List.set_cons_zero, List.set_cons_succ, List.getElem_toArray, List.getElem_cons_zero, List.getElem_cons_succ]
                cases rq with
                | true =>
                  go_wp2
                  go_ret
                  exact ⟨rfl, hbw0.trans (hFd.mono hbw0.size)⟩
                | false =>
                  have hbp : bs ≠ pd := fun e => by have := Hrq.out; rw [e] at this; simp at this
                  have HBd7 := HBd.out
                  have y0 := Blk.cell HBd7 (j := 0) rfl; have y1 := Blk.cell HBd7 (j := 1) rfl; have y2 := Blk.cell HBd7 (j := 2) rfl; have y3 := Blk.cell HBd7 (j := 3) rfl; have y4 := Blk.cell HBd7 (j := 4) rfl; have y5 := Blk.cell HBd7 (j := 5) rfl; have y6 := Blk.cell HBd7 (j := 6) rfl
                  clear HBd7
                  obtain ⟨w9, hw9⟩ : ∃ y, wd.alloc (.cells #[.int .i64 sNum, .int .i64 sShapeBlocks, .int .i64 sShapeSize, .slice (some a) sPagesn sPagesc, .slice sRowsA sRowsn sRowsc, .int .i64 sGroupEpoch, .slice sGroupMembersA sGroupMembersn sGroupMembersc] 48) = y := ⟨_, rfl⟩
                  have hbd9 : Below wd.heap.size wd w9 := by rw [← hw9]; exact (Below.refl _ _).alloc (Nat.le_refl _) _
                  have hb9 := hFd.trans (hbd9.mono hFd.size)
                  have B13 : Blk w9 wd.heap.size [.int .i64 sNum, .int .i64 sShapeBlocks, .int .i64 sShapeSize, .slice (some a) sPagesn sPagesc, .slice sRowsA sRowsn sRowsc, .int .i64 sGroupEpoch, .slice sGroupMembersA sGroupMembersn sGroupMembersc] 48 := by rw [← hw9]; exact Blk.new wd [.int .i64 sNum, .int .i64 sShapeBlocks, .int .i64 sShapeSize, .slice (some a) sPagesn sPagesc, .slice sRowsA sRowsn sRowsc, .int .i64 sGroupEpoch, .slice sGroupMembersA sGroupMembersn sGroupMembersc] _
                  have z3 := ((HBd.out.below hbd9).alloc (.cells #[] 24)).cell (j := 3) rfl
                  have hzw9 : w9.heap.size = wd.heap.size + 1 := by rw [← hw9]; exact World.size_alloc _ _
                  rw [← hw9] at z3
                  have Hw9 := hide hw9
                  have Hz9 := hide hzw9
                  clear hw9 hzw9
                  go_wp2_with (first | (with_reducible refine stop_append rfl ?_) | (with_reducible refine stop_copy rfl ?_) | (with_reducible refine stop_make rfl ?_))
                  try rw [Hw9.out]
                  rw [← Hz9.out]
                  refine (Grow.empty w9 _ _).append rfl rfl tPagesT rfl rfl (m := sPagesn) (by have h0 := HeP.out.1; have h1 := HlP.out; rw [h1] at h0; rw [h0]; exact Nat.mul_comm _ _) ((HrP.out.below hb9).alloc _) (Ty.Rows.ones (HeP.out.below hb9)) (by omega) (by omega) ?_
                  intro v1 wA hG2 _
                  rw [Nat.zero_add, List.nil_append] at hG2
                  obtain ⟨g2, c2, L, rfl, hgb2, BL, hLx, hc2, hcm2⟩ := own_blk3 hG2.owns (by omega)
                  have hb9A : Below w9.heap.size w9 wA := hG2.emptyAll
                  have hbA := hb9.trans (hb9A.mono hb9.size)
                  have hbdA := hbd9.trans (hb9A.mono hbd9.size)
                  have B13' := B13.below hb9A
                  obtain ⟨b13, hb13⟩ : ∃ y, wd.heap.size = y := ⟨_, rfl⟩
                  have hz9 := Hz9.out
                  have hzd := Hzd.out
                  rw [hb13] at B13 B13' hz9
                  have d13 := B13'.cell (j := 3) rfl
                  have fr13 := B13'.frozen 3
                  obtain ⟨WB, hWB⟩ : ∃ y, wA.setCell ⟨b13, 3, none⟩ (.slice (some ⟨g2, 0, none⟩) sPagesn c2) = y := ⟨_, rfl⟩
                  have fWB : Fr (fun b => b = b13) wA WB := by rw [← hWB]; exact Fr.set _ _ _ rfl
                  have B13B : Blk WB b13 [.int .i64 sNum, .int .i64 sShapeBlocks, .int .i64 sShapeSize, .slice (some ⟨g2, 0, none⟩) sPagesn c2, .slice sRowsA sRowsn sRowsc, .int .i64 sGroupEpoch, .slice sGroupMembersA sGroupMembersn sGroupMembersc] 48 := by rw [← hWB]; exact B13'.set 3 _
                  have BLB := BL.fr fWB (by omega)
                  have hgw0 : w0.heap.size ≤ g2 := by have := hb9.size; omega
                  have hb13w : w0.heap.size ≤ b13 := by have := hFd.size; omega
                  have B10B := (HB10.out.below hbdA).fr fWB (by have := HB10.out.lt; omega)
                  have hFB : Below w0.heap.size w0 WB := fWB.below hbA (by have := hbA.size; omega) (fun b hb => by omega)
                  have hdB : Below wd.heap.size wd WB := fWB.below hbdA (by have := hbdA.size; omega) (fun b hb => by omega)
                  have hLj : ∀ j, j < sPagesn * 3 → ∀ u, sPagesv[j]? = some u → L[j]? = some u := fun j hj u hu => by
                    rw [← hLx, List.getElem?_take, if_pos hj] at hu
                    exact hu
                  have hlv : sPagesv.length = 3 * sPagesn := by have h0 := HeP.out.1; have h1 := HlP.out; rw [h1] at h0; exact h0
                  obtain ⟨u0, hu0⟩ : ∃ u, sPagesv[q * 3]? = some u := ⟨_, List.getElem?_eq_getElem (by omega)⟩
                  have k0 := BLB.cell (j := q * 3) (hLj _ (by omega) _ hu0)
                  obtain ⟨u1, hu1⟩ : ∃ u, sPagesv[q * 3 + 1]? = some u := ⟨_, List.getElem?_eq_getElem (by omega)⟩
                  have k1 := BLB.cell (j := q * 3 + 1) (hLj _ (by omega) _ hu1)
                  obtain ⟨u2, hu2⟩ : ∃ u, sPagesv[q * 3 + 2]? = some u := ⟨_, List.getElem?_eq_getElem (by omega)⟩
                  have k2 := BLB.cell (j := q * 3 + 2) (hLj _ (by omega) _ hu2)
                  have r0 := BLB.frozen (q * 3)
                  have r1 := BLB.frozen (q * 3 + 1)
                  have r2 := BLB.frozen (q * 3 + 2)
                  obtain ⟨WC, hWC⟩ : ∃ y, (((WB.setCell ⟨g2, q * 3, none⟩ (.int .i64 p1)).setCell ⟨g2, q * 3 + 1, none⟩ (.int .i64 p2)).setCell ⟨g2, q * 3 + 2, none⟩ (.slice (some ⟨g, 0, none⟩) n' c1)) = y := ⟨_, rfl⟩
                  have fWC : Fr (fun b => b = g2) WB WC := by rw [← hWC]; exact (((Fr.set (X := fun b => b = g2) WB _ _ rfl).trans (Fr.set _ _ _ rfl)).trans (Fr.set _ _ _ rfl))
                  have BLC : Blk WC g2 (((L.set (q * 3) (.int .i64 p1)).set (q * 3 + 1) (.int .i64 p2)).set (q * 3 + 2) (.slice (some ⟨g, 0, none⟩) n' c1)) 24 := by rw [← hWC]; exact (show Blk (((WB.setCell ⟨g2, q * 3, none⟩ (.int .i64 p1)).setCell ⟨g2, q * 3 + 1, none⟩ (.int .i64 p2)).setCell ⟨g2, q * 3 + 2, none⟩ (.slice (some ⟨g, 0, none⟩) n' c1)) g2 _ _ from ((BLB.set _ _).set _ _).set _ _)
                  have hdC : Below wd.heap.size wd WC := fWC.below hdB (by have := hdB.size; omega) (fun b hb => by omega)
                  have hbC := hFd.trans (hdC.mono hFd.size)
                  have B13C := B13B.fr fWC (by omega)
                  have b0 := B10B.cell (j := 0) rfl
                  have b1 := B10B.cell (j := 1) rfl
                  have b2 := B10B.cell (j := 2) rfl
                  have m3 := B13B.cell (j := 3) rfl
                  have hyC := HBd.out.below hdC
                  have HyC := hide hyC
                  rw [← hWC] at hyC
                  have HWB := hide hWB
                  have HWC := hide hWC
                  have HLx := hide hLx
                  have HBLC := hide BLC
                  have HB13C := hide B13C
                  have Hlv := hide hlv
                  clear y0 y1 y2 y3 y4 y5 y6 hWC hLx hLj hlv hzd hz9 z3 BL BLB B13 B13' B13B BLC B13C B10B fWB fWC hG2 hu0 hu1 hu2
                  have y0 := Blk.cell hyC (j := 0) rfl; have y1 := Blk.cell hyC (j := 1) rfl; have y2 := Blk.cell hyC (j := 2) rfl; have y3 := Blk.cell hyC (j := 3) rfl; have y4 := Blk.cell hyC (j := 4) rfl; have y5 := Blk.cell hyC (j := 5) rfl; have y6 := Blk.cell hyC (j := 6) rfl
                  clear hyC
                  go_wp2_with fail
                  try rw [HWB.out]
                  have hbwC := hbw0.trans (hbC.mono hbw0.size)
                  have hpv := page_ver he_sPages hp0
                  have hrn : Rd WC (some ⟨g2, 0, none⟩) (((sPagesv.set (3 * q) (.int .i64 p1)).set (3 * q + 1) (.int .i64 p2)).set (3 * q + 2) (.slice (some ⟨g, 0, none⟩) n' c1)) := by
                    have h0 := rd_blk3 (m := sPagesn * 3) HBLC.out
                    rw [List.take_set, List.take_set, List.take_set, HLx.out, Nat.mul_comm q 3] at h0
                    exact h0
                  have hI8 : tyState.Is WC (fun _ => True) (sNum, (sShapeBlocks, sShapeSize), sPages.set q (p1, p2, bs), sRows, (sGroupEpoch, sGroupMembers)) [.int .i64 sNum, .int .i64 sShapeBlocks, .int .i64 sShapeSize, .slice (some ⟨g2, 0, none⟩) sPagesn c2, .slice sRowsA sRowsn sRowsc, .int .i64 sGroupEpoch, .slice sGroupMembersA sGroupMembersn sGroupMembersc] :=
                    State_mk (by assumption) (by assumption) (by assumption) (by assumption) (by assumption) (by assumption) (by rw [List.length_set]; exact HlP.out) hc2 (by unfold maxLen at hcm2; omega) hrn (fun _ _ _ => trivial) (rows_set (he_sPages.below hbwC) (Page_mk hpv.1.1 hpv.1.2 hpv.2.1 hpv.2.2 Hbl.out hc1 (by unfold maxLen at hcm1; omega) (hrd.below hdC) (fun _ _ _ => trivial)))
                      hl_sRows hc_sRows hm_sRows (hr_sRows.below hbwC) (fun _ _ _ => trivial) (he_sRows.below hbwC) (by assumption) (by assumption) hl_sGroupMembers hc_sGroupMembers hm_sGroupMembers (hr_sGroupMembers.below hbwC) (fun _ _ _ => trivial) (he_sGroupMembers.below hbwC)
                  obtain ⟨hs8, z, hz, hLv, hok1, hok2, hst⟩ := two_trees hs hp0 (show bs.length = pd.length by rw [Hbl.out, Hh4.out]) Hbo.out hbp
                  have HT1 := fun (X : World) (hX : Below w0.heap.size w0 X) => T1.out X hX hs
                  have HT2 := fun (X : World) (hX : Below WC.heap.size WC X) => tof_yes (hI8.below hX) (Rd.below (Rd.below ht0 hbC) hX) hs8
                  obtain ⟨O1, hO1⟩ : ∃ y, ofL (sNum, (sShapeBlocks, sShapeSize), sPages, sRows, (sGroupEpoch, sGroupMembers)) = y := ⟨_, rfl⟩
                  obtain ⟨O2, hO2⟩ : ∃ y, ofL (sNum, (sShapeBlocks, sShapeSize), sPages.set q (p1, p2, bs), sRows, (sGroupEpoch, sGroupMembers)) = y := ⟨_, rfl⟩
                  rw [hO1] at HT1 hLv hok1 hst
                  rw [hO2] at HT2 hLv hok2 hst
                  have HDFh := hide (And.intro hok1 (And.intro hok2 (And.intro hLv hst)))
                  have HT1h := hide HT1
                  have HT2h := hide HT2
                  have HbC := hide hbC
                  have Hhz := hide hz
                  have Hb10w := hide hwg
                  have HB10C := hide (HB10.out.below hdC)
                  clear hrn hI8 hs8 HT1 HT2 hO1 hO2 hz hLv hst hok1 hok2 hpv
                  go_wp2_with fail
                  rw [HWC.out]
                  clear y0 y1 y2 y3 y4 y5 y6 b0 b1 b2 m3 k0 k1 k2 r0 r1 r2 d13 fr13
                  go_fit (HT1h.out WC hbC)
                  rintro e2 wD ⟨P, pn, pc, rfl, hP, hbD⟩
                  obtain ⟨wE, hwE⟩ : ∃ y, wD.alloc (.cells #[.slice P pn pc] 29) = y := ⟨_, rfl⟩
                  have hbDE : Below wD.heap.size wD wE := by rw [← hwE]; exact (Below.refl _ _).alloc (Nat.le_refl _) _
                  have hbE := hbD.trans (hbDE.mono hbD.size)
                  have B11 : Blk wE wD.heap.size [.slice P pn pc] 29 := by rw [← hwE]; exact Blk.new wD [.slice P pn pc] _
                  have hE13 := HB13C.out.below hbE
                  rw [← hwE] at hE13
                  have HwE := hide hwE
                  have HP := hide (hP.below hbDE)
                  clear hwE hP
                  have y0 := Blk.cell hE13 (j := 0) rfl; have y1 := Blk.cell hE13 (j := 1) rfl; have y2 := Blk.cell hE13 (j := 2) rfl; have y3 := Blk.cell hE13 (j := 3) rfl; have y4 := Blk.cell hE13 (j := 4) rfl; have y5 := Blk.cell hE13 (j := 5) rfl; have y6 := Blk.cell hE13 (j := 6) rfl
                  clear hE13
                  go_wp2_with fail
                  rw [HwE.out]
                  go_fit (HT2h.out wE hbE)
                  rintro e3 wF ⟨R, rn, rc, rfl, hR, hbF⟩
                  have hbCF := hbE.trans (hbF.mono hbE.size)
                  obtain ⟨X, hX⟩ : ∃ y, wF.alloc (.cells #[.slice R rn rc] 29) = y := ⟨_, rfl⟩
                  have hbFX : Below wF.heap.size wF X := by rw [← hX]; exact (Below.refl _ _).alloc (Nat.le_refl _) _
                  have hbEX := hbF.trans (hbFX.mono hbF.size)
                  have hbCX := hbE.trans (hbEX.mono hbE.size)
                  have hb0X := hbC.trans (hbCX.mono hbC.size)
                  have B15 : Blk X wF.heap.size [.slice R rn rc] 29 := by rw [← hX]; exact Blk.new wF [.slice R rn rc] _
                  have c14 := (B11.below hbEX).cell (j := 0) rfl
                  have c16 := B15.cell (j := 0) rfl
                  rw [← hX] at c14 c16
                  have HX := hide hX
                  have hPX := HP.out.below hbEX
                  have hRX := hR.below hbFX
                  have HDX := hide (tdiff_one P pn pc R rn rc X hPX hRX HDFh.out.1 HDFh.out.2.1 HDFh.out.2.2.1 HDFh.out.2.2.2 (Rd.below ht0 hb0X))
                  clear hX hR y0 y1 y2 y3 y4 y5 y6 B11 B15 hPX hRX HDFh HP
                  go_wp2_with fail
                  rw [HX.out]
                  go_fit HDX.out
                  rintro e4 wH ⟨P9, pc9, cnt, rfl, hR9, hbH⟩
                  have hbCH := hbCX.trans (hbH.mono hbCX.size)
                  have c10 := (HB10C.out.below hbCH).cell (j := 0) rfl
                  have hb0H := hb0X.trans (hbH.mono hb0X.size)
                  obtain ⟨Y, hY⟩ : ∃ y, wH.alloc (.cells #[.int .i64 p1] 3) = y := ⟨_, rfl⟩
                  have hbHY : Below wH.heap.size wH Y := by rw [← hY]; exact (Below.refl _ _).alloc (Nat.le_refl _) _
                  have BY : Blk Y wH.heap.size [.int .i64 p1] 3 := by rw [← hY]; exact Blk.new wH [.int .i64 p1] _
                  have hRY : Rd Y (some ⟨wH.heap.size, 0, none⟩) (nis [z]) := by
                    rw [show nis [z] = [.int .i64 p1] from by rw [Hhz.out]; rfl]
                    intro j u hu
                    refine ⟨_, rfl, ?_⟩
                    rw [show (⟨wH.heap.size, 0, none⟩ : Addr).add j = ⟨wH.heap.size, j, none⟩ from by unfold Addr.add; split <;> simp_all]
                    exact BY.cell hu
                  have hb0Y := hb0H.trans (hbHY.mono hb0H.size)
                  have HSP := hide (sameplaces_eq P9 1 pc9 (some ⟨wH.heap.size, 0, none⟩) 1 [z] Y rfl (by omega) (hR9.below hbHY) hRY)
                  have HY := hide hY
                  clear hY hRY hR9 BY
                  go_wp2_with fail
                  rw [HY.out]
                  go_fit HSP.out
                  rintro e5 wZ ⟨rfl, hbZ⟩
                  go_wp2
                  go_ret
                  have hbf := hb0Y.trans (hbZ.mono hb0Y.size)
                  exact ⟨by simp, hbw0.trans (hbf.mono hbw0.size)⟩
end Go.Proofs.YtcpnobhdogpfiaaDoor
namespace Go.Proofs.YtcpnobhdogpfiaaDoor
set_option maxRecDepth 20000
open Go.ChangeShapes Go.WideShapes Go.ChangeAt Go.RowKit Go.Px Go.Deep
set_option linter.unusedVariables false

theorem treeOne_met (os : Os) : laidMet Tryd.prog Rows.treeOneRow.laid ((tabWorld os).forCall (fun _ _ => 0) ⟨#[], #[.agg #[.int .i64 0, .int .i64 0, .int .i64 0, .slice none 0 0, .slice none 0 0, .int .i64 0, .slice none 0 0], .int .u8 0, .int .u8 0, .int .u32 0], []⟩).memory :=
  laidMet_of_run' 8 (by kernel_rfl) (by kernel_rfl)
theorem treeOne_reads (os : Os) {H : Type} (enc : TypeId × Value → H) : ∃ places, DataW.whole enc Tryd.prog ((tabWorld os).forCall (fun _ _ => 0) ⟨#[], #[.agg #[.int .i64 0, .int .i64 0, .int .i64 0, .slice none 0 0, .slice none 0 0, .int .i64 0, .slice none 0 0], .int .u8 0, .int .u8 0, .int .u32 0], []⟩).memory Tryd.f8.params.toList Rows.treeOneSpec.vars false (#[.agg #[.int .i64 0, .int .i64 0, .int .i64 0, .slice none 0 0, .slice none 0 0, .int .i64 0, .slice none 0 0], .int .u8 0, .int .u8 0, .int .u32 0] : Array Value).toList 8 = some ([.agg [.lit (.int .i64 0), .agg [.lit (.int .i64 0), .lit (.int .i64 0)], .nil, .nil, .agg [.lit (.int .i64 0), .nil]], .lit (.int .u8 0), .lit (.int .u8 0), .lit (.int .u32 0)], [], places) :=
  ⟨[], by kernel_rfl⟩
theorem treeOne_contract (H : Type) (enc : TypeId × Value → H) (W : World) (base : Nat) (args : Array Value) (ds gs : List (DataW H)) (before : List MemPlace)
    (hval0 : ∀ (j : Nat) t v, Tryd.f8.params[j]? = some t → args[j]? = some v → Value.okWide Tryd.prog W .any base t v)
    (hW : DataW.Whole enc Tryd.prog Tryd.f8.params.toList Rows.treeOneSpec.vars false W args.toList ds gs before) (hL : laidMetH Tryd.prog Rows.treeOneRow.laid W) :
    Calls Tryd.prog 8 args W fun e W' => ∃ v, e = .returned v ∧ Rows.treeOneSpec.post enc Tryd.prog Tryd.f8 false true false false W args v W' := by
  have hT : Tab W := tab_of_laid hL
  have hval : ∀ (j : Nat) t v, Tryd.f8.params[j]? = some t → args[j]? = some v → Value.okWide Tryd.prog W .any base t v := hval0
  have hW' := hW
  obtain ⟨p, q, hA0, hV, rfl, hfz, hnd⟩ := hW
  have hA : DataW.TrodAll enc Tryd.prog W 0 (fun _ => true) true Tryd.f8.params.toList args.toList ds p := hA0
  rw [Tryd.params8] at hA hval
  obtain ⟨v0, l0, d0, e0, p0, q0, ha0, rfl, rfl, h0, r0⟩ := trodAll_cons hA
  obtain ⟨v1, l1, d1, e1, p1, q1, rfl, rfl, rfl, h1, r1⟩ := trodAll_cons r0
  obtain ⟨v2, l2, d2, e2, p2, q2, rfl, rfl, rfl, h2, r2⟩ := trodAll_cons r1
  obtain ⟨v3, l3, d3, e3, p3, q3, rfl, rfl, rfl, h3, r3⟩ := trodAll_cons r2
  obtain ⟨rfl, rfl, rfl⟩ := trodAll_nil r3
  obtain rfl : args = #[v0, v1, v2, v3] := by cases args; simp_all
  obtain ⟨rfl, rfl⟩ := trodVars_none hV
  obtain ⟨⟨ls⟩, rfl, _⟩ := okWide_struct Tryd.underlying48 (hval 0 48 v0 rfl rfl); obtain ⟨s, hx0⟩ := open_any (t := tyState) (T := 48) (by kernel_rfl) h0; have hy0 : tyState.Is _ _ s ls := hx0
  obtain ⟨z1, rfl, rfl, rfl, w1⟩ := open_int Tryd.underlying5 (hval 1 5 v1 rfl rfl) h1
  obtain ⟨pg, rfl, hu1⟩ := wf_u8 w1
  obtain ⟨z2, rfl, rfl, rfl, w2⟩ := open_int Tryd.underlying5 (hval 2 5 v2 rfl rfl) h2
  obtain ⟨pk, rfl, hu2⟩ := wf_u8 w2
  obtain ⟨z3, rfl, rfl, rfl, w3⟩ := open_int Tryd.underlying33 (hval 3 33 v3 rfl rfl) h3
  obtain ⟨px, rfl, hu3⟩ := wf_u32 w3
  refine (treeOne_walk pg pk px hy0 hT hu1 hu2 hu3).mono fun e W' ⟨he, hb⟩ => ?_
  subst he
  exact ⟨_, rfl, law_post laidOut rfl rfl Tryd.underlying4 (fun t ht => (show ∀ t ∈ Tryd.f8.params.toList, Tryd.prog.readableRec t = true ∧ t < Tryd.prog.types.size from by decide +kernel) t ht) hW' rfl hb⟩

set_option maxRecDepth 100000 in
theorem treeOne_lifted (os : Os) (started : os.Started) (H : Type) (enc : TypeId × Value → H) (F : Stop.Interp) :
    ReturnsInHanded {} Tryd.checked os 8 .any ((OpenSpec.ofChange Rows.treeOneSpec).preRow enc Tryd.prog Tryd.f8 Rows.treeOneRow.domain false Rows.treeOneRow.laid) (((OpenSpec.ofChange Rows.treeOneSpec).at F).post enc Tryd.prog Tryd.f8 false true false false) := by
  obtain ⟨places, hx⟩ := treeOne_reads os enc
  refine returnsInHanded_of_row (C := Tryd.checked) (s := OpenSpec.ofChange Rows.treeOneSpec) own started (by kernel_rfl) Tryd.func8
    (witness_row_at (enc := enc) (C := Tryd.checked) false (tabWorld os) #[.agg #[.int .i64 0, .int .i64 0, .int .i64 0, .slice none 0 0, .slice none 0 0, .int .i64 0, .slice none 0 0], .int .u8 0, .int .u8 0, .int .u32 0] rfl (by kernel_rfl) (by kernel_rfl) (by kernel_rfl)
      (OpenSpec.preRow_of_cond 8 hx (by kernel_rfl) (fun k hk => by cases hk) (by kernel_rfl) (treeOne_met os))) ?_
  intro W base args ds gs before hval hW _ _ _ hL _ _
  exact treeOne_contract H enc W base args ds gs before hval hW hL

theorem treeOne_said : Rows.TreeOneSaid :=
  OpenClaim.holds_of_cond 8 Tryd.f8 rfl rfl rfl rfl rfl rfl rfl ⟨rfl, rfl, rfl, rfl, rfl⟩ rfl rfl rfl rfl rfl (by kernel_rfl) Tryd.func8 (by kernel_rfl)
    (of_decide_eq_true (by kernel_rfl)) (by unfold Func.isWrapper; first | (rw [if_pos (by decide +kernel)]; kernel_rfl) | (rw [if_neg (by decide +kernel)]; exact ⟨rfl, rfl⟩))
    (fun os started H enc _ F => by rw [OpenClaim.pre_eq_preRow]; exact treeOne_lifted os started H enc F)

theorem treeOne_plain (f : FuncId) (fn : Func) (hf : Tryd.pinned.checked.prog.funcNamed "plinth/plinthlaw25.TreeOne" = some f) (hfn : Tryd.pinned.checked.prog.funcs[f]? = some fn) :
    false = Tryd.pinned.checked.prog.looks [] ∧ ∀ (j : Nat) t, fn.params[j]? = some t → Tryd.pinned.checked.prog.wantsStandIn t = false := by
  obtain rfl : f = 8 := Option.some.inj ((show Tryd.prog.funcNamed "plinth/plinthlaw25.TreeOne" = some 8 by kernel_rfl).symm.trans hf) |>.symm
  obtain rfl : fn = Tryd.f8 := (Option.some.inj (Tryd.func8.symm.trans hfn)).symm
  refine ⟨by kernel_rfl, fun j t ht => ?_⟩
  have hm : t ∈ Tryd.f8.params.toList := by
    have := Array.mem_of_getElem? ht
    simpa using this
  exact (show ∀ t ∈ Tryd.f8.params.toList, Tryd.prog.wantsStandIn t = false by decide +kernel) t hm

theorem treeOne_card : Rows.TreeOneCardSaid :=
  Claim7.holds_tied_plain_at .later [] _ _ _ _ treeOne_said (fun _ h => by cases h) (by kernel_rfl) (fun _ h => by cases h) treeOne_row_tie rfl ⟨rfl, rfl⟩ (by kernel_rfl) rfl treeOne_plain (by kernel_rfl)
end Go.Proofs.YtcpnobhdogpfiaaDoor
