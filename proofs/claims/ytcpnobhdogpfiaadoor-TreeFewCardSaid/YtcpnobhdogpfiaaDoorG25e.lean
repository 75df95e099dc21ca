/- The program's Diff where both trees may be. -/
import Derived.Test.YtcpnobhdogpfiaaDoorG25d
import Derived.Test.YtcpnobhdogpfiaaDoorF25h
import Derived.Deep.DeepFit
namespace Go.Proofs.YtcpnobhdogpfiaaDoor
set_option maxRecDepth 20000
open Go.RowKit Go.Px Go.Shelf
set_option linter.unusedVariables false
attribute [local go_sem] Oper.semAt_some
theorem wl_appendIn {F : Fence} {nF : Nat} {P : Program} {ops : Array Oper} {rest : List Oper} {o : Oper} {a : Act} {Q : Exit → Act → World → Prop} {w : World} (hg : o.guard = none) {s x : Operand} {t : TypeId}
    (ho : o.op = .call { callee := .builtin .append, args := #[s, x], argTypes := #[t, t] })
    {base e size bytes : Nat} (T : SlT P t e size bytes) {v : Value} {n : Nat} {xs : List Value} (hs : a.eval s = v) (hown : w.ownsRow base e size v n xs)
    {ad : Addr} {m c : Nat} {news : List Value} (hx : a.eval x = .slice (some ad) m c) (hl : news.length = m * size) (hr : Rd w (some ad) news) (h1 : ∀ u ∈ news, u.oneCell' = true)
    (hb : (n + m) * bytes ≤ 140737488355328) (h63 : n + m ≤ 140737488355328) (hbase : base ≤ w.heap.size)
    (h : ∀ v' w', w'.ownsRow base e size v' (n + m) (xs ++ news) → w.grownBy w' v.ownBlock → (v'.ownBlock = v.ownBlock ∨ v'.ownBlock = some w.heap.size) → wpListIn F nF P ops Q rest (a.put o.dst v') w') :
    wpListIn F nF P ops Q (o :: rest) a w := by
  obtain ⟨i, z, hi, hz, h2, h3, h4⟩ := T.info
  exact wpListIn_append_own_at _ hg s x t ho base e i z size bytes T.und hi hz h2 h3 h4 T.pos v n xs hs hown ad m c news hx hl (fun j u hu => hr.at_ hu) h1 (by unfold maxLen; omega) hb hbase (fun v' w' a b _ d => h v' w' a b d)
/-- The loop of Diff: blocks bc (the pairs) and bo (the places). -/
def DfI (W0 : World) (bc bo : Nat) (a b : List (List Nat)) (j : Nat) (W : World) : Prop :=
  ∃ P pc, Blk W bc [.int .i64 ((stD a b j).2 : Int)] 3 ∧ Blk W bo [.slice P (stD a b j).1.length pc] 44 ∧ Rd W P (nis (stD a b j).1) ∧ (∀ ad, P = some ad → ad.block ≠ bc ∧ ad.block ≠ bo ∧ ad.block ≠ W0.heap.size + 1) ∧ Fr (fun k => k = bc ∨ k = bo) W0 W ∧ W0.heap.size + 2 ≤ W.heap.size ∧ j ≤ a.length
theorem DfI.put {W0 : World} {bc bo : Nat} {a b : List (List Nat)} {j : Nat} {W : World} (h : DfI W0 bc bo a b j W) (hc : bc < W0.heap.size) (ho : bo < W0.heap.size) (r : Loop) : DfI W0 bc bo a b j (W.putObj (W0.heap.size + 1) (.loop r)) := by
  obtain ⟨P, pc, h1, h2, h3, h4, h5, h6, h7⟩ := h
  have hf : Fr (fun b => b = W0.heap.size + 1) W (W.putObj (W0.heap.size + 1) (.loop r)) := Fr.of_grown (grownBy_putObj' W _ _) (fun k e => by injection e with e; exact e.symm)
  exact ⟨P, pc, h1.fr hf (by omega), h2.fr hf (by omega), h3.fr hf (fun _ ad ha hx => (h4 ad ha).2.2 hx), h4, h5.trans' hf (fun b hb => .inr (by omega)), by rw [putObj_size]; exact h6, h7⟩
theorem DfI.drewN {W0 : World} {bc bo : Nat} {a b : List (List Nat)} {j : Nat} {W : World} (h : DfI W0 bc bo a b j W) (k : Nat) : DfI W0 bc bo a b j (W.drewN k) := by
  obtain ⟨P, pc, h1, h2, h3, h4, h5, h6, h7⟩ := h
  exact ⟨P, pc, h1, h2, h3.below ⟨rfl, rfl, rfl, Nat.le_refl _, fun _ _ => rfl⟩, h4, ⟨h5.os, h5.tape, h5.output, h5.size, h5.blk⟩, h6, h7⟩
theorem fr_drewN {Y : Nat → Prop} {w w' : World} (h : Fr Y w w') (k : Nat) : Fr Y w (w'.drewN k) := ⟨h.os, h.tape, h.output, h.size, h.blk⟩
theorem keepsFr {Y : Nat → Prop} {W W' : World} (h : Fr Y W W') (hY : ∀ k o, Y k → W.heap[k]? = some o → o.isCells = true) : KeepsOthers W W' := ⟨h.size, fun k o hk ho => by
  by_cases hy : Y k
  · rw [hY k o hy hk] at ho; cases ho
  · rw [h.blk k (Array.getElem?_eq_some_iff.1 hk).1 hy]; exact hk⟩
set_option maxRecDepth 100000 in
set_option maxHeartbeats 6400000 in
theorem tdiff_yes (A : Option Addr) (n c : Nat) (B : Option Addr) (m d : Nat) (a b : List (List Nat)) (w : World) {Q Q' : Nat → Prop} (hT : tyTree.Is w Q a [.slice A n c]) (hU : tyTree.Is w Q' b [.slice B m d]) (ha : okT a = true) (hb : okT b = true) (hL : Lv a b) (ht : Tab w) :
    Calls Tryd.prog 38 #[.agg #[.slice A n c], .agg #[.slice B m d]] w fun e w' => ∃ P q pc, e = .returned (.tuple #[.slice P q pc, .int .i64 ((stD a b a.length).2 : Int), .int .i64 0]) ∧ (stD a b a.length).1.length = q ∧ q ≤ 4096 ∧ Rd w' P (nis (stD a b a.length).1) ∧ Below w.heap.size w w' := by
  have hmo : Tryd.prog.follows .mixedOrders = true := by kernel_rfl
  refine (callsIn_wide (n := 8)).1 ?_
  refine callsIn_of_wp_marks Tryd.func38 rfl trivial ?_ rfl
  simp only [Tryd.ntmps38, List.size_toArray, List.length_cons, List.length_nil, Nat.reduceAdd, Nat.reduceSub, Array.replicate_succ, Array.replicate_zero, List.push_toArray, List.append_toArray, List.nil_append, List.cons_append]
  obtain ⟨w0, hw0⟩ : ∃ x, (w.alloc (.cells #[.slice A n c] 29)).alloc (.cells #[.slice B m d] 29) = x := ⟨_, rfl⟩
  have hb0 : Below w.heap.size w w0 := by rw [← hw0]; exact ((Below.refl _ _).alloc (Nat.le_refl _) _).alloc (by simp) _
  have B2 : Blk w0 w.heap.size [.slice A n c] 29 := by rw [← hw0]; exact (Blk.new w [.slice A n c] 29).alloc _
  have B3 : Blk w0 (w.heap.size + 1) [.slice B m d] 29 := by
    rw [← hw0]
    have := Blk.new (w.alloc (.cells #[.slice A n c] 29)) [.slice B m d] 29
    rwa [World.size_alloc] at this
  have hn : a.length = n := by
    obtain ⟨p, pA, pn, pc, pv, rfl, hpe, hl1, _⟩ := Tree_out hT
    simp only [List.cons.injEq, Value.slice.injEq, and_true] at hpe
    obtain ⟨rfl, rfl, rfl⟩ := hpe
    exact hl1
  have hm : b.length = m := by
    obtain ⟨p, pA, pn, pc, pv, rfl, hpe, hl1, _⟩ := Tree_out hU
    simp only [List.cons.injEq, Value.slice.injEq, and_true] at hpe
    obtain ⟨rfl, rfl, rfl⟩ := hpe
    exact hl1
  have hT0 := (hT.below hb0).low
  have hU0 := (hU.below hb0).low
  have ht0 : Tab w0 := Rd.below ht hb0
  obtain ⟨hL1, hL2, hL3, hL4, hL5, hL6⟩ := id hL
  rw [hn] at hL1 hL2 hL3
  rw [hm] at hL1
  subst hL1
  have RA := hide (fun (X : World) (hX : tyTree.Is X (fun b => b < w0.heap.size) a [.slice A n c]) {k : Nat} (hk : k < n) => tree_row hX hk)
  have RB := hide (fun (X : World) (hX : tyTree.Is X (fun b => b < w0.heap.size) b [.slice B n d]) {k : Nat} (hk : k < n) => tree_row hX hk)
  obtain ⟨xa, A0, ca, rfl, ka, -, -, -, -⟩ := RA.out w0 hT0 (k := 0) (by omega)
  obtain ⟨xb, D0, cb, rfl, kb, -, -, -, -⟩ := RB.out w0 hU0 (k := 0) (by omega)
  rw [← hL4 0] at kb
  have ka' : w0.cell? xa = some (.slice A0 (a.getD 0 []).length ca) := ka
  have kb' : w0.cell? xb = some (.slice D0 (a.getD 0 []).length cb) := kb
  obtain ⟨N, hN⟩ : ∃ N, (a.getD 0 []).length = N := ⟨_, rfl⟩
  rw [hN] at ka' kb'
  have g2 : ∀ z : InC (fun W => Below w0.heap.size w0 W), z.W.cell? ⟨w.heap.size, 0, none⟩ = some (.slice (some xa) n c) := fun z => (B2.below z.h).cell (j := 0) rfl
  have g3 : ∀ z : InC (fun W => Below w0.heap.size w0 W), z.W.cell? ⟨w.heap.size + 1, 0, none⟩ = some (.slice (some xb) n d) := fun z => (B3.below z.h).cell (j := 0) rfl
  have g4 : ∀ z : InC (fun W => Below w0.heap.size w0 W), z.W.cell? xa = some (.slice A0 N ca) := fun z => below_cell z.h ka'
  have g5 : ∀ z : InC (fun W => Below w0.heap.size w0 W), z.W.cell? xb = some (.slice D0 N cb) := fun z => below_cell z.h kb'
  have HC1 := hide (fun (z : InC (fun W => Below w0.heap.size w0 W)) => check_any (some xa) n c a z.W (hT0.below z.h) (Rd.below ht0 z.h))
  have HC2 := hide (fun (z : InC (fun W => Below w0.heap.size w0 W)) => check_any (some xb) n d b z.W (hU0.below z.h) (Rd.below ht0 z.h))
  rw [show ckE a = 0 by unfold ckE; rw [ha]; rfl] at HC1
  rw [show ckE b = 0 by unfold ckE; rw [hb]; rfl] at HC2
  have Hw0 := hide hw0
  have HL := hide hL
  have Hn := hide hn
  have Hz0 := hide (show w0.heap.size = w.heap.size + 2 by rw [← hw0]; simp)
  have HT0 := hide hT0
  have HU0 := hide hU0
  clear hw0 hT hU ha hb hT0 hU0 ka kb ka' kb' hL hL4 hL5 hL6 hm hN hn
  gi_wp2_with fail
  rw [Hw0.out]
  refine wpIn_wide.2 ?_
  refine wp_region_in (fun W => Below w0.heap.size w0 W) (Below.refl _ _).drew (by kernel_rfl) (by kernel_rfl) ?_
  repeat (go_big_quiet_step (first
      | (go_at_call 29; with_reducible exact Calls.in_below (HC1.out _))
      | (go_at_call 29; with_reducible exact Calls.in_below (HC2.out _))))
  refine wpQuiet_nil ?_
  rintro _ ⟨nq, rfl⟩
  have hbq := nq.h
  obtain ⟨w5, hw5⟩ : ∃ y, nq.W = y := ⟨_, rfl⟩
  rw [hw5] at hbq ⊢
  clear g2 g3 g4 g5 hw5 HC1 HC2
  obtain ⟨w6, hw6⟩ : ∃ x, ((w5.alloc (.cells #[.int .i64 0] 3)).alloc (.cells #[.int .i64 0] 3)).alloc (.cells #[.slice (some ⟨w5.heap.size + 1, 0, none⟩) 1 1] 44) = x := ⟨_, rfl⟩
  have hb56 : Below w5.heap.size w5 w6 := by rw [← hw6]; exact (((Below.refl _ _).alloc (Nat.le_refl _) _).alloc (by simp) _).alloc (by simp; omega) _
  have z6 : w6.heap.size = w5.heap.size + 3 := by rw [← hw6]; simp
  have y1 : Blk w6 w5.heap.size [.int .i64 0] 3 := by rw [← hw6]; exact ((Blk.new w5 [.int .i64 0] 3).alloc _).alloc _
  have y2 : Rd w6 (some ⟨w5.heap.size + 1, 0, none⟩) (nis [0]) := by
    rw [← hw6]
    have := (Rd.new1 (w5.alloc (.cells #[.int .i64 0] 3)) (.int .i64 0) 3).alloc (.cells #[.slice (some ⟨w5.heap.size + 1, 0, none⟩) 1 1] 44)
    rwa [World.size_alloc] at this
  have y3 : Blk w6 (w5.heap.size + 1 + 1) [.slice (some ⟨w5.heap.size + 1, 0, none⟩) 1 1] 44 := by
    rw [← hw6]
    have := Blk.new ((w5.alloc (.cells #[.int .i64 0] 3)).alloc (.cells #[.int .i64 0] 3)) [.slice (some ⟨w5.heap.size + 1, 0, none⟩) 1 1] 44
    rwa [World.size_alloc, World.size_alloc] at this
  have hb6 : Below w0.heap.size w0 w6 := hbq.trans (hb56.mono hbq.size)
  have d2 := (B2.below hb6).cell (j := 0) rfl
  rw [← hw6] at d2
  have Hw6 := hide hw6
  clear hw6
  gi_wp2_with fail
  rw [Hw6.out]
  refine ⟨trivial, (callsIn_wide.2 (backward_any (some xa) n c w6)).mono ?_⟩
  rintro x w7 ⟨rfl, hw7⟩
  have hb7 : Below w6.heap.size w6 w7 := by rw [hw7]; exact (Below.refl _ _).alloc (Nat.le_refl _) _
  have ys : Blk w7 w6.heap.size [.slice (some xa) n c] 27 := by rw [hw7]; exact Blk.new w6 [.slice (some xa) n c] _
  have z7 : w7.heap.size = w6.heap.size + 1 := by rw [hw7]; simp
  have x1 := y1.below hb7
  have x2 := y2.below hb7
  have x3 := y3.below hb7
  have hb07 : Below w0.heap.size w0 w7 := hb6.trans (hb7.mono hb6.size)
  have E2 := B2.below hb07
  have E3 := B3.below hb07
  have HT7 := hide (HT0.out.below hb07)
  have HU7 := hide (HU0.out.below hb07)
  have zq := hbq.size
  obtain ⟨bc, hbc⟩ : ∃ y, w5.heap.size = y := ⟨_, rfl⟩
  rw [hbc] at x1 x2 x3 z6 zq ⊢
  obtain ⟨bo, hbo⟩ : ∃ y, bc + 1 + 1 = y := ⟨_, rfl⟩
  rw [hbo] at x3 ⊢
  obtain ⟨bs, hbs⟩ : ∃ y, w6.heap.size = y := ⟨_, rfl⟩
  rw [hbs] at ys z7 z6
  have Hbw := hide (hb0.trans (hb07.mono hb0.size))
  clear hw7 d2 y1 y2 y3 B2 B3 hb56 Hw6 hb7 hb6
  have z0 := Hz0.out
  gi_wp2_with fail
  obtain ⟨pv, hpv, hrv, hqv⟩ : ∃ pv : List Value, pv.length = n ∧ Rd w7 (some xa) pv ∧ xa.block < w0.heap.size := by
    obtain ⟨p, pA, pn, pc, pv, rfl, hpe, hl1, hc1, hm1, hr1, hq1, he1⟩ := Tree_out HT7.out
    simp only [List.cons.injEq, Value.slice.injEq, and_true] at hpe
    obtain ⟨rfl, rfl, rfl⟩ := hpe
    exact ⟨pv, by have h := he1.1; rw [hl1] at h; exact h.trans (Nat.one_mul n), hr1, hq1 (fun e => by rw [e] at hl1; simp at hl1; omega) xa rfl⟩
  refine range_own 8 (by omega) (lb := #[.pointer (some ⟨bs, 0, none⟩)]) (by simp [Act.eval]) (enters_of Tryd.func74 (by kernel_rfl) rfl) (encB pv n) (fun _ => rfl) (fun j => j < n)
    (DfI w7 bc bo a b) (fun j W => DfI w7 bc bo a b (j + 1) W) (fun _ _ => False) ?i0 ?ip ?mp (fun _ _ _ _ h => h) ?it ?round ?done (fun _ _ h => h.elim)
  case i0 =>
    intro r
    have hb2 : Below w7.heap.size w7 ((w7.alloc (.deferred (some []))).alloc (.loop r)) := ((Below.refl _ _).alloc (Nat.le_refl _) _).alloc (by simp) _
    exact ⟨_, 1, x1.below hb2, x3.below hb2, x2.below hb2, fun ad ha => by injection ha with ha; subst ha; refine ⟨?_, ?_, ?_⟩ <;> dsimp only <;> omega, Fr.of_below hb2, by simp, Nat.zero_le _⟩
  case ip => intro j W r hW h; exact h.put (by omega) (by omega) r
  case mp => intro j W r hW h; exact h.put (by omega) (by omega) r
  case it =>
    refine backward_iter (8 - 1) (by omega) _ bs (some xa) n c pv hpv (by omega) _ _ ?_ ?_ ?_
    · rintro j W ⟨P, pc, h1, h2, h3, h4, h5, h6, h7⟩
      exact ⟨(ys.fr h5 (by omega)).cell (j := 0) rfl, hrv.fr h5 (fun _ ad ha hx => by injection ha with ha; subst ha; omega)⟩
    · exact fun j W k h => h.drewN k
    · exact fun j W h => h
  case done =>
    intro j W hU hnm hDq
    obtain ⟨P, pc, h1, h2, h3, h4, h5, h6, h7⟩ := hU
    have hjn : j = n := by have := Hn.out; omega
    subst hjn
    obtain ⟨q, hpq⟩ : ∃ y, (stD a b j).1.length = y := ⟨_, rfl⟩
    obtain ⟨cc, hcc⟩ : ∃ y, (stD a b j).2 = y := ⟨_, rfl⟩
    have hq6 : q ≤ 4096 := by
      obtain ⟨j', rfl⟩ : ∃ j', j = j' + 1 := ⟨j - 1, by omega⟩
      have h0 := stD_last (a := a) (b := b) (j := j') (by have := Hn.out; omega)
      rw [h0] at hpq
      have h1 := unD_len (a.getD 0 []) (b.getD 0 []) (stD a b j').1
      have h2 := stD_len6 a b (j := j') (by omega)
      have h3 : (unD (a.getD 0 []) (b.getD 0 []) (stD a b j').1).length = q := hpq
      omega
    rw [hpq] at h2
    rw [hcc] at h1
    have b1 := h1.cell (j := 0) rfl
    have b2 := h2.cell (j := 0) rfl
    have HF := hide h5
    have HR := hide h3
    have HD := hide hDq
    have Hpq := hide hpq
    have Hcc := hide hcc
    clear h1 h2 h3 h5 hDq hpq hcc hpv hrv HT7 HU7 E2 E3 ys x1 x2 x3
    gi_wp2_with fail
    refine wpIn_wide.2 ?_
    go_quiet (fail)
    have hko : KeepsOthers W (W.drewN nq) := ⟨Nat.le_refl _, fun _ _ h _ => h⟩
    have hbn : Below w.heap.size w (W.drewN nq) := (fr_drewN HF.out nq).below Hbw.out (by omega) (fun k hk => by omega)
    gi_wp2
    refine leaves_marks (B := w.heap.size) [w7.heap.size] _ ⟨List.nodup_cons.2 ⟨List.not_mem_nil, List.nodup_nil⟩, fun r hr => ?_⟩ ?_
    · rw [List.mem_singleton] at hr
      subst hr
      exact ⟨by omega, hko.same _ _ HD.out rfl⟩
    intro W' hca hbl'
    rw [Hn.out]
    exact ⟨_, results_tmp3 rfl _ _ _, P, q, pc, by rw [Hcc.out]; rfl, Hpq.out, hq6, hca.rd (HR.out.below ⟨rfl, rfl, rfl, Nat.le_refl _, fun _ _ => rfl⟩), hbn.trans hbl'⟩
  case round =>
    intro j W hU hmj hlW
    obtain ⟨P, pc, h1, h2, h3, h4, h5, h6, h7⟩ := hU
    obtain ⟨k, hk⟩ : ∃ k, n - 1 - j = k := ⟨_, rfl⟩
    have hnj : a.length - 1 - j = k := by rw [Hn.out]; exact hk
    have hlt := stD_lt HL.out j (by rw [Hn.out]; exact hmj)
    have hq6 := stD_len6 a b (j := j) (by omega)
    have hc7 := stD_cnt a b j (by omega)
    have hlast := fun (h : k = 0) => stD_last (a := a) (b := b) (j := j) (by omega)
    have hmore := fun (k' : Nat) (h : k = k' + 1) => stD_more (a := a) (b := b) (j := j) (k := k') (by omega)
    rw [hnj] at hlt
    have hABl : (a.getD k []).length = (b.getD k []).length := HL.out.2.2.2.1 k
    have hx6 : (a.getD k []).length ≤ 4096 := HL.out.2.2.2.2.2 k
    have hjk : j + k + 1 = n := by omega
    have hkn : k < n := by omega
    have e0 : encB pv n j = #[.int .i64 (k : Int), (pv[k]?).getD undef] := by unfold encB; rw [hk]
    obtain ⟨pl, hpl⟩ : ∃ y, (stD a b j).1 = y := ⟨_, rfl⟩
    obtain ⟨c0, hc0⟩ : ∃ y, (stD a b j).2 = y := ⟨_, rfl⟩
    rw [hpl] at h2 h3 hlt hq6 hlast hmore
    rw [hc0] at hc7 hlast hmore h1
    have hc8 : c0 ≤ 28672 := by omega
    obtain ⟨q, hpq⟩ : ∃ y, pl.length = y := ⟨_, rfl⟩
    rw [hpq] at h2 hq6 hlast hmore
    obtain ⟨pk, hpk⟩ : ∃ y, (pv[k]?).getD undef = y := ⟨_, rfl⟩
    rw [hpk] at e0
    rw [e0]
    have Hq := hide hpq
    have Hla := hide hlast
    have Hmo := hide hmore
    have hTW := HT7.out.fr h5 (fun b hb hx => by omega)
    have hUW := HU7.out.fr h5 (fun b hb hx => by omega)
    clear hpq hlast hmore hnj hk hpl hc0 e0 hpk hc7
    gi_wp2
    refine ⟨KeepsOthers.refl _, fun r' => ?_⟩
    obtain ⟨X, hXX⟩ : ∃ y, W.putObj (w7.heap.size + 1) (.loop r') = y := ⟨_, rfl⟩
    have hFX : Fr (fun b => b = w7.heap.size + 1) W X := by
      rw [← hXX]
      exact Fr.of_grown (grownBy_putObj' _ _ _) (fun k e => by injection e with e; exact e.symm)
    have hzX : X.heap.size = W.heap.size := by rw [← hXX, putObj_size]
    rw [hXX]
    have g1 := h1.fr hFX (by omega)
    have g2 := h2.fr hFX (by omega)
    have g3 := h3.fr hFX (fun _ ad ha hx => (h4 ad ha).2.2 hx)
    have gF := h5.trans' hFX (fun b hb => .inr (by omega))
    have hTX := hTW.fr hFX (fun b hb hx => by omega)
    have hUX := hUW.fr hFX (fun b hb hx => by omega)
    have E2X := (E2.fr h5 (by omega)).fr hFX (by omega)
    have E3X := (E3.fr h5 (by omega)).fr hFX (by omega)
    have c8 := g2.cell (j := 0) rfl
    clear h1 h2 h3 h5 hTW hUW hXX
    gi_wp2_with fail
    gi_loopw [10, 42] (fun u i Z => ∃ e : Nat, e ≤ q ∧ i = .int .i64 (e : Int) ∧ Blk Z bc [.int .i64 ((c0 : Int) + (e : Int))] 3 ∧ Z.ownsRow X.heap.size 3 1 u (unD (a.getD k []) (b.getD k []) (pl.take e)).length (nis (unD (a.getD k []) (b.getD k []) (pl.take e))) ∧ Fr (fun b => b = bc) X Z) (fun _ i _ => q - (intOf i).toNat)
    case atStart => exact ⟨0, by omega, rfl, by simpa using g1, World.ownsRow_nil _ _ _ _, Fr.refl _ _⟩
    case round =>
      obtain ⟨e, he, rfl, k1, k2, kF⟩ := hrel
      have b1 := k1.cell (j := 0) rfl
      have f1 := k1.frozen 0
      have hlo := ownRow_lt k2
      have zF := kF.size
      by_cases heq : e < q
      · have hip : e < pl.length := by rw [Hq.out]; exact heq
        obtain ⟨ap, hap, hcp⟩ := (g3.fr kF (fun _ ad ha hx => (h4 ad ha).1 hx)) e _ (nis_get hip)
        subst hap
        have hpx := hlt _ (List.getElem_mem hip)
        have hul := unD_len (a.getD k []) (b.getD k []) (pl.take e)
        rw [List.length_take, Nat.min_eq_left (by omega)] at hul
        obtain ⟨Z1, hZ1⟩ : ∃ y, wr.setCell ⟨bc, 0, none⟩ (.int .i64 ((c0 : Int) + (e : Int) + 1)) = y := ⟨_, rfl⟩
        have fZ : Fr (fun b => b = bc) wr Z1 := by rw [← hZ1]; exact Fr.set _ _ _ rfl
        have kZ : Blk Z1 bc [.int .i64 ((c0 : Int) + (e : Int) + 1)] 3 := by rw [← hZ1]; exact k1.set 0 _
        have kFZ := kF.trans fZ
        have hTZ := hTX.fr kFZ (fun b hb hx => by omega)
        have hUZ := hUX.fr kFZ (fun b hb hx => by omega)
        have kO := ownRow_fr k2 fZ (fun g hg hx => by have := (hlo g hg).1; omega)
        have d2 := (E2X.fr kFZ (by omega)).cell (j := 0) rfl
        have d3 := (E3X.fr kFZ (by omega)).cell (j := 0) rfl
        obtain ⟨u', Ak, ck, hu', kc, -, -, hrk, -⟩ := RA.out Z1 hTZ (k := k) hkn
        obtain ⟨v', Bk, dk, hv', kd, -, -, hsk, -⟩ := RB.out Z1 hUZ (k := k) hkn
        injection hu' with hu'
        injection hv' with hv'
        subst hu' hv'
        rw [← hABl] at kd
        obtain ⟨p, hp⟩ : ∃ p, pl[e] = p := ⟨_, rfl⟩
        rw [hp] at hcp hpx
        have hpa : p < (a.getD k []).length := hpx
        have hpb : p < (b.getD k []).length := by omega
        obtain ⟨ua, hua, hca⟩ := hrk p _ (u32s_get hpa)
        obtain ⟨ub, hub, hcb⟩ := hsk p _ (u32s_get hpb)
        subst hua hub
        obtain ⟨xv, hxv⟩ : ∃ y, (a.getD k [])[p] = y := ⟨_, rfl⟩
        obtain ⟨yv, hyv⟩ : ∃ y, (b.getD k [])[p] = y := ⟨_, rfl⟩
        have hun := un_eq (a := a.getD k []) (b := b.getD k []) (x := xv) (y := yv) hip hp (by rw [List.getElem?_eq_getElem hpa, hxv]) (by rw [List.getElem?_eq_getElem hpb, hyv])
        rw [hxv] at hca
        rw [hyv] at hcb
        obtain ⟨x, hx⟩ : ∃ y, (a.getD k []).length = y := ⟨_, rfl⟩
        rw [hx] at kc kd hpx
        have Hun := hide hun
        have HkO := hide kO
        clear hxv hyv hpa hpb hp hip hx hun hTZ hUZ hrk hsk hABl hx6 hlt kO
        by_cases hv : xv = yv
        · have q1 : ((xv : Int) != (yv : Int)) = false := by simp [hv]
          gi_wp2_with fail
          try rw [hZ1]
          refine round_quiet (fun Z => ∃ k, Z = Z1.drewN k) hmo (by kernel_rfl) (by rintro ⟨_, _, h⟩; exact h) (by kernel_rfl) ⟨1, rfl⟩ ?_
          repeat (go_big_quiet_step (fail))
          refine wpQuiet_nil ?_
          rintro _ ⟨nq, rfl⟩
          have hun := Hun.out
          rw [if_pos hv, List.append_nil] at hun
          clear b1 f1 d2 d3 kc kd hca hcb hcp
          gi_wp2
          go_roundw
          case rel => exact ⟨e + 1, by omega, by go_num, by rw [show (c0 : Int) + ((e + 1 : Nat) : Int) = (c0 : Int) + (e : Int) + 1 by omega]; exact kZ, by rw [hun]; exact own_below HkO.out ⟨rfl, rfl, rfl, Nat.le_refl _, fun _ _ => rfl⟩, fr_drewN kFZ nq⟩
          case measure => simp [intOf]; omega
        · have q1 : ((xv : Int) != (yv : Int)) = true := by simp; omega
          gi_wp2_with fail
          try rw [hZ1]
          refine round_quiet (fun Z => ∃ k, Z = Z1.drewN k) hmo (by kernel_rfl) (by rintro ⟨_, _, h⟩; exact h) (by kernel_rfl) ⟨1, rfl⟩ ?_
          repeat (go_big_quiet_step (fail))
          refine wpQuiet_nil ?_
          rintro _ ⟨nq, rfl⟩
          have hun := Hun.out
          rw [if_neg hv] at hun
          clear b1 f1 d2 d3 kc kd hca hcb hcp
          obtain ⟨Y, hY⟩ : ∃ y, (Z1.drewN nq).alloc (.cells #[.int .i64 (p : Int)] 3) = y := ⟨_, rfl⟩
          have bY : Below Z1.heap.size Z1 Y := by rw [← hY]; exact (show Below Z1.heap.size Z1 (Z1.drewN nq) from ⟨rfl, rfl, rfl, Nat.le_refl _, fun _ _ => rfl⟩).alloc (Nat.le_refl _) _
          have rY : Rd Y (some ⟨(Z1.drewN nq).heap.size, 0, none⟩) [.int .i64 (p : Int)] := by rw [← hY]; exact Rd.new1 _ _ _
          gi_wp2_with (first | (with_reducible refine stop_appendIn rfl ?_))
          show wpListIn _ _ _ _ _ _ _ _
          try rw [hY]
          refine wl_appendIn rfl rfl tInts rfl (own_below HkO.out bY) rfl (m := 1) (by rfl) rY (by intro u hu; simp at hu; subst hu; rfl) (by omega) (by omega) (by have := bY.size; have := fZ.size; omega) ?_
          intro v7 W4 hO7 hg7 hv7
          have fY : Fr (fun b => some b = u10.ownBlock) Z1 W4 := (Fr.of_below bY).trans (Fr.of_grown hg7 (fun k e => e.symm))
          have k1' := kZ.fr fY (fun e => by have := (hlo _ e.symm).1; omega)
          have kF' := kFZ.trans' fY (fun b hb => .inr (hlo _ hb.symm).1)
          have HO7 := hide hO7
          clear hO7 hg7 hv7
          gi_wp2
          go_roundw
          case rel => exact ⟨e + 1, by omega, by go_num, by rw [show (c0 : Int) + ((e + 1 : Nat) : Int) = (c0 : Int) + (e : Int) + 1 by omega]; exact k1', by rw [hun, nis_append, List.length_append]; exact HO7.out, kF'⟩
          case measure => simp [intOf]; omega
      · obtain rfl : e = q := by omega
        rw [List.take_of_length_le (by rw [Hq.out]; exact Nat.le_refl _)] at k2
        have hul := unD_len (a.getD k []) (b.getD k []) pl
        rw [Hq.out] at hul
        have hulx : ∀ z ∈ unD (a.getD k []) (b.getD k []) pl, z < (a.getD k []).length := fun z hz => hlt z (by unfold unD at hz; exact (List.mem_filter.1 hz).1)
        obtain ⟨un, hun⟩ : ∃ y, unD (a.getD k []) (b.getD k []) pl = y := ⟨_, rfl⟩
        rw [hun] at k2 hul hulx
        have hlo2 := hlo
        clear hlo
        obtain ⟨U, uc, rfl, _, hcu, hcmu, hru, hau⟩ := own_out k2
        obtain ⟨ul, hull⟩ : ∃ y, un.length = y := ⟨_, rfl⟩
        rw [hull] at hul hcu ⊢
        have Hul := hide hull
        have kb := g2.fr kF (by omega)
        have b8 := kb.cell (j := 0) rfl
        have f8 := kb.frozen 0
        obtain ⟨W1, hW1⟩ : ∃ y, wr.setCell ⟨bo, 0, none⟩ (.slice U ul uc) = y := ⟨_, rfl⟩
        have f1W : Fr (fun b => b = bc ∨ b = bo) X W1 := by rw [← hW1]; exact (kF.mono (fun b h => .inl h)).trans (Fr.set wr _ _ (.inr rfl))
        have fW1 : Fr (fun b => b = bo) wr W1 := by rw [← hW1]; exact Fr.set wr _ _ rfl
        have kc1 := k1.fr fW1 (by omega)
        have ko1 : Blk W1 bo [.slice U ul uc] 44 := by rw [← hW1]; exact kb.set 0 _
        have hru1 := hru.fr fW1 (fun _ ad ha hx => by have := (hau ad ha).1; omega)
        have HKE := hide (fun (W' : World) (h : Fr (fun b => b = bc ∨ b = bo) X W') => keepsFr h (fun k o hk ho => by
          rcases hk with rfl | rfl
          · have := g1; unfold Blk at this; rw [this] at ho; injection ho with ho; rw [← ho]; rfl
          · have := g2; unfold Blk at this; rw [this] at ho; injection ho with ho; rw [← ho]; rfl))
        cases k with
        | zero =>
          have HR : stD a b (j + 1) = (un, c0 + e) := by rw [Hla.out rfl, hun]
          have HD := hide (show DfI w7 bc bo a b (j + 1) W1 from by
            unfold DfI
            rw [HR]
            exact ⟨U, uc, by rw [show (((c0 + e : Nat)) : Int) = (c0 : Int) + (e : Int) by omega]; exact kc1, by rw [show (un, c0 + e).1.length = ul from hull]; exact ko1, hru1, fun ad ha => by have := (hau ad ha).1; omega, gF.trans' f1W (fun b hb => .inl hb), by have := f1W.size; omega, by rw [Hn.out]; omega⟩)
          have HK := hide (HKE.out W1 f1W)
          clear HR hun hull hru hru1 hau kc1 ko1 k2 hulx hjk
          gi_wp2
          exact ⟨HK.out, HD.out⟩
        | succ k' =>
          have hy6 : (a.getD k' []).length ≤ 4096 := HL.out.2.2.2.2.2 k'
          have HR : stD a b (j + 1) = (belowD un (a.getD k' []).length, c0 + e) := by rw [Hmo.out k' rfl, hun]
          have hT1 := hTX.fr f1W (fun b hb hx => by omega)
          have d2 := (E2X.fr f1W (by omega)).cell (j := 0) rfl
          obtain ⟨u', Ay, cy, hu', ky, -, -, -, -⟩ := RA.out W1 hT1 (k := k') (by omega)
          injection hu' with hu'
          subst hu'
          obtain ⟨y, hy⟩ : ∃ y, (a.getD k' []).length = y := ⟨_, rfl⟩
          rw [hy] at ky HR hy6
          have HB := hide (below_any U ul uc un y W1 hull (by omega) hy6 (fun z hz => by have := hulx z hz; omega) hru1)
          have HRR := hide HR
          clear HR hun hull hru hru1 k2 hulx hy
          gi_wp2_with fail
          try rw [hW1]
          refine ⟨trivial, (CallsIn.inRound _ (callsIn_wide.2 HB.out)).mono ?_⟩
          rintro x W2 ⟨v, rfl, hoV, hbV⟩
          obtain ⟨V, vc, rfl, _, hcv, hcmv, hrV, haV⟩ := own_out hoV
          obtain ⟨vl, hvl⟩ : ∃ z, (belowD un y).length = z := ⟨_, rfl⟩
          rw [hvl] at hcv ⊢
          have kb2 := ko1.below hbV
          have b9 := kb2.cell (j := 0) rfl
          have f9 := kb2.frozen 0
          have f2W : Fr (fun b => b = bc ∨ b = bo) X W2 := f1W.trans (Fr.of_below hbV)
          have f3W : Fr (fun b => b = bc ∨ b = bo) X (W2.setCell ⟨bo, 0, none⟩ (.slice V vl vc)) := f2W.trans (Fr.set W2 _ _ (.inr rfl))
          have fS : Fr (fun b => b = bo) W2 (W2.setCell ⟨bo, 0, none⟩ (.slice V vl vc)) := Fr.set W2 _ _ rfl
          have HD := hide (show DfI w7 bc bo a b (j + 1) (W2.setCell ⟨bo, 0, none⟩ (.slice V vl vc)) from by
            unfold DfI
            rw [HRR.out]
            have hz1 := f1W.size
            exact ⟨V, vc, by rw [show (((c0 + e : Nat)) : Int) = (c0 : Int) + (e : Int) by omega]; exact (kc1.below hbV).fr fS (by omega), by rw [show (belowD un y, c0 + e).1.length = vl from hvl]; exact kb2.set 0 _, hrV.fr fS (fun _ ad ha hx => by have := (haV ad ha).1; omega), fun ad ha => by have := (haV ad ha).1; omega, gF.trans' f3W (fun b hb => .inl hb), by have := f3W.size; omega, by rw [Hn.out]; omega⟩)
          have HK := hide (HKE.out _ f3W)
          clear hvl hoV hbV hrV haV kc1 ko1 kb2 hjk d2 ky b8 f8
          gi_wp2
          exact ⟨HK.out, HD.out⟩
end Go.Proofs.YtcpnobhdogpfiaaDoor
