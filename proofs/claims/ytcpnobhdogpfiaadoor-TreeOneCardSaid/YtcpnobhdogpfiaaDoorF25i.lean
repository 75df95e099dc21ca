/- Package tree: Proved. -/
import Derived.Test.YtcpnobhdogpfiaaDoorF25h
import Derived.BigQuiet
namespace Go.Proofs.YtcpnobhdogpfiaaDoor
set_option maxRecDepth 20000
open Go.RowKit Go.Px Go.Shelf
set_option linter.unusedVariables false
attribute [local go_sem] Oper.semAt_some
theorem results_intcell {P : Program} {w : World} {fn : Func} {t : Tmp} {T : TypeId} (h : fn.results = #[.cell t T]) {tmps : Array Value} {b : Nat} (hx : tmps.getD t undef = .pointer (some ⟨b, 0, none⟩)) {k : IntKind} {u : Int} (he : w.cell? ⟨b, 0, none⟩ = some (.int k u)) (hT : P.underlying T = some (.int k)) : (results fn tmps).run P w = .ok (.int k u) w := by
  have hx' : (tmps[t]?).getD undef = .pointer (some ⟨b, 0, none⟩) := by rw [← hx]; simp [Array.getD_eq_getD_getElem?]
  have hl : (loadVar T ⟨b, 0, none⟩).run P w = .ok (.int k u) w := by simp [loadVar, run_underlying hT, isAgg, go_sem, he]
  simp [results, h, hx', asAddr, hl]
/-- Between two rounds of Proved: blocks b6 (the digest), b9 (the rows that are left), bn, bi, b8 (the answer). -/
def PdI (w0 : World) (b6 b8 b9 bn bi : Nat) (N P d : Nat) (rows : List (List Nat)) (vs : List Value) (j : Nat) (W : World) : Prop :=
  (∃ (dj : Nat) (A : Option Addr) (k c : Nat), dj < 4294967296 ∧ Blk W b6 [.int .u32 (dj : Int)] 33 ∧ Blk W b9 [.slice A k c] 27 ∧ k + j = rows.length ∧ k ≤ c ∧ c ≤ 9223372036854775807 ∧ Rd W A (vs.drop j) ∧ (vs.drop j ≠ [] → ∀ a, A = some a → a.block < b6) ∧ prvD 6 N P d rows = prvD (6 - j) (itN j N) (itI j P) dj (rows.drop j)) ∧
  Blk W b8 [.int .i64 0] 30 ∧ Fr (fun b => b = b6 ∨ b = b9 ∨ b = bn ∨ b = bi) w0 W ∧ w0.heap.size + 2 ≤ W.heap.size ∧ (∀ k, k < j → 1 < itN k N)
/-- .. with the places of a round, m rounds being counted in. -/
def PdB (w0 : World) (b6 b8 b9 bn bi : Nat) (N P d : Nat) (rows : List (List Nat)) (vs : List Value) (j m : Nat) (W : World) : Prop :=
  PdI w0 b6 b8 b9 bn bi N P d rows vs m W ∧ Blk W bn [.int .i64 (itN j N : Nat)] 3 ∧ Blk W bi [.int .i64 (itI j P : Nat)] 3
theorem PdI.fr {w0 : World} {b6 b8 b9 bn bi N P d j : Nat} {rows : List (List Nat)} {vs : List Value} {W W' : World} {X : Nat → Prop} (h : PdI w0 b6 b8 b9 bn bi N P d rows vs j W) (hf : Fr X W W') (h6 : ¬ X b6) (h8 : ¬ X b8) (h9 : ¬ X b9) (hX : ∀ k, X k → w0.heap.size ≤ k ∨ k = bn ∨ k = bi)
    (hv : ∀ k, X k → b6 ≤ k) : PdI w0 b6 b8 b9 bn bi N P d rows vs j W' := by
  obtain ⟨⟨dj, A, k, c, h1, h2, h3, h4, h5, hc, hr, hq, hp⟩, e8, eF, eS, eK⟩ := h
  refine ⟨⟨dj, A, k, c, h1, h2.fr hf h6, h3.fr hf h9, h4, h5, hc, hr.fr hf (fun hne a ha hx => ?_), hq, hp⟩, e8.fr hf h8, eF.trans' hf (fun b hb => ?_), Nat.le_trans eS hf.size, eK⟩
  · have := hq hne a ha
    have := hv _ hx
    omega
  · rcases hX b hb with h | rfl | rfl
    · exact .inr h
    · exact .inl (.inr (.inr (.inl rfl)))
    · exact .inl (.inr (.inr (.inr rfl)))
set_option maxRecDepth 100000 in
set_option maxHeartbeats 6400000 in
theorem proved_main (root N d P : Nat) (A : Option Addr) (n c : Nat) (rows : List (List Nat)) (w : World) {Q : Nat → Prop} (hP : tyProof.Is w Q ((P : Int), rows) [.int .i64 P, .slice A n c]) (hd : d < 4294967296) (hroot : root < 4294967296) (hPN : P < N) (hN : N ≤ 4096) (ht : Tab w) :
    Calls Tryd.prog 36 #[.int .u32 (root : Int), .int .i64 (N : Int), .int .u32 (d : Int), .agg #[.int .i64 P, .slice A n c]] w fun e w' => e = .returned (.int .i64 (if prvD 6 N P d rows = some root then 0 else 251)) ∧ Below w.heap.size w w' := by
  have hmo : Tryd.prog.follows .mixedOrders = true := by kernel_rfl
  obtain ⟨U, hU⟩ : ∃ U, (if prvD 6 N P d rows = some root then (0 : Int) else 251) = U := ⟨_, rfl⟩
  rw [hU]
  have HUU := hide hU
  clear hU
  obtain ⟨pI, pr, pA, pn, pc, vs, hxe, hpe, _, _, hl1, hc1, hm1, hr1, hq1, he1⟩ := Proof_out hP.low
  simp only [Prod.mk.injEq] at hxe
  obtain ⟨rfl, rfl⟩ := hxe
  simp only [List.cons.injEq, Value.slice.injEq, and_true, true_and] at hpe
  obtain ⟨rfl, rfl, rfl⟩ := hpe
  have hvl : vs.length = rows.length := by have := he1.1; rw [this]; show 1 * _ = _; omega
  refine (callsIn_wide (n := 8)).1 ?_
  refine callsIn_of_wp_marks Tryd.func36 rfl trivial ?_ rfl
  simp only [Tryd.ntmps36, List.size_toArray, List.length_cons, List.length_nil, Nat.reduceAdd, Nat.reduceSub, Array.replicate_succ, Array.replicate_zero, List.push_toArray, List.append_toArray, List.nil_append, List.cons_append]
  have q2 : decide ((N : Int) ≤ (P : Int)) = false := decide_eq_false (by omega)
  have q3 : decide ((N : Int) < 1) = false := decide_eq_false (by omega)
  have q4 : decide ((4096 : Int) < (N : Int)) = false := decide_eq_false (by omega)
  have q5 : decide ((P : Int) < 0) = false := decide_eq_false (by omega)
  gi_wp2_with fail
  refine ⟨trivial, (callsIn_wide.2 (steps_any (N : Int) (P : Int) _)).mono ?_⟩
  rintro x w5 ⟨rfl, rfl⟩
  gi_wp2_with fail
  obtain ⟨W0, hW0⟩ : ∃ x, (((((w.alloc (.cells #[.int .u32 (d : Int)] 33)).alloc (.cells #[.int .i64 (P : Int), .slice A n c] 58)).alloc (.cells #[.int .i64 0] 30)).alloc (.cells #[.slice A n c] 27)).alloc (.cells #[.int .i64 (N : Int)] 3)).alloc (.cells #[.int .i64 (P : Int)] 3) = x := ⟨_, rfl⟩
  rw [hW0]
  have hsz : W0.heap.size = w.heap.size + 6 := by rw [← hW0]; simp
  have hbw : Below w.heap.size w W0 := by rw [← hW0]; exact ((((((Below.refl _ _).alloc (Nat.le_refl _) _).alloc (by simp) _).alloc (by simp; omega) _).alloc (by simp; omega) _).alloc (by simp; omega) _).alloc (by simp; omega) _
  have B6 : Blk W0 w.heap.size [.int .u32 (d : Int)] 33 := by rw [← hW0]; exact (((((Blk.new w [.int .u32 (d : Int)] 33).alloc _).alloc _).alloc _).alloc _).alloc _
  have B8 : Blk W0 (w.heap.size + 1 + 1) [.int .i64 0] 30 := by
    rw [← hW0]
    have h := (((Blk.new ((w.alloc (.cells #[.int .u32 (d : Int)] 33)).alloc (.cells #[.int .i64 (P : Int), .slice A n c] 58)) [.int .i64 0] 30).alloc (.cells #[.slice A n c] 27)).alloc (.cells #[.int .i64 (N : Int)] 3)).alloc (.cells #[.int .i64 (P : Int)] 3)
    simp only [World.size_alloc] at h
    exact h
  have B9 : Blk W0 (w.heap.size + 1 + 1 + 1) [.slice A n c] 27 := by
    rw [← hW0]
    have h := ((Blk.new (((w.alloc (.cells #[.int .u32 (d : Int)] 33)).alloc (.cells #[.int .i64 (P : Int), .slice A n c] 58)).alloc (.cells #[.int .i64 0] 30)) [.slice A n c] 27).alloc (.cells #[.int .i64 (N : Int)] 3)).alloc (.cells #[.int .i64 (P : Int)] 3)
    simp only [World.size_alloc] at h
    exact h
  have Bn : Blk W0 (w.heap.size + 1 + 1 + 1 + 1) [.int .i64 (N : Int)] 3 := by
    rw [← hW0]
    have h := (Blk.new ((((w.alloc (.cells #[.int .u32 (d : Int)] 33)).alloc (.cells #[.int .i64 (P : Int), .slice A n c] 58)).alloc (.cells #[.int .i64 0] 30)).alloc (.cells #[.slice A n c] 27)) [.int .i64 (N : Int)] 3).alloc (.cells #[.int .i64 (P : Int)] 3)
    simp only [World.size_alloc] at h
    exact h
  have Bi : Blk W0 (w.heap.size + 1 + 1 + 1 + 1 + 1) [.int .i64 (P : Int)] 3 := by
    rw [← hW0]
    have h := Blk.new (((((w.alloc (.cells #[.int .u32 (d : Int)] 33)).alloc (.cells #[.int .i64 (P : Int), .slice A n c] 58)).alloc (.cells #[.int .i64 0] 30)).alloc (.cells #[.slice A n c] 27)).alloc (.cells #[.int .i64 (N : Int)] 3)) [.int .i64 (P : Int)] 3
    simp only [World.size_alloc] at h
    exact h
  have htW : Tab W0 := Rd.below ht hbw
  have hrW := hr1.below hbw
  have heW := he1.below hbw
  have hq1' := hq1
  clear hW0
  obtain ⟨b6, h6⟩ : ∃ x, w.heap.size = x := ⟨_, rfl⟩
  rw [h6] at B6 B8 B9 Bn Bi hsz hbw ⊢
  obtain ⟨b7, h7⟩ : ∃ x, b6 + 1 = x := ⟨_, rfl⟩
  rw [h7] at B8 B9 Bn Bi ⊢
  obtain ⟨b8, h8⟩ : ∃ x, b7 + 1 = x := ⟨_, rfl⟩
  rw [h8] at B8 B9 Bn Bi ⊢
  obtain ⟨b9, h9⟩ : ∃ x, b8 + 1 = x := ⟨_, rfl⟩
  rw [h9] at B9 Bn Bi ⊢
  obtain ⟨bn, hbn⟩ : ∃ x, b9 + 1 = x := ⟨_, rfl⟩
  rw [hbn] at Bn Bi ⊢
  obtain ⟨bi, hbi⟩ : ∃ x, bn + 1 = x := ⟨_, rfl⟩
  rw [hbi] at Bi ⊢
  have hord : b6 < b7 ∧ b7 < b8 ∧ b8 < b9 ∧ b9 < bn ∧ bn < bi ∧ bi < W0.heap.size := by omega
  obtain ⟨o1, o2, o3, o4, o5, o6⟩ := hord
  have htb : ∀ a, (some (⟨0, 0, none⟩ : Addr)) = some a → a.block < b6 := by rw [← h6]; exact rd_block ht (by unfold tabV tabN; simp)
  have Hsz := hide hsz
  have H6 := hide h6
  clear h7 h8 h9 hbn hbi hsz
  refine range_own 8 (by omega) (lb := #[.pointer (some ⟨bn, 0, none⟩), .pointer (some ⟨bi, 0, none⟩)]) (by simp [Act.eval]) (enters_of Tryd.func73 (by kernel_rfl) rfl) (encS N P) (fun _ => rfl) (fun j => 1 < itN j N)
    (fun j W => PdB W0 b6 b8 b9 bn bi N P d rows vs j j W) (fun j W => 1 < itN j N ∧ PdB W0 b6 b8 b9 bn bi N P d rows vs j (j + 1) W)
    (fun c W => c = .ret ∧ Blk W b8 [.int .i64 251] 30 ∧ Fr (fun b => b = b6 ∨ b = b8 ∨ b = b9 ∨ b = bn ∨ b = bi) W0 W ∧ prvD 6 N P d rows = none) ?i0 ?ip ?mp ?xp ?it ?round ?done ?stop
  case i0 =>
    intro r
    have hb2 : Below W0.heap.size W0 ((W0.alloc (.deferred (some []))).alloc (.loop r)) := ((Below.refl _ _).alloc (Nat.le_refl _) _).alloc (by simp) _
    exact ⟨⟨⟨d, A, n, c, hd, B6.below hb2, B9.below hb2, by omega, hc1, hm1, hrW.below hb2, fun hne a ha => by
      have := hq1 (fun e => hne (by rw [List.drop_zero]; apply List.eq_nil_of_length_eq_zero; rw [hvl, e]; rfl)) a ha
      rw [H6.out] at this; exact this, rfl⟩, B8.below hb2, Fr.of_below hb2, by simp, fun k hk => by omega⟩, Bn.below hb2, Bi.below hb2⟩
  case ip =>
    intro j W r hW h
    have hf : Fr (fun b => b = W0.heap.size + 1) W (W.putObj (W0.heap.size + 1) (.loop r)) := Fr.of_grown (grownBy_putObj' W _ _) (fun k e => by injection e with e; exact e.symm)
    exact ⟨h.1.fr hf (by omega) (by omega) (by omega) (fun k hk => .inl (by omega)) (fun k hk => by omega), h.2.1.fr hf (by omega), h.2.2.fr hf (by omega)⟩
  case mp =>
    intro j W r hW h
    have hf : Fr (fun b => b = W0.heap.size + 1) W (W.putObj (W0.heap.size + 1) (.loop r)) := Fr.of_grown (grownBy_putObj' W _ _) (fun k e => by injection e with e; exact e.symm)
    exact ⟨h.1, h.2.1.fr hf (by omega) (by omega) (by omega) (fun k hk => .inl (by omega)) (fun k hk => by omega), h.2.2.1.fr hf (by omega), h.2.2.2.fr hf (by omega)⟩
  case xp =>
    intro c W r hW h
    have hf : Fr (fun b => b = W0.heap.size + 1) W (W.putObj (W0.heap.size + 1) (.loop r)) := Fr.of_grown (grownBy_putObj' W _ _) (fun k e => by injection e with e; exact e.symm)
    exact ⟨h.1, h.2.1.fr hf (by omega), h.2.2.1.trans' hf (fun b hb => .inr (by omega)), h.2.2.2⟩
  case it =>
    refine steps_iter (8 - 1) (by omega) _ _ _ N P hPN (by omega) (by omega) _ _ ?_ ?_ ?_
    · exact fun j W h => ⟨h.2.1.cell (j := 0) rfl, h.2.2.cell (j := 0) rfl⟩
    · intro j W k h
      have hf : Fr (fun _ => False) W (W.drewN k) := ⟨rfl, rfl, rfl, Nat.le_refl _, fun _ _ _ => rfl⟩
      exact ⟨h.1.fr hf (fun h => h) (fun h => h) (fun h => h) (fun k h => h.elim) (fun k h => h.elim), h.2.1, h.2.2⟩
    · rintro j W ⟨h0, h1, h2, h3⟩
      refine ⟨h2, h3, ?_⟩
      have f1 : Fr (fun b => b = bn ∨ b = bi) W (W.setCell ⟨bi, 0, none⟩ (.int .i64 (itI (j + 1) P : Nat))) := Fr.set _ _ _ (.inr rfl)
      have f2 : Fr (fun b => b = bn ∨ b = bi) (W.setCell ⟨bi, 0, none⟩ (.int .i64 (itI (j + 1) P : Nat))) ((W.setCell ⟨bi, 0, none⟩ (.int .i64 (itI (j + 1) P : Nat))).setCell ⟨bn, 0, none⟩ (.int .i64 (itN (j + 1) N : Nat))) := Fr.set _ _ _ (.inl rfl)
      exact ⟨h1.fr (f1.trans f2) (by omega) (by omega) (by omega) (fun k hk => .inr hk) (fun k hk => by omega), (h2.apart (by omega) _ _).set 0 _, (h3.set 0 _).apart (by omega) _ _⟩
  case round =>
    intro j W hU hm hlW
    obtain ⟨⟨⟨dj, Aj, k, cj, hdj, p6, p9, hkl, hkc, hcj63, hrj, hqj, hpr⟩, p8, hF, hsW, hks⟩, qn', qi'⟩ := hU
    have hj6 := itN_small (j + 1) N hN (fun k hk => by
      rcases Nat.lt_or_ge k j with h | h
      · exact hks k h
      · rw [show k = j by omega]; exact hm)
    obtain ⟨f, hf6⟩ : ∃ f, 6 - j = f + 1 := ⟨6 - j - 1, by omega⟩
    have hil := itI_lt j hPN
    obtain ⟨x, hx⟩ : ∃ x, itN j N = x := ⟨_, rfl⟩
    obtain ⟨ii, hii⟩ : ∃ y, itI j P = y := ⟨_, rfl⟩
    rw [hx, hii] at hil hpr
    rw [hx] at hm qn'
    rw [hii] at qi'
    rw [hf6] at hpr
    obtain ⟨F, hFF⟩ : ∃ F, ii / 4 * 4 = F := ⟨_, rfl⟩
    obtain ⟨T, hTT⟩ : ∃ T, min (F + 4) x = T := ⟨_, rfl⟩
    have hFT : F < T := by omega
    have hTF4 : T - F ≤ 4 := by omega
    have hTm : T - F = min 4 (x - ii / 4 * 4) := by omega
    have e0 : encS N P j = #[.agg #[.int .i64 (j : Int), .int .i64 (ii : Int), .int .i64 (F : Int), .int .i64 (T : Int)]] := by
      unfold encS; rw [hx, hii, hFF, hTT, show ((ii : Int) / 4 * 4) = (F : Int) by omega]
    rw [e0]
    have heV := heW.fr hF (fun b hb hx => by rw [H6.out] at hb; omega)
    obtain ⟨e, he⟩ : ∃ e, ii - F = e := ⟨_, rfl⟩
    have hix : (ii : Int) - (F : Int) = (e : Int) := by omega
    have hem : ii % 4 = e := by omega
    have heT : e < T - F := by omega
    have Hx := hide hx
    have Hii := hide hii
    have HTm := hide hTm
    have Hem := hide hem
    clear e0 hx hii hTT hFF hTm hem he
    gi_wp2
    refine ⟨KeepsOthers.alloc _ _, fun r' => ?_⟩
    have hB8 := Blk.new W [.int .i64 (j : Int), .int .i64 (ii : Int), .int .i64 (F : Int), .int .i64 (T : Int)] 98
    obtain ⟨X, hXX⟩ : ∃ y, (W.alloc (.cells #[.int .i64 (j : Int), .int .i64 (ii : Int), .int .i64 (F : Int), .int .i64 (T : Int)] 98)).putObj (W0.heap.size + 1) (.loop r') = y := ⟨_, rfl⟩
    have hFX : Fr (fun b => b = W0.heap.size + 1) W X := by
      rw [← hXX]
      exact (Fr.of_below ((Below.refl _ _).alloc (Nat.le_refl _) _)).trans (Fr.of_grown (grownBy_putObj' _ _ _) (fun k e => by injection e with e; exact e.symm))
    have hB8X : Blk X W.heap.size [.int .i64 (j : Int), .int .i64 (ii : Int), .int .i64 (F : Int), .int .i64 (T : Int)] 98 := by rw [← hXX]; exact blk_put hB8 (by omega) _
    have HXX := hide hXX
    rw [hXX]
    clear hXX hB8
    have hzX : W.heap.size + 1 ≤ X.heap.size := hB8X.lt
    obtain ⟨b10, hb10⟩ : ∃ y, W.heap.size = y := ⟨_, rfl⟩
    rw [hb10] at hB8X hzX ⊢
    have y6 := p6.fr hFX (by omega)
    have y9 := p9.fr hFX (by omega)
    have y8 := p8.fr hFX (by omega)
    have yn := qn'.fr hFX (by omega)
    have yi := qi'.fr hFX (by omega)
    have hrX := hrj.fr hFX (fun hne a ha hx => by have := hqj hne a ha; omega)
    have heX := heV.fr hFX (fun b hb hx => by rw [H6.out] at hb; omega)
    have hFW : Fr (fun b => b = b6 ∨ b = b9 ∨ b = bn ∨ b = bi) W0 X := hF.trans' hFX (fun b hb => .inr (by omega))
    have hX8 : ∀ k, Fr (fun b => b = b6 ∨ b = b8 ∨ b = b9 ∨ b = bn ∨ b = bi) W0 (X.drewN k) := fun k => (hFW.mono (fun b hb => by omega)).trans ⟨rfl, rfl, rfl, Nat.le_refl _, fun _ _ _ => rfl⟩
    have htX : Tab X := Rd.fr (Rd.fr htW hF (fun hne a ha hx => by have := htb a ha; omega)) hFX (fun hne a ha hx => by have := htb a ha; omega)
    have c9 := y9.cell (j := 0) rfl
    have s0 := hB8X.cell (j := 0) rfl
    have s1 := hB8X.cell (j := 1) rfl
    have s2 := hB8X.cell (j := 2) rfl
    have s3 := hB8X.cell (j := 3) rfl
    have c6 := y6.cell (j := 0) rfl
    clear hF hFX p6 p9 p8 qn' qi' hrj
    cases k with
    | zero =>
      have hdr : rows.drop j = [] := List.drop_eq_nil_of_le (by omega)
      have HNO : Hid (prvD 6 N P d rows = none) := hide (by rw [hpr, hdr, prvD_nil hm])
      clear hpr hdr hrX heX htX hkl
      have f8 := y8.frozen 0
      have c8 := y8.cell (j := 0) rfl
      gi_wp2_with fail
      refine round_quiet (fun Z => ∃ k, Z = X.drewN k) hmo (by kernel_rfl) (by rintro ⟨_, _, h⟩; exact h) (by kernel_rfl) ⟨1, rfl⟩ ?_
      repeat (go_big_quiet_step (fail))
      refine wpQuiet_nil ?_
      rintro _ ⟨nq, rfl⟩
      gi_wp2
      exact ⟨(keepsDrewN X nq).trans (KeepsOthers.setCell _ _ _), rfl, (show Blk (X.drewN nq) b8 _ _ from y8).set 0 _, (hX8 nq).trans (Fr.set (X := fun b => b = b6 ∨ b = b8 ∨ b = b9 ∨ b = bn ∨ b = bi) _ _ _ (.inr (.inl rfl))), HNO.out⟩
    | succ k' =>
      have hjr : j < rows.length := by omega
      have hdr : rows.drop j = rows[j] :: rows.drop (j + 1) := List.drop_eq_getElem_cons hjr
      obtain ⟨Ar, cr, hvj, hcr, hcr63, hrr, _, hbr⟩ := rows32_at heX hjr
      have hv0 : (vs.drop j)[0]? = some (.slice Ar rows[j].length cr) := by rw [List.getElem?_drop]; exact hvj
      obtain ⟨a, rfl, hca⟩ := hrX 0 _ hv0
      rw [show a.add 0 = a from rfl] at hca
      obtain ⟨r, hr⟩ : ∃ r, rows[j] = r := ⟨_, rfl⟩
      rw [hr] at hdr hca hcr hrr hbr
      rw [hdr] at hpr
      have k0 : ((k' : Int) + 1 == 0) = false := by rw [beq_eq_false_iff_ne]; omega
      obtain ⟨L, hL⟩ : ∃ L, r.length = L := ⟨_, rfl⟩
      have HL := hide hL
      rw [hL] at hca hcr
      by_cases hLL : L = T - F
      · have k1 : ((L : Int) != (T : Int) - (F : Int)) = false := by simp; omega
        have heL : e < r.length := by rw [hL, hLL]; exact heT
        obtain ⟨ar, rfl, hcy⟩ := hrr e _ (u32s_get heL)
        obtain ⟨y, hy⟩ : ∃ y, r[e] = y := ⟨_, rfl⟩
        rw [hy] at hcy
        have hye : r[e]? = some y := by rw [List.getElem?_eq_getElem heL, hy]
        have heL' : e < L := by rw [← hL]; exact heL
        by_cases hyd : y = dj
        · have k2 : ((y : Int) != (dj : Int)) = false := by simp [hyd]
          have hnx := prvD_yes (f := f) hm (i := ii) (d := dj) (r := r) (rs := rows.drop (j + 1)) (by rw [hL, hLL, HTm.out]) (by rw [Hem.out, hye, hyd])
          rw [hnx] at hpr
          have HR := hide (fun (Z : World) (hZ : Below X.heap.size X Z) => row_any (some ar) L cr r Z hL (by omega) (hrr.below hZ) hbr (Rd.below htX hZ))
          have HPR := hide hpr
          have Hdr := hide hdr
          clear hpr hnx hyd hy hye hdr hLL hL hr hv0 hvj
          gi_wp2_with fail
          refine round_quiet (fun Z => ∃ k, Z = X.drewN k) hmo (by kernel_rfl) (by rintro ⟨_, _, h⟩; exact h) (by kernel_rfl) ⟨1, rfl⟩ ?_
          repeat (go_big_quiet_step (fail))
          refine wpQuiet_nil ?_
          rintro _ ⟨nq, rfl⟩
          have hXq : Below X.heap.size X (X.drewN nq) := ⟨rfl, rfl, rfl, Nat.le_refl _, fun _ _ => rfl⟩
          gi_wp2_with fail
          refine ⟨trivial, (CallsIn.inRound _ (callsIn_wide.2 (HR.out (X.drewN nq) hXq))).mono ?_⟩
          rintro x X2 ⟨rfl, hb2⟩
          have hX2 : Below X.heap.size X X2 := hXq.trans hb2
          have z6 := y6.below hX2
          have z9 := y9.below hX2
          have f6 := z6.frozen 0
          have g6 := z6.cell (j := 0) rfl
          obtain ⟨dn, hdn⟩ : ∃ q, rowD r = q := ⟨_, rfl⟩
          have hdnlt : dn < 4294967296 := by rw [← hdn]; exact rowD_lt r
          rw [hdn]
          rw [hdn] at HPR
          have Z9 := z9.apart (show b9 ≠ b6 by omega) 0 (.int .u32 (dn : Int))
          have g9 := Z9.cell (j := 0) rfl
          have f9 := Z9.frozen 0
          have HKK := hide (And.intro hX2 (And.intro hrX (And.intro hqj (And.intro hFW (And.intro yn (And.intro yi y8))))))
          clear hdn c9 c6 hb2 hXq hrX hqj hFW yn yi y8
          gi_wp2
          obtain ⟨kX2, krX, kqj, kFW, kyn, kyi, ky8⟩ := HKK.out
          have fS : Fr (fun b => b = b6 ∨ b = b9 ∨ b = bn ∨ b = bi) X ((X2.setCell ⟨b6, 0, none⟩ (.int .u32 (dn : Int))).setCell ⟨b9, 0, none⟩ (.slice (cutA (some a) cj 1 1) k' (cj - 1))) :=
            ((Fr.of_below kX2).trans (Fr.set (X := fun b => b = b6 ∨ b = b9 ∨ b = bn ∨ b = bi) _ _ _ (.inl rfl))).trans (Fr.set (X := fun b => b = b6 ∨ b = b9 ∨ b = bn ∨ b = bi) _ _ _ (.inr (.inl rfl)))
          have fT : Fr (fun b => b = b6 ∨ b = b9) X ((X2.setCell ⟨b6, 0, none⟩ (.int .u32 (dn : Int))).setCell ⟨b9, 0, none⟩ (.slice (cutA (some a) cj 1 1) k' (cj - 1))) :=
            ((Fr.of_below kX2).trans (Fr.set (X := fun b => b = b6 ∨ b = b9) _ _ _ (.inl rfl))).trans (Fr.set (X := fun b => b = b6 ∨ b = b9) _ _ _ (.inr rfl))
          have hvn : (vs.drop j).length = k' + 1 := by rw [List.length_drop, hvl]; omega
          have hab : a.block < b6 := kqj (fun e => by rw [e] at hvn; simp at hvn) a rfl
          have hrn := (krX.cutA (n := k' + 1) (k := 1) (cap := cj) (by omega) (by omega) hkc).fr fT (fun _ b hb hx => by
            unfold cutA at hb
            split at hb
            · injection hb with hb; subst hb; omega
            · simp only [Option.map_some, Option.some.injEq] at hb
              subst hb
              rw [add_block] at hx
              omega)
          rw [List.drop_drop] at hrn
          have h61 : 6 - (j + 1) = f := by omega
          refine ⟨(keepsBelow kX2).trans ((KeepsOthers.setCell _ _ _).trans (KeepsOthers.setCell _ _ _)), by rw [Hx.out]; exact hm, ⟨⟨dn, _, k', cj - 1, hdnlt, (z6.set 0 _).apart (by omega) _ _, Z9.set 0 _, by omega, by omega, by omega, hrn, fun _ b hb => ?_, ?_⟩, ky8.fr fT (by omega), kFW.trans fS, ?_, ?_⟩, by rw [Hx.out]; exact kyn.fr fT (by omega), by rw [Hii.out]; exact kyi.fr fT (by omega)⟩
          · unfold cutA at hb
            split at hb
            · injection hb with hb; subst hb; exact hab
            · simp only [Option.map_some, Option.some.injEq] at hb
              subst hb
              rw [add_block]; exact hab
          · rw [HPR.out, h61]
            show _ = prvD f (upN (itN j N)) (itI j P / 4) dn (rows.drop (j + 1))
            rw [Hx.out, Hii.out]
          · have := fT.size; omega
          · intro k hk
            rcases Nat.lt_or_ge k j with h | h
            · exact hks k h
            · rw [show k = j by omega, Hx.out]; exact hm
        · have k2 : ((y : Int) != (dj : Int)) = true := by simp; omega
          have HNO : Hid (prvD 6 N P d rows = none) := hide (by rw [hpr, prvD_no hm (by rw [Hem.out, hye]; rintro ⟨_, h⟩; injection h with h; exact hyd h)])
          clear hpr hyd hy hye hdr hLL hL hr hv0 hvj
          have f8 := y8.frozen 0
          have c8 := y8.cell (j := 0) rfl
          gi_wp2_with fail
          refine round_quiet (fun Z => ∃ k, Z = X.drewN k) hmo (by kernel_rfl) (by rintro ⟨_, _, h⟩; exact h) (by kernel_rfl) ⟨1, rfl⟩ ?_
          repeat (go_big_quiet_step (fail))
          refine wpQuiet_nil ?_
          rintro _ ⟨nq, rfl⟩
          gi_wp2
          exact ⟨(keepsDrewN X nq).trans (KeepsOthers.setCell _ _ _), rfl, (show Blk (X.drewN nq) b8 _ _ from y8).set 0 _, (hX8 nq).trans (Fr.set (X := fun b => b = b6 ∨ b = b8 ∨ b = b9 ∨ b = bn ∨ b = bi) _ _ _ (.inr (.inl rfl))), HNO.out⟩
      · have k1 : ((L : Int) != (T : Int) - (F : Int)) = true := by simp; omega
        have HNO : Hid (prvD 6 N P d rows = none) := hide (by rw [hpr, prvD_no hm (by rw [hL, ← HTm.out]; exact fun h => hLL h.1)])
        clear hpr hdr hLL hL hr hv0 hvj
        have f8 := y8.frozen 0
        have c8 := y8.cell (j := 0) rfl
        gi_wp2_with fail
        refine round_quiet (fun Z => ∃ k, Z = X.drewN k) hmo (by kernel_rfl) (by rintro ⟨_, _, h⟩; exact h) (by kernel_rfl) ⟨1, rfl⟩ ?_
        repeat (go_big_quiet_step (fail))
        refine wpQuiet_nil ?_
        rintro _ ⟨nq, rfl⟩
        gi_wp2
        exact ⟨(keepsDrewN X nq).trans (KeepsOthers.setCell _ _ _), rfl, (show Blk (X.drewN nq) b8 _ _ from y8).set 0 _, (hX8 nq).trans (Fr.set (X := fun b => b = b6 ∨ b = b8 ∨ b = b9 ∨ b = bn ∨ b = bi) _ _ _ (.inr (.inl rfl))), HNO.out⟩
  case done =>
    intro j W hU hnm hDq
    obtain ⟨⟨⟨dj, Aj, k, cj, hdj, p6, p9, hkl, hkc, hcj63, hrj, hqj, hpr⟩, p8, hF, hsW, hks⟩, qn', qi'⟩ := hU
    have c6 := p6.cell (j := 0) rfl
    have c9 := p9.cell (j := 0) rfl
    have f8 := p8.frozen 0
    have c8 := p8.cell (j := 0) rfl
    have hon := prvD_one (6 - j) (show itN j N ≤ 1 by omega) (itI j P) dj (rows.drop j)
    rw [hon] at hpr
    have HB8 := hide p8
    have HF := hide hF
    have HD := hide hDq
    clear hon hDq hF p8 p6 p9 qn' qi' hrj hqj hks hnm
    cases k with
    | succ k' =>
      rw [if_neg (fun e => by have h := List.length_drop (i := j) (l := rows); rw [e] at h; simp at h; omega)] at hpr
      have HU : Hid (U = 251) := hide (by rw [← HUU.out, hpr]; rfl)
      have k9 : decide ((0 : Int) < (k' : Int) + 1) = true := decide_eq_true (by omega)
      clear hpr
      gi_wp2
      refine leaves_marks (B := b6) [W0.heap.size] _ ⟨List.nodup_cons.2 ⟨List.not_mem_nil, List.nodup_nil⟩, fun r hr => ?_⟩ ?_
      · rw [List.mem_singleton] at hr
        subst hr
        exact ⟨by omega, (KeepsOthers.setCell _ _ _).same _ _ HD.out rfl⟩
      intro W' hca hbl'
      exact ⟨_, results_intcell rfl rfl (hca.cell ((HB8.out.set 0 _).cell (j := 0) rfl)) Tryd.underlying30, by rw [HU.out], by rw [H6.out]; exact ((HF.out.below hbw (by omega) (fun k hk => by omega)).setCell (show b6 ≤ b8 by omega) _).trans hbl'⟩
    | zero =>
      rw [if_pos (List.drop_eq_nil_of_le (by omega))] at hpr
      by_cases hdr : dj = root
      · have k2 : ((dj : Int) != (root : Int)) = false := by simp [hdr]
        have HU : Hid (U = 0) := hide (by rw [← HUU.out, hpr, hdr, if_pos rfl])
        clear hpr hdr
        gi_wp2
        refine leaves_marks (B := b6) [W0.heap.size] _ ⟨List.nodup_cons.2 ⟨List.not_mem_nil, List.nodup_nil⟩, fun r hr => ?_⟩ ?_
        · rw [List.mem_singleton] at hr
          subst hr
          exact ⟨by omega, (KeepsOthers.setCell _ _ _).same _ _ HD.out rfl⟩
        intro W' hca hbl'
        exact ⟨_, results_intcell rfl rfl (hca.cell ((HB8.out.set 0 _).cell (j := 0) rfl)) Tryd.underlying30, by rw [HU.out], by rw [H6.out]; exact ((HF.out.below hbw (by omega) (fun k hk => by omega)).setCell (show b6 ≤ b8 by omega) _).trans hbl'⟩
      · have k2 : ((dj : Int) != (root : Int)) = true := by simp; omega
        have HU : Hid (U = 251) := hide (by rw [← HUU.out, hpr, if_neg (fun e => by injection e with e; exact hdr e)])
        clear hpr hdr
        gi_wp2
        refine leaves_marks (B := b6) [W0.heap.size] _ ⟨List.nodup_cons.2 ⟨List.not_mem_nil, List.nodup_nil⟩, fun r hr => ?_⟩ ?_
        · rw [List.mem_singleton] at hr
          subst hr
          exact ⟨by omega, (KeepsOthers.setCell _ _ _).same _ _ HD.out rfl⟩
        intro W' hca hbl'
        exact ⟨_, results_intcell rfl rfl (hca.cell ((HB8.out.set 0 _).cell (j := 0) rfl)) Tryd.underlying30, by rw [HU.out], by rw [H6.out]; exact ((HF.out.below hbw (by omega) (fun k hk => by omega)).setCell (show b6 ≤ b8 by omega) _).trans hbl'⟩
  case stop =>
    rintro c W ⟨rfl, h8, hF, hno⟩ hDq
    have HU : Hid (U = 251) := hide (by rw [← HUU.out, hno]; rfl)
    gi_wp2
    refine leaves_marks (B := b6) [W0.heap.size] _ ⟨List.nodup_cons.2 ⟨List.not_mem_nil, List.nodup_nil⟩, fun r hr => ?_⟩ ?_
    · rw [List.mem_singleton] at hr
      subst hr
      exact ⟨by omega, hDq⟩
    intro W' hca hbl'
    exact ⟨_, results_intcell rfl rfl (hca.cell (h8.cell (j := 0) rfl)) Tryd.underlying30, by rw [HU.out], by rw [H6.out]; exact (hF.below hbw (by omega) (fun k hk => by omega)).trans hbl'⟩
end Go.Proofs.YtcpnobhdogpfiaaDoor
