/- Package tree: Prove. -/
import Derived.Test.YtcpnobhdogpfiaaDoorF25g
import Derived.Test.YtcpnobhdogpfiaaDoorM25b
namespace Go.Proofs.YtcpnobhdogpfiaaDoor
set_option maxRecDepth 20000
open Go.RowKit Go.Px Go.Shelf
set_option linter.unusedVariables false
attribute [local go_sem] Oper.semAt_some
theorem proof_nil {w : World} {Q : Nat → Prop} : tyProof.Is w Q (0, []) [.int .i64 0, .slice none 0 0] := Proof_mk (pRowsv := []) (by decide) (by decide) rfl (Nat.le_refl _) (by decide) Rd.nil (fun h => absurd rfl h) Ty.Rows.nil
/-- A proof under way: in the block b, its rows in blocks from base on. -/
def PrI (b base : Nat) (i : Int) (rows : List (List Nat)) (W : World) : Prop :=
  ∃ v cs, Blk W b [.int .i64 i, v] 58 ∧ W.ownsRow base 25 1 v rows.length cs ∧ tyRow32.Rows W (fun k => base ≤ k ∧ some k ≠ v.ownBlock) rows cs
theorem ownRow_fr {w w' : World} {base e size n : Nat} {v : Value} {xs : List Value} {X : Nat → Prop} (h : w.ownsRow base e size v n xs) (hf : Fr X w w') (hX : ∀ g, v.ownBlock = some g → ¬ X g) : w'.ownsRow base e size v n xs := by
  refine ⟨h.1, ?_⟩
  rcases h.2 with h2 | ⟨g, cap, cur, rfl, hbg, hg, rest⟩
  · exact .inl h2
  · exact .inr ⟨g, cap, cur, rfl, hbg, (hf.blk g (Array.getElem?_eq_some_iff.1 hg).1 (hX g rfl)).trans hg, rest⟩
theorem PrI.fr {b base : Nat} {i : Int} {rows : List (List Nat)} {W W' : World} {X : Nat → Prop} (h : PrI b base i rows W) (hf : Fr X W W') (hb : ¬ X b) (hX : ∀ k, X k → k < base) : PrI b base i rows W' := by
  obtain ⟨v, cs, h1, h2, h3⟩ := h
  have hlo := ownRow_lt h2
  exact ⟨v, cs, h1.fr hf hb, ownRow_fr h2 hf (fun g hg hx => by have := hX g hx; have := (hlo g hg).1; omega), h3.fr hf (fun k hk hx => by have := hX k hx; have := hk.1; omega)⟩
/-- The loop of Prove: blocks b2 (the tree), b7 (the proof), bn, bi. -/
def PvI (w0 : World) (b7 bn bi : Nat) (N P : Nat) (ps : List (List Nat)) (j : Nat) (W : World) : Prop :=
  PrI b7 (w0.heap.size + 2) (P : Int) (ps.take j) W ∧ Blk W bn [.int .i64 (itN j N : Nat)] 3 ∧ Blk W bi [.int .i64 (itI j P : Nat)] 3 ∧ Fr (fun b => b = b7 ∨ b = bn ∨ b = bi) w0 W ∧ w0.heap.size + 2 ≤ W.heap.size ∧ (∀ k, k < j → 1 < itN k N)
theorem PvI.put {w0 : World} {b7 bn bi N P : Nat} {ps : List (List Nat)} {j : Nat} {W : World} (h : PvI w0 b7 bn bi N P ps j W) (h7 : b7 < w0.heap.size) (hn : bn < w0.heap.size) (hi : bi < w0.heap.size) (hW : w0.heap.size + 1 < W.heap.size) (r : Loop) : PvI w0 b7 bn bi N P ps j (W.putObj (w0.heap.size + 1) (.loop r)) := by
  obtain ⟨h1, h2, h3, h4, h5, h6⟩ := h
  have hf : Fr (fun b => b = w0.heap.size + 1) W (W.putObj (w0.heap.size + 1) (.loop r)) := Fr.of_grown (grownBy_putObj' W _ _) (fun k e => by injection e with e; exact e.symm)
  exact ⟨h1.fr hf (by omega) (fun k hk => by omega), h2.fr hf (by omega), h3.fr hf (by omega), h4.trans' hf (fun b hb => .inr (by omega)), by rw [putObj_size]; exact h5, h6⟩
theorem PvI.drewN {w0 : World} {b7 bn bi N P : Nat} {ps : List (List Nat)} {j : Nat} {W : World} (h : PvI w0 b7 bn bi N P ps j W) (k : Nat) : PvI w0 b7 bn bi N P ps j (W.drewN k) := by
  obtain ⟨⟨v, cs, h1, h2, h3⟩, h4, h5, h6, h7, h8⟩ := h
  exact ⟨⟨v, cs, h1, h2, h3.below ⟨rfl, rfl, rfl, Nat.le_refl _, fun _ _ => rfl⟩⟩, h4, h5, ⟨h6.os, h6.tape, h6.output, h6.size, h6.blk⟩, h7, h8⟩
theorem prI_next {W0 X X2 X4 : World} {b7 bn bi base k c5 c6 : Nat} {i : Int} {rows : List (List Nat)} {pp : List Nat} {q : Nat} (hq : rows.length = q) {v nv iv : Value} {cs : List Value} {A5 A6 : Option Addr} (hbase : base ≤ X.heap.size) (h7 : b7 < base) (hn : bn < base) (hi : bi < base) (h7n : bn ≠ b7) (h7i : bi ≠ b7)
    (x7 : Blk X b7 [.int .i64 i, v] 58) (y2 : X.ownsRow base 25 1 v q cs) (y3 : tyRow32.Rows X (fun k => base ≤ k ∧ some k ≠ v.ownBlock) rows cs) (yn : Blk X bn [nv] 3) (yi : Blk X bi [iv] 3)
    (yF : Fr (fun b => b = b7 ∨ b = bn ∨ b = bi) W0 X) (hW0 : base ≤ W0.heap.size + 2) (hX2 : Below X.heap.size X X2) (hl : pp.length = k) (hc5 : k ≤ c5) (hc63 : c5 ≤ 9223372036854775807) (hr5 : Rd X2 A5 (u32s pp)) (ha5 : ∀ a, A5 = some a → X.heap.size ≤ a.block ∧ a.block < X2.heap.size) (hpb : ∀ y ∈ pp, y < 4294967296)
    (ho6 : X4.ownsRow base 25 1 (.slice A6 (q + 1) c6) (q + 1) (cs ++ [.slice A5 k c5])) (hg6 : (X2.alloc (.cells #[.slice A5 k c5] 25)).grownBy X4 v.ownBlock)
    (hv6 : (Value.slice A6 (q + 1) c6).ownBlock = v.ownBlock ∨ (Value.slice A6 (q + 1) c6).ownBlock = some (X2.alloc (.cells #[.slice A5 k c5] 25)).heap.size) (hWX : ∀ g, base ≤ g → W0.heap.size ≤ g) :
    (PrI b7 base i (rows ++ [pp]) (X4.setCell ⟨b7, 1, none⟩ (.slice A6 (q + 1) c6)) ∧ Blk (X4.setCell ⟨b7, 1, none⟩ (.slice A6 (q + 1) c6)) bn [nv] 3 ∧ Blk (X4.setCell ⟨b7, 1, none⟩ (.slice A6 (q + 1) c6)) bi [iv] 3 ∧
      Fr (fun b => b = b7 ∨ b = bn ∨ b = bi) W0 (X4.setCell ⟨b7, 1, none⟩ (.slice A6 (q + 1) c6)) ∧ base ≤ (X4.setCell ⟨b7, 1, none⟩ (.slice A6 (q + 1) c6)).heap.size) ∧ KeepsOthers X (X4.setCell ⟨b7, 1, none⟩ (.slice A6 (q + 1) c6)) := by
  subst hq
  have hlo := ownRow_lt y2
  have hlo6 := ownRow_lt ho6
  have hnb : Below X.heap.size X (X2.alloc (.cells #[.slice A5 k c5] 25)) := hX2.alloc hX2.size _
  have zn : (X2.alloc (.cells #[.slice A5 k c5] 25)).heap.size = X2.heap.size + 1 := World.size_alloc _ _
  have zX := hX2.size
  have z4 := hg6.size
  rw [zn] at hv6 z4
  have fA : Fr (fun b => some b = v.ownBlock) X X4 := (Fr.of_below hnb).trans (Fr.of_grown hg6 (fun k e => e.symm))
  have fS : Fr (fun b => b = b7) X4 (X4.setCell ⟨b7, 1, none⟩ (.slice A6 (rows.length + 1) c6)) := Fr.set _ _ _ rfl
  have hv6' : ∀ b, b < X2.heap.size → some b ≠ v.ownBlock → some b ≠ (Value.slice A6 (rows.length + 1) c6).ownBlock := fun b hb hne e => by
    rcases hv6 with h | h
    · exact hne (e.trans h)
    · have := e.trans h; injection this with this; omega
  have n7 : some b7 ≠ v.ownBlock := fun e => by have := (hlo _ e.symm).1; omega
  have nn : some bn ≠ v.ownBlock := fun e => by have := (hlo _ e.symm).1; omega
  have ni : some bi ≠ v.ownBlock := fun e => by have := (hlo _ e.symm).1; omega
  have hA5 : ∀ a, A5 = some a → some a.block ≠ v.ownBlock := fun a ha e => by have := (hlo _ e.symm).2; have := (ha5 a ha).1; omega
  have hrf : Rd (X4.setCell ⟨b7, 1, none⟩ (.slice A6 (rows.length + 1) c6)) A5 (u32s pp) :=
    (((hr5.alloc _).grown hg6 hA5)).fr fS (fun _ a ha hx => by have := (ha5 a ha).1; have : a.block = b7 := hx; omega)
  have hRh : tyRow32.Rows X (fun b => (base ≤ b ∧ some b ≠ v.ownBlock) ∧ b < X.heap.size) rows cs := ⟨y3.1, fun i x hx => (y3.2 i x hx).here⟩
  have hRf := (hRh.fr fA (fun b hb hx => hb.1.2 hx)).fr fS (fun b hb (hx : b = b7) => by have := hb.1.1; omega)
  refine ⟨⟨⟨_, cs ++ [.slice A5 k c5], (x7.fr fA n7).set 1 _, ?_, ?_⟩, (yn.fr fA nn).fr fS h7n, (yi.fr fA ni).fr fS h7i, ?_, by simp; omega⟩, ?_⟩
  · rw [List.length_append, List.length_singleton]
    exact ownRow_fr ho6 fS (fun g hg (hx : g = b7) => by have := (hlo6 g hg).1; omega)
  · refine (hRf.mono (fun b hb => ⟨hb.1.1, hv6' b (by have := hb.2; omega) hb.1.2⟩)).snoc (row32_mk hl hc5 hc63 hrf (fun _ a ha => ⟨?_, hv6' _ (ha5 a ha).2 (hA5 a ha)⟩) hpb)
    have := (ha5 a ha).1; omega
  · exact (yF.trans' fA (fun b hb => .inr (hWX b (hlo b hb.symm).1))).trans' fS (fun b hb => .inl (.inl hb))
  · exact ((keepsBelow hnb).trans (KeepsOthers.of_grownBy hg6 (ownRow_cells (own_below y2 hnb)))).trans (KeepsOthers.setCell _ _ _)
set_option maxRecDepth 100000 in
set_option maxHeartbeats 6400000 in
theorem prove_yes (A : Option Addr) (n c : Nat) (l : List Nat) (i : Nat) (w : World) {Q : Nat → Prop} (hT : tyTree.Is w Q (treeD l) [.slice A n c]) (ht : Tab w) (hl : l.length ≤ 4096) (hi : i < l.length) (hok : plE (treeD l) (i : Int) = 0) :
    Calls Tryd.prog 33 #[.agg #[.slice A n c], .int .i64 i] w fun e w' => ∃ B K C, e = .returned (.tuple #[.agg #[.int .i64 i, .slice B K C], .int .i64 0]) ∧ tyProof.Is w' (fun b => w.heap.size ≤ b) ((i : Int), provD (treeD l) i) [.int .i64 i, .slice B K C] ∧ Below w.heap.size w w' := by
  have hmo : Tryd.prog.follows .mixedOrders = true := by kernel_rfl
  obtain ⟨N, hN⟩ : ∃ N, l.length = N := ⟨_, rfl⟩
  rw [hN] at hl hi
  have HN := hide hN
  clear hN
  refine (callsIn_wide (n := 8)).1 ?_
  refine callsIn_of_wp_marks Tryd.func33 rfl trivial ?_ rfl
  simp only [Tryd.ntmps33, List.size_toArray, List.length_cons, List.length_nil, Nat.reduceAdd, Nat.reduceSub, Array.replicate_succ, Array.replicate_zero, List.push_toArray, List.append_toArray, List.nil_append, List.cons_append]
  obtain ⟨w1, hw1⟩ : ∃ x, (w.alloc (.cells #[.slice A n c] 29)).alloc (.cells #[.int .i64 0, .slice none 0 0] 58) = x := ⟨_, rfl⟩
  have hb1 : Below w.heap.size w w1 := by rw [← hw1]; exact ((Below.refl _ _).alloc (Nat.le_refl _) _).alloc (by simp) _
  have z1 : w1.heap.size = w.heap.size + 2 := by rw [← hw1]; simp
  have B2 : Blk w1 w.heap.size [.slice A n c] 29 := by rw [← hw1]; exact (Blk.new w [.slice A n c] 29).alloc _
  have B4 : Blk w1 (w.heap.size + 1) [.int .i64 0, .slice none 0 0] 58 := by
    rw [← hw1]
    have := Blk.new (w.alloc (.cells #[.slice A n c] 29)) [.int .i64 0, .slice none 0 0] 58
    rwa [World.size_alloc] at this
  have HP := hide (place_any A n c (treeD l) (i : Int) w1 (hT.below hb1) (Rd.below ht hb1))
  rw [hok] at HP
  have HT1 := hide ((hT.below hb1).low)
  have Hw1 := hide hw1
  clear hw1 hT ht hok
  gi_wp2_with fail
  rw [Hw1.out]
  refine ⟨trivial, (callsIn_wide.2 HP.out).mono ?_⟩
  rintro x w2 ⟨rfl, hb2⟩
  have hT2 := HT1.out.below hb2
  have z2 := hb2.size
  have C2 := B2.below hb2
  have C4 := B4.below hb2
  obtain ⟨r0, hr0⟩ := lvD_head 6 l
  obtain ⟨p, pA, pn, pc, pv, rfl, hpe, hl1, hc1, hm1, hr1, _, he1⟩ := Tree_out hT2
  simp only [List.cons.injEq, Value.slice.injEq, and_true] at hpe
  obtain ⟨rfl, rfl, rfl⟩ := hpe
  have hp0 : 0 < (treeD l).length := by unfold treeD; rw [hr0]; simp
  have hn1 : 0 < n := by rw [← hl1]; exact hp0
  obtain ⟨B, m, hv0, _, _, _, _, _⟩ := rows32_at he1 (k := 0) hp0
  rw [show (treeD l)[0].length = N from by unfold treeD; simp only [hr0, List.getElem_cons_zero]; exact HN.out] at hv0
  obtain ⟨a, rfl, hc⟩ := hr1 0 _ hv0
  rw [show a.add 0 = a from rfl] at hc
  have d2 := C2.cell (j := 0) rfl
  obtain ⟨w3, hw3⟩ : ∃ x, w2.alloc (.cells #[.int .i64 (i : Int), .slice none 0 0] 58) = x := ⟨_, rfl⟩
  have hb3 : Below w2.heap.size w2 w3 := by rw [← hw3]; exact (Below.refl _ _).alloc (Nat.le_refl _) _
  have hc3 : (w2.alloc (.cells #[.int .i64 (i : Int), .slice none 0 0] 58)).cell? a = some (.slice B N m) := below_cell ((Below.refl _ _).alloc (Nat.le_refl _) _) hc
  have d3 : (w2.alloc (.cells #[.int .i64 (i : Int), .slice none 0 0] 58)).cell? ⟨w.heap.size, 0, none⟩ = some (.slice (some a) n c) := below_cell ((Below.refl _ _).alloc (Nat.le_refl _) _) d2
  have B7 : Blk w3 w2.heap.size [.int .i64 (i : Int), .slice none 0 0] 58 := by rw [← hw3]; exact Blk.new w2 [.int .i64 (i : Int), .slice none 0 0] _
  have z3 : w3.heap.size = w2.heap.size + 1 := by rw [← hw3]; simp
  have D2 := C2.below hb3
  have D4 := C4.below hb3
  have Hw3 := hide hw3
  have HT3 := hide (hT2.below hb3)
  obtain ⟨b7, hb7⟩ : ∃ x, w2.heap.size = x := ⟨_, rfl⟩
  have Hb7 := hide hb7
  clear hw3 hT2 hr1 he1 hv0 hr0 C2 C4 hb7
  gi_wp2_with fail
  rw [Hw3.out]
  refine ⟨trivial, (callsIn_wide.2 (steps_any (N : Int) (i : Int) w3)).mono ?_⟩
  rintro x w5 ⟨rfl, rfl⟩
  rw [Hb7.out]
  have hb7 := Hb7.out
  rw [hb7] at B7 z3
  gi_wp2_with fail
  obtain ⟨W0, hW0⟩ : ∃ x, (w3.alloc (.cells #[.int .i64 (N : Int)] 3)).alloc (.cells #[.int .i64 (i : Int)] 3) = x := ⟨_, rfl⟩
  have hsz : W0.heap.size = w3.heap.size + 2 := by rw [← hW0]; simp
  have hbW : Below w3.heap.size w3 W0 := by rw [← hW0]; exact ((Below.refl _ _).alloc (Nat.le_refl _) _).alloc (by simp) _
  have qn : Blk W0 w3.heap.size [.int .i64 (N : Int)] 3 := by rw [← hW0]; exact (Blk.new w3 [.int .i64 (N : Int)] 3).alloc _
  have qi : Blk W0 (w3.heap.size + 1) [.int .i64 (i : Int)] 3 := by
    rw [← hW0]
    have := Blk.new (w3.alloc (.cells #[.int .i64 (N : Int)] 3)) [.int .i64 (i : Int)] 3
    rwa [World.size_alloc] at this
  rw [hW0]
  have E7 := B7.below hbW
  have E2 := D2.below hbW
  have E4 := D4.below hbW
  have HT5 := hide (HT3.out.below hbW)
  have ht5 : True := trivial
  clear hW0 d2 d3 hc hc3
  obtain ⟨ps, hps⟩ : ∃ ps, provD (treeD l) i = ps := ⟨_, rfl⟩
  refine range_own 8 (by omega) (lb := #[.pointer (some ⟨w3.heap.size, 0, none⟩), .pointer (some ⟨w3.heap.size + 1, 0, none⟩)]) (by simp [Act.eval]) (enters_of Tryd.func73 (by kernel_rfl) rfl) (encS N i) (fun _ => rfl) (fun j => 1 < itN j N)
    (PvI W0 b7 w3.heap.size (w3.heap.size + 1) N i ps) (fun j W => 1 < itN j N ∧ PrI b7 (W0.heap.size + 2) (i : Int) (ps.take (j + 1)) W ∧ Blk W w3.heap.size [.int .i64 (itN j N : Nat)] 3 ∧ Blk W (w3.heap.size + 1) [.int .i64 (itI j i : Nat)] 3 ∧ Fr (fun b => b = b7 ∨ b = w3.heap.size ∨ b = w3.heap.size + 1) W0 W ∧ W0.heap.size + 2 ≤ W.heap.size ∧ (∀ k, k < j → 1 < itN k N)) (fun _ _ => False) ?i0 ?ip ?mp (fun _ _ _ _ h => h) ?it ?round ?done (fun _ _ h => h.elim)
  case i0 =>
    intro r
    have hb2 : Below W0.heap.size W0 ((W0.alloc (.deferred (some []))).alloc (.loop r)) := ((Below.refl _ _).alloc (Nat.le_refl _) _).alloc (by simp) _
    exact ⟨⟨_, [], E7.below hb2, World.ownsRow_nil _ _ _ _, Ty.Rows.nil⟩, qn.below hb2, qi.below hb2, Fr.of_below hb2, by simp, fun k hk => by omega⟩
  case ip => intro j W r hW h; exact h.put (by omega) (by omega) (by omega) hW r
  case mp =>
    intro j W r hW h
    obtain ⟨h0, h1, h2, h3, h4, h5, h6⟩ := h
    have hf : Fr (fun b => b = W0.heap.size + 1) W (W.putObj (W0.heap.size + 1) (.loop r)) := Fr.of_grown (grownBy_putObj' W _ _) (fun k e => by injection e with e; exact e.symm)
    exact ⟨h0, h1.fr hf (by omega) (fun k hk => by omega), h2.fr hf (by omega), h3.fr hf (by omega), h4.trans' hf (fun b hb => .inr (by omega)), by rw [putObj_size]; exact h5, h6⟩
  case it =>
    refine steps_iter (8 - 1) (by omega) _ _ _ N i hi (by omega) (by omega) _ _ ?_ ?_ ?_
    · exact fun j W h => ⟨h.2.1.cell (j := 0) rfl, h.2.2.1.cell (j := 0) rfl⟩
    · exact fun j W k h => h.drewN k
    · rintro j W ⟨h0, h1, h2, h3, h4, h5, h6⟩
      refine ⟨h2, h3, ?_⟩
      have f1 : Fr (fun b => b = w3.heap.size ∨ b = w3.heap.size + 1) W (W.setCell ⟨w3.heap.size + 1, 0, none⟩ (.int .i64 (itI (j + 1) i : Nat))) := Fr.set _ _ _ (.inr rfl)
      have f2 : Fr (fun b => b = w3.heap.size ∨ b = w3.heap.size + 1) (W.setCell ⟨w3.heap.size + 1, 0, none⟩ (.int .i64 (itI (j + 1) i : Nat))) ((W.setCell ⟨w3.heap.size + 1, 0, none⟩ (.int .i64 (itI (j + 1) i : Nat))).setCell ⟨w3.heap.size, 0, none⟩ (.int .i64 (itN (j + 1) N : Nat))) := Fr.set _ _ _ (.inl rfl)
      have ff := f1.trans f2
      refine ⟨h1.fr ff (by omega) (fun k hk => by omega), (h2.apart (by omega) _ _).set 0 _, (h3.set 0 _).apart (by omega) _ _, h4.trans' ff (fun b hb => .inl (by omega)), by simp; omega, fun k hk => ?_⟩
      rcases Nat.lt_or_ge k j with hkj | hkj
      · exact h6 k hkj
      · rw [show k = j by omega]; exact h0
  case round =>
    intro j W hU hm hlW
    obtain ⟨⟨v, cs, p1, p2, p3⟩, qn', qi', hF, hsW, hks⟩ := hU
    obtain ⟨r, hr, hrl, hpj⟩ := provD_at j 6 l i (by rw [HN.out]; exact Nat.le_trans hl (by decide)) (fun k hk => by
      rw [HN.out]
      rcases Nat.lt_or_ge k j with h | h
      · exact hks k h
      · rw [show k = j by omega]; exact hm)
    rw [HN.out] at hrl
    have hps1 := provD_take hpj
    have hjlen : j < (provD (treeD l) i).length := (List.getElem?_eq_some_iff.1 hpj).1
    rw [show provD (lvD 6 l) i = ps from hps] at hps1
    rw [hps] at hjlen
    have hj6 := itN_small j N hl hks
    have hTW := HT5.out.fr hF (fun b hb hx => by omega)
    obtain ⟨p, pA, pn, pc, pv, rfl, hpe, hl1, hc1, hm1, hr1, hq1, he1⟩ := Tree_out hTW
    simp only [List.cons.injEq, Value.slice.injEq, and_true] at hpe
    obtain ⟨rfl, rfl, rfl⟩ := hpe
    obtain ⟨hjl, hje⟩ := List.getElem?_eq_some_iff.1 hr
    obtain ⟨Aj, cj, hvj, hcj, hcj63, hrj, hqj, hbj⟩ := rows32_at he1 (k := j) (show j < (treeD l).length from hjl)
    rw [show (treeD l)[j]'(show j < (treeD l).length from hjl) = r from hje] at hvj hcj hrj hbj hqj
    rw [hrl] at hvj hcj
    have hcell := hr1.at_ hvj
    have hab : a.block < w1.heap.size := hq1 (fun e => by rw [e] at hl1; simp at hl1; omega) a rfl
    have hil := itI_lt j hi
    have hjn : j < n := by rw [← hl1]; exact hjl
    obtain ⟨x, hx⟩ : ∃ x, itN j N = x := ⟨_, rfl⟩
    obtain ⟨ii, hii⟩ : ∃ y, itI j i = y := ⟨_, rfl⟩
    rw [hx] at hrl hm hil hvj hcj hcell qn'
    rw [hii] at hil hpj hps1 qi'
    obtain ⟨F, hFF⟩ : ∃ F, ii / 4 * 4 = F := ⟨_, rfl⟩
    obtain ⟨T, hTT⟩ : ∃ T, min (F + 4) x = T := ⟨_, rfl⟩
    have hFT : F < T := by omega
    have hTx : T ≤ x := by omega
    have hTF4 : T - F ≤ 4 := by omega
    have hpl : (pieceD r (ii / 4)).length = T - F := by rw [pieceD_length, hrl]; omega
    have hqr : ∀ b, Aj = some b → b.block < w1.heap.size := hqj (fun e => by rw [e] at hrl; simp at hrl; omega)
    have hrp : Rd W (cutA Aj cj F 1) (u32s (pieceD r (ii / 4))) := by
      have := rd_piece hrj hrl hcj (j := ii / 4) (by omega)
      rwa [show 4 * (ii / 4) = F by omega] at this
    have hpb : ∀ y ∈ pieceD r (ii / 4), y < 4294967296 := fun y hy => hbj y (mem_piece hy)
    obtain ⟨pp, hpp⟩ : ∃ q, pieceD r (ii / 4) = q := ⟨_, rfl⟩
    rw [hpp] at hpl hrp hpb hps1
    have Hps1 := hide hps1
    have Hx := hide hx
    have Hii := hide hii
    have Hpl := hide hpl
    have e0 : encS N i j = #[.agg #[.int .i64 (j : Int), .int .i64 (ii : Int), .int .i64 (F : Int), .int .i64 (T : Int)]] := by
      unfold encS; rw [hx, hii, hFF, hTT, show ((ii : Int) / 4 * 4) = (F : Int) by omega]
    rw [e0]
    have hlen : (ps.take j).length = j := by rw [List.length_take]; omega
    have hlo := ownRow_lt p2
    obtain ⟨Av, cv, rfl, _, hcv, hcmv, _, _⟩ := own_out p2
    clear e0 hps1 hx hii hpl hpp hpj hrj hje hr hrl hbj hTT hFF he1 hr1 hTW hl1 hvj hq1 hqj
    gi_wp2
    refine ⟨KeepsOthers.alloc _ _, fun r' => ?_⟩
    have hB8 := Blk.new W [.int .i64 (j : Int), .int .i64 (ii : Int), .int .i64 (F : Int), .int .i64 (T : Int)] 98
    obtain ⟨X, hXX⟩ : ∃ y, (W.alloc (.cells #[.int .i64 (j : Int), .int .i64 (ii : Int), .int .i64 (F : Int), .int .i64 (T : Int)] 98)).putObj (W0.heap.size + 1) (.loop r') = y := ⟨_, rfl⟩
    have hFX : Fr (fun b => b = W0.heap.size + 1) W X := by
      rw [← hXX]
      exact (Fr.of_below ((Below.refl _ _).alloc (Nat.le_refl _) _)).trans (Fr.of_grown (grownBy_putObj' _ _ _) (fun k e => by injection e with e; exact e.symm))
    have hB8X : Blk X W.heap.size [.int .i64 (j : Int), .int .i64 (ii : Int), .int .i64 (F : Int), .int .i64 (T : Int)] 98 := by rw [← hXX]; exact blk_put hB8 (by omega) _
    have HXX := hide hXX
    rw [hXX]
    clear hXX hB8
    have hzX : W.heap.size + 1 ≤ X.heap.size := hB8X.lt
    obtain ⟨b8, hb8⟩ : ∃ y, W.heap.size = y := ⟨_, rfl⟩
    rw [hb8] at hB8X hzX ⊢
    have x7 := p1.fr hFX (by omega)
    have y2 := ownRow_fr p2 hFX (fun g hg hx => by have := (hlo g hg).1; omega)
    have y3 := p3.fr hFX (fun b hb hx => by have := hb.1; omega)
    have yn := qn'.fr hFX (by omega)
    have yi := qi'.fr hFX (by omega)
    have yF := hF.trans' hFX (fun b hb => .inr (by omega))
    have e2W := (E2.fr hF (by omega)).fr hFX (by omega)
    have hS : ∀ (Y : Nat → Prop) (Z : World), Fr Y X Z → ¬ Y w.heap.size → ¬ Y a.block → ¬ Y b8 → (Z.cell? ⟨w.heap.size, 0, none⟩ = some (.slice (some a) n c) ∧ Z.cell? (a.add j) = some (.slice Aj x cj) ∧ Z.cell? ⟨b8, 0, none⟩ = some (.int .i64 (j : Int)) ∧ Z.cell? ⟨b8, 2, none⟩ = some (.int .i64 (F : Int)) ∧ Z.cell? ⟨b8, 3, none⟩ = some (.int .i64 (T : Int))) := fun Y Z hz h1 h2 h3 =>
      ⟨(e2W.fr hz h1).cell (j := 0) rfl, hz.cell (hFX.cell hcell (by rw [add_block]; show ¬ a.block = _; omega)) (by rw [add_block]; exact h2), (hB8X.fr hz h3).cell (j := 0) rfl, (hB8X.fr hz h3).cell (j := 2) rfl, (hB8X.fr hz h3).cell (j := 3) rfl⟩
    have HS := hide hS
    have hS0 := hS (fun _ => False) X.drew (Fr.of_below (Below.refl _ X).drew) (fun h => h) (fun h => h) (fun h => h)
    have hlt1 : (F : Int) ≤ (T : Int) := by omega
    have hxc : (T : Int) ≤ (cj : Int) := by omega
    have HCL := hide (clone32_any (cutA Aj cj F 1) (T - F) (cj - F) pp X.drew Hpl.out (by omega) ((hrp.fr hFX (fun hne b hb hx => by
      unfold cutA at hb
      split at hb
      · have := hqr b hb; omega
      · rw [Option.map_eq_some_iff] at hb
        obtain ⟨b', hb', rfl⟩ := hb
        rw [add_block] at hx
        have := hqr b' hb'; omega)).drew))
    have x7c := x7.cell (j := 1) rfl
    have hlv := hlen
    rw [hlen] at x7c x7 y2 hlo y3
    clear hS e2W hcell hFX hFT p1 p2 p3 qn' qi' hF
    gi_wp2_with fail
    refine round_held (fun Z => Z.cell? ⟨w.heap.size, 0, none⟩ = some (.slice (some a) n c) ∧ Z.cell? (a.add j) = some (.slice Aj x cj) ∧ Z.cell? ⟨b8, 0, none⟩ = some (.int .i64 (j : Int)) ∧ Z.cell? ⟨b8, 2, none⟩ = some (.int .i64 (F : Int)) ∧ Z.cell? ⟨b8, 3, none⟩ = some (.int .i64 (T : Int))) hmo (by kernel_rfl) (by rintro ⟨_, _, h⟩; exact h) ?_
    refine wpAnyH_take (fuel := 17) (i := 0) (v := .pointer (some ⟨b7, 1, none⟩)) rfl (by kernel_rfl) (by kernel_rfl) (by kernel_rfl) (fun _ _ _ h => h) (Or.inl ⟨by rfl, fun Z hZ => ?_⟩) hS0 ?_
    · obtain ⟨z1, z2, z3, z4, z5⟩ := hZ
      go_simp
    refine wpAnyH_take (i := 2) (v := .pointer (some ⟨w.heap.size, 0, none⟩)) rfl (by kernel_rfl) (by kernel_rfl) (by kernel_rfl) (fun _ _ _ h => h) (Or.inl ⟨by rfl, fun Z hZ => ?_⟩) hS0 ?_
    · obtain ⟨z1, z2, z3, z4, z5⟩ := hZ
      go_simp
    refine wpAnyH_take (i := 3) (v := .slice (some a) n c) rfl (by kernel_rfl) (by kernel_rfl) (by kernel_rfl) (fun _ _ _ h => h) (Or.inl ⟨by rfl, fun Z hZ => ?_⟩) hS0 ?_
    · obtain ⟨z1, z2, z3, z4, z5⟩ := hZ
      go_simp
    refine wpAnyH_take (i := 4) (v := .pointer (some ⟨b8, 0, none⟩)) rfl (by kernel_rfl) (by kernel_rfl) (by kernel_rfl) (fun _ _ _ h => h) (Or.inl ⟨by rfl, fun Z hZ => ?_⟩) hS0 ?_
    · obtain ⟨z1, z2, z3, z4, z5⟩ := hZ
      go_simp
    refine wpAnyH_take (i := 5) (v := .int .i64 (j : Int)) rfl (by kernel_rfl) (by kernel_rfl) (by kernel_rfl) (fun _ _ _ h => h) (Or.inl ⟨by rfl, fun Z hZ => ?_⟩) hS0 ?_
    · obtain ⟨z1, z2, z3, z4, z5⟩ := hZ
      go_simp
    refine wpAnyH_take (i := 6) (v := .pointer (some (a.add j))) rfl (by kernel_rfl) (by kernel_rfl) (by kernel_rfl) (fun _ _ _ h => h) (Or.inl ⟨by rfl, fun Z hZ => ?_⟩) hS0 ?_
    · obtain ⟨z1, z2, z3, z4, z5⟩ := hZ
      go_simp
    refine wpAnyH_take (i := 7) (v := .slice Aj x cj) rfl (by kernel_rfl) (by kernel_rfl) (by kernel_rfl) (fun _ _ _ h => h) (Or.inl ⟨by rfl, fun Z hZ => ?_⟩) hS0 ?_
    · obtain ⟨z1, z2, z3, z4, z5⟩ := hZ
      go_simp
    refine wpAnyH_take (i := 8) (v := .pointer (some ⟨b8, 2, none⟩)) rfl (by kernel_rfl) (by kernel_rfl) (by kernel_rfl) (fun _ _ _ h => h) (Or.inl ⟨by rfl, fun Z hZ => ?_⟩) hS0 ?_
    · obtain ⟨z1, z2, z3, z4, z5⟩ := hZ
      go_simp
    refine wpAnyH_take (i := 9) (v := .int .i64 (F : Int)) rfl (by kernel_rfl) (by kernel_rfl) (by kernel_rfl) (fun _ _ _ h => h) (Or.inl ⟨by rfl, fun Z hZ => ?_⟩) hS0 ?_
    · obtain ⟨z1, z2, z3, z4, z5⟩ := hZ
      go_simp
    refine wpAnyH_take (i := 10) (v := .pointer (some ⟨b8, 3, none⟩)) rfl (by kernel_rfl) (by kernel_rfl) (by kernel_rfl) (fun _ _ _ h => h) (Or.inl ⟨by rfl, fun Z hZ => ?_⟩) hS0 ?_
    · obtain ⟨z1, z2, z3, z4, z5⟩ := hZ
      go_simp
    refine wpAnyH_take (i := 11) (v := .int .i64 (T : Int)) rfl (by kernel_rfl) (by kernel_rfl) (by kernel_rfl) (fun _ _ _ h => h) (Or.inl ⟨by rfl, fun Z hZ => ?_⟩) hS0 ?_
    · obtain ⟨z1, z2, z3, z4, z5⟩ := hZ
      go_simp
    refine wpAnyH_take (i := 12) (v := .slice (cutA Aj cj F 1) (T - F) (cj - F)) rfl (by kernel_rfl) (by kernel_rfl) (by kernel_rfl) (fun _ _ _ h => h) (Or.inl ⟨by rfl, fun Z hZ => ?_⟩) hS0 ?_
    · obtain ⟨z1, z2, z3, z4, z5⟩ := hZ
      go_simp
    have HNEXT := fun (X2 X4 : World) (A5 A6 : Option Addr) (c5 c6 : Nat) h1 h2 h3 h4 h5 h6 h7 h8 => prI_next (W0 := W0) (X := X) (X2 := X2) (X4 := X4) (A5 := A5) (A6 := A6) (c5 := c5) (c6 := c6) hlv (base := W0.heap.size + 2) (by omega) (by omega) (by omega) (by omega) (by omega) (by omega) x7 y2 y3 yn yi yF (Nat.le_refl _) h1 Hpl.out h2 h3 h4 h5 hpb h6 h7 h8 (fun g hg => by omega)
    have nv2 : ¬ some w.heap.size = (Value.slice Av j cv).ownBlock := fun e => by have := (hlo _ e.symm).1; omega
    have nva : ¬ some a.block = (Value.slice Av j cv).ownBlock := fun e => by have := (hlo _ e.symm).1; omega
    have nv8 : ¬ some b8 = (Value.slice Av j cv).ownBlock := fun e => by have := (hlo _ e.symm).2; omega
    have nv7 : ¬ some b7 = (Value.slice Av j cv).ownBlock := fun e => by have := (hlo _ e.symm).1; omega
    refine all_two (fuel := 5) (i := 1) (j := 13) (by kernel_rfl) rfl rfl rfl rfl (fun K hK => ?_) (fun K hK => ?_)
    · have x7d := x7c
      go_simp
      refine hK _ _ ⟨hS0, ?_⟩
      clear hK K
      refine all_one (fuel := 4) (i := 13) (by kernel_rfl) rfl rfl (fun K hK => ?_)
      go_simp
      refine HCL.out.mono ?_
      rintro e X2 ⟨v5, rfl, ho5, hb5⟩
      obtain ⟨A5, c5, rfl, _, hc5, hcm5, hr5, ha5⟩ := own_out ho5
      have hX2 : Below X.heap.size X X2 := (Below.refl _ X).drew.trans hb5
      have hS2 := HS.out (fun _ => False) X2 (Fr.of_below hX2) (fun h => h) (fun h => h) (fun h => h)
      have hX3 : Below X.heap.size X (X2.alloc (.cells #[.slice A5 (T - F) c5] 25)) := hX2.alloc hX2.size _
      have hS3 := HS.out (fun _ => False) _ (Fr.of_below hX3) (fun h => h) (fun h => h) (fun h => h)
      refine hK _ _ ⟨hS2, ?_⟩
      clear hK K
      refine all_one (fuel := 3) (i := 14) (by kernel_rfl) rfl rfl (fun K hK => ?_)
      go_simp
      refine hK _ _ ⟨hS3, ?_⟩
      clear hK K
      refine all_one (fuel := 2) (i := 15) (by kernel_rfl) rfl rfl (fun K hK => ?_)
      refine oper_own rfl tU32s (by rfl) (own_below y2 hX3) (A := some ⟨X2.heap.size, 0, none⟩) (m := 1) (c := 1) (by rfl) (by rfl) (Rd.new1 X2 _ _) (by intro u hu; simp at hu; subst hu; rfl) (by omega) (by omega) (by have := hX3.size; omega) ?_
      intro v6 X4 ho6 hg6 hv6
      obtain ⟨A6, c6, rfl, _⟩ := own_out ho6
      have fA : Fr (fun b => some b = (Value.slice Av j cv).ownBlock) X X4 := (Fr.of_below hX3).trans (Fr.of_grown hg6 (fun k e => e.symm))
      have hS4 := HS.out _ X4 fA nv2 nva nv8
      refine hK _ _ ⟨hS4, ?_⟩
      clear hK K
      refine all_one (fuel := 1) (i := 16) (by kernel_rfl) rfl rfl (fun K hK => ?_)
      go_simp
      refine hK _ _ ⟨hS4, ?_⟩
      clear hK K
      have w7 := x7.fr fA nv7
      have w7c := w7.cell (j := 1) rfl
      have w7f := w7.frozen 1
      have hS5 := HS.out _ (X4.setCell ⟨b7, 1, none⟩ (.slice A6 (j + 1) c6)) ((fA.mono (Y := fun b => some b = (Value.slice Av j cv).ownBlock ∨ b = b7) (fun b hb => .inl hb)).trans (Fr.set _ _ _ (.inr rfl))) (fun h => h.elim nv2 (fun h => by omega)) (fun h => h.elim nva (fun h => by omega)) (fun h => h.elim nv8 (fun h => by omega))
      have HNX := hide (HNEXT X2 X4 A5 A6 c5 c6 hX2 hc5 (by unfold maxLen at hcm5; omega) hr5 ha5 ho6 hg6 hv6)
      refine all_one (fuel := 0) (i := 17) (by kernel_rfl) rfl rfl (fun K hK => ?_)
      go_simp
      refine hK _ _ ⟨hS5, ?_⟩
      clear hK K
      refine wpAnyH_done (by kernel_rfl) ?_ _
      exact ⟨HNX.out.2, by rw [Hx.out]; exact hm, by rw [Hps1.out]; exact HNX.out.1.1, by rw [Hx.out]; exact HNX.out.1.2.1, by rw [Hii.out]; exact HNX.out.1.2.2.1, HNX.out.1.2.2.2.1, HNX.out.1.2.2.2.2, hks⟩
    · have x7d := x7c
      go_simp
      refine HCL.out.mono ?_
      rintro e X2 ⟨v5, rfl, ho5, hb5⟩
      obtain ⟨A5, c5, rfl, _, hc5, hcm5, hr5, ha5⟩ := own_out ho5
      have hX2 : Below X.heap.size X X2 := (Below.refl _ X).drew.trans hb5
      have hS2 := HS.out (fun _ => False) X2 (Fr.of_below hX2) (fun h => h) (fun h => h) (fun h => h)
      have hX3 : Below X.heap.size X (X2.alloc (.cells #[.slice A5 (T - F) c5] 25)) := hX2.alloc hX2.size _
      have hS3 := HS.out (fun _ => False) _ (Fr.of_below hX3) (fun h => h) (fun h => h) (fun h => h)
      refine hK _ _ ⟨hS2, ?_⟩
      clear hK K
      refine all_two (fuel := 4) (i := 1) (j := 14) (by kernel_rfl) rfl rfl rfl rfl (fun K hK => ?_) (fun K hK => ?_)
      · have x7e := (x7.below hX2).cell (j := 1) rfl
        go_simp
        refine hK _ _ ⟨hS2, ?_⟩
        clear hK K
        refine all_one (fuel := 3) (i := 14) (by kernel_rfl) rfl rfl (fun K hK => ?_)
        go_simp
        refine hK _ _ ⟨hS3, ?_⟩
        clear hK K
        refine all_one (fuel := 2) (i := 15) (by kernel_rfl) rfl rfl (fun K hK => ?_)
        refine oper_own rfl tU32s (by rfl) (own_below y2 hX3) (A := some ⟨X2.heap.size, 0, none⟩) (m := 1) (c := 1) (by rfl) (by rfl) (Rd.new1 X2 _ _) (by intro u hu; simp at hu; subst hu; rfl) (by omega) (by omega) (by have := hX3.size; omega) ?_
        intro v6 X4 ho6 hg6 hv6
        obtain ⟨A6, c6, rfl, _⟩ := own_out ho6
        have fA : Fr (fun b => some b = (Value.slice Av j cv).ownBlock) X X4 := (Fr.of_below hX3).trans (Fr.of_grown hg6 (fun k e => e.symm))
        have hS4 := HS.out _ X4 fA nv2 nva nv8
        refine hK _ _ ⟨hS4, ?_⟩
        clear hK K
        refine all_one (fuel := 1) (i := 16) (by kernel_rfl) rfl rfl (fun K hK => ?_)
        go_simp
        refine hK _ _ ⟨hS4, ?_⟩
        clear hK K
        have w7 := x7.fr fA nv7
        have w7c := w7.cell (j := 1) rfl
        have w7f := w7.frozen 1
        have hS5 := HS.out _ (X4.setCell ⟨b7, 1, none⟩ (.slice A6 (j + 1) c6)) ((fA.mono (Y := fun b => some b = (Value.slice Av j cv).ownBlock ∨ b = b7) (fun b hb => .inl hb)).trans (Fr.set _ _ _ (.inr rfl))) (fun h => h.elim nv2 (fun h => by omega)) (fun h => h.elim nva (fun h => by omega)) (fun h => h.elim nv8 (fun h => by omega))
        have HNX := hide (HNEXT X2 X4 A5 A6 c5 c6 hX2 hc5 (by unfold maxLen at hcm5; omega) hr5 ha5 ho6 hg6 hv6)
        refine all_one (fuel := 0) (i := 17) (by kernel_rfl) rfl rfl (fun K hK => ?_)
        go_simp
        refine hK _ _ ⟨hS5, ?_⟩
        clear hK K
        refine wpAnyH_done (by kernel_rfl) ?_ _
        exact ⟨HNX.out.2, by rw [Hx.out]; exact hm, by rw [Hps1.out]; exact HNX.out.1.1, by rw [Hx.out]; exact HNX.out.1.2.1, by rw [Hii.out]; exact HNX.out.1.2.2.1, HNX.out.1.2.2.2.1, HNX.out.1.2.2.2.2, hks⟩
      · have x7e := (x7.below hX3).cell (j := 1) rfl
        go_simp
        refine hK _ _ ⟨hS3, ?_⟩
        clear hK K
        refine all_one (fuel := 3) (i := 1) (by kernel_rfl) rfl rfl (fun K hK => ?_)
        go_simp
        refine hK _ _ ⟨hS3, ?_⟩
        clear hK K
        refine all_one (fuel := 2) (i := 15) (by kernel_rfl) rfl rfl (fun K hK => ?_)
        refine oper_own rfl tU32s (by rfl) (own_below y2 hX3) (A := some ⟨X2.heap.size, 0, none⟩) (m := 1) (c := 1) (by rfl) (by rfl) (Rd.new1 X2 _ _) (by intro u hu; simp at hu; subst hu; rfl) (by omega) (by omega) (by have := hX3.size; omega) ?_
        intro v6 X4 ho6 hg6 hv6
        obtain ⟨A6, c6, rfl, _⟩ := own_out ho6
        have fA : Fr (fun b => some b = (Value.slice Av j cv).ownBlock) X X4 := (Fr.of_below hX3).trans (Fr.of_grown hg6 (fun k e => e.symm))
        have hS4 := HS.out _ X4 fA nv2 nva nv8
        refine hK _ _ ⟨hS4, ?_⟩
        clear hK K
        refine all_one (fuel := 1) (i := 16) (by kernel_rfl) rfl rfl (fun K hK => ?_)
        go_simp
        refine hK _ _ ⟨hS4, ?_⟩
        clear hK K
        have w7 := x7.fr fA nv7
        have w7c := w7.cell (j := 1) rfl
        have w7f := w7.frozen 1
        have hS5 := HS.out _ (X4.setCell ⟨b7, 1, none⟩ (.slice A6 (j + 1) c6)) ((fA.mono (Y := fun b => some b = (Value.slice Av j cv).ownBlock ∨ b = b7) (fun b hb => .inl hb)).trans (Fr.set _ _ _ (.inr rfl))) (fun h => h.elim nv2 (fun h => by omega)) (fun h => h.elim nva (fun h => by omega)) (fun h => h.elim nv8 (fun h => by omega))
        have HNX := hide (HNEXT X2 X4 A5 A6 c5 c6 hX2 hc5 (by unfold maxLen at hcm5; omega) hr5 ha5 ho6 hg6 hv6)
        refine all_one (fuel := 0) (i := 17) (by kernel_rfl) rfl rfl (fun K hK => ?_)
        go_simp
        refine hK _ _ ⟨hS5, ?_⟩
        clear hK K
        refine wpAnyH_done (by kernel_rfl) ?_ _
        exact ⟨HNX.out.2, by rw [Hx.out]; exact hm, by rw [Hps1.out]; exact HNX.out.1.1, by rw [Hx.out]; exact HNX.out.1.2.1, by rw [Hii.out]; exact HNX.out.1.2.2.1, HNX.out.1.2.2.2.1, HNX.out.1.2.2.2.2, hks⟩
  case done =>
    intro j W hU hnm hDq
    obtain ⟨⟨v, cs, p1, p2, p3⟩, qn', qi', hF, hsW, hks⟩ := hU
    have hpl : (provD (lvD 6 l) i).length = j := provD_len j 6 l i (by rw [HN.out]; exact Nat.le_trans hl (by decide)) (fun k hk => by rw [HN.out]; exact hks k hk) (by rw [HN.out]; exact hnm)
    rw [show provD (lvD 6 l) i = ps from hps] at hpl
    rw [List.take_of_length_le (by omega)] at p2 p3
    have hlo := ownRow_lt p2
    obtain ⟨Av, cv, rfl, _, hcv, hcmv, hrv, hav⟩ := own_out p2
    have hE4 := E4.fr hF (by omega)
    have d4 := hE4.frozen 0
    have d41 := hE4.frozen 1
    have d40 := hE4.cell (j := 0) rfl
    have d42 := hE4.cell (j := 1) rfl
    have d7 := p1.cell (j := 0) rfl
    have d71 := p1.cell (j := 1) rfl
    obtain ⟨K, hK⟩ : ∃ K, ps.length = K := ⟨_, rfl⟩
    rw [hK] at d71 hcv
    have HK := hide hK
    have HE4 := hide hE4
    have HD := hide hDq
    have HF := hide hF
    clear hpl hK hE4 hDq p1 p2 qn' qi' hnm hks
    rw [HK.out] at hlo
    gi_wp2
    have f4 : Fr (fun b => b = w.heap.size + 1) W ((W.setCell ⟨w.heap.size + 1, 0, none⟩ (.int .i64 (i : Int))).setCell ⟨w.heap.size + 1, 1, none⟩ (.slice Av K cv)) := (Fr.set (X := fun b => b = w.heap.size + 1) W _ _ rfl).trans (Fr.set (X := fun b => b = w.heap.size + 1) _ _ _ rfl)
    have hko : KeepsOthers W ((W.setCell ⟨w.heap.size + 1, 0, none⟩ (.int .i64 (i : Int))).setCell ⟨w.heap.size + 1, 1, none⟩ (.slice Av K cv)) := (KeepsOthers.setCell _ _ _).trans (KeepsOthers.setCell _ _ _)
    have hw0 : Below w.heap.size w W0 := hb1.trans ((hb2.mono (by omega)).trans ((hb3.mono (by omega)).trans (hbW.mono (by omega))))
    have hbl : Below w.heap.size w ((W.setCell ⟨w.heap.size + 1, 0, none⟩ (.int .i64 (i : Int))).setCell ⟨w.heap.size + 1, 1, none⟩ (.slice Av K cv)) :=
      (HF.out.below hw0 (by omega) (fun k hk => by omega)).trans (f4.lo (by have := HF.out.size; omega) (fun k hk => by omega))
    refine leaves_marks (B := w.heap.size) [W0.heap.size] _ ⟨List.nodup_cons.2 ⟨List.not_mem_nil, List.nodup_nil⟩, fun r hr => ?_⟩ ?_
    · rw [List.mem_singleton] at hr
      subst hr
      exact ⟨by omega, hko.same _ _ HD.out rfl⟩
    intro W' hca hbl'
    have hB : Blk W' (w.heap.size + 1) [.int .i64 (i : Int), .slice Av K cv] 58 := hca _ _ rfl ((HE4.out.set 0 _).set 1 _)
    have hr1 := hca.rd (hrv.fr f4 (fun _ a ha hx => by have := (hav a ha).1; omega))
    have hR1 := (p3.fr f4 (fun b hb hx => by have := hb.1; omega)).keep (Q' := fun b => w.heap.size ≤ b) (fun A xs h _ => hca.rd h) (fun b hb => by have := hb.1; omega)
    rw [hps]
    exact ⟨_, results_cell2 rfl rfl hB Tryd.underlying58 rfl (by kernel_rfl), Av, K, cv, rfl,
      Proof_mk (by omega) (by omega) HK.out hcv (by unfold maxLen at hcmv; omega) hr1 (fun _ a ha => by have := (hav a ha).1; omega) hR1, hbl.trans hbl'⟩
end Go.Proofs.YtcpnobhdogpfiaaDoor
