/- Texts joined (shake.py). -/
import Derived.Maps.OwnIn
import Derived.Test.YtoaodmidegkolaaGreatDoorK92
import Derived.Test.YtoaodmidegkolaaGreatDoorK93
import Derived.Test.YtoaodmidegkolaaGreatDoorK94
namespace Go.Proofs.YtoaodmidegkolaaGreatDoor
set_option maxRecDepth 20000
open Go.RowKit Go.Px Go.Shelf
set_option linter.unusedVariables false
attribute [local go_sem] Oper.semAt_some
/-- The numbers of a superblock. -/
def Sup.nums (s : Sup) : List Nat := [s.ep.toNat, s.vw.toNat, s.nm.toNat, s.tp.toNat, s.bs.toNat, s.ar.toNat, s.st.toNat, s.ch]
def bodN (l : List Nat) (j : Nat) : List UInt8 := (List.range j).flatMap fun i => leB (szN i) (l.getD i 0)
theorem bodN_succ (l : List Nat) (j : Nat) : bodN l (j + 1) = bodN l j ++ leB (szN j) (l.getD j 0) := by
  unfold bodN; rw [List.range_succ, List.flatMap_append]; simp
theorem szN_le (j : Nat) : 1 ≤ szN j ∧ szN j ≤ 8 := by unfold szN; split <;> omega
theorem bodN_len (l : List Nat) : ∀ j, (bodN l j).length ≤ 8 * j
  | 0 => by simp [bodN]
  | j + 1 => by
    rw [bodN_succ, List.length_append, leB_length]
    have := bodN_len l j
    have := szN_le j
    omega
theorem bodN_eight (l : List Nat) : (bodN l 8).length = 52 := by
  simp only [bodN_succ, List.length_append, leB_length, szN]
  simp [bodN]
def supB (s : Sup) : List UInt8 := if s.Ok then frmB 1 s.ser (bodN s.nums 8) else []
theorem supB_len {s : Sup} (h : s.Ok) : (supB s).length = 72 := by
  unfold supB; rw [if_pos h, frmB_length, bodN_eight]
def u64v (l : List Nat) : List Value := l.map fun (x : Nat) => Value.int .u64 (x : Int)
theorem u64v_get {l : List Nat} {j : Nat} (h : j < l.length) : (u64v l)[j]? = some (.int .u64 ((l.getD j 0 : Nat) : Int)) := by
  simp [u64v, List.getElem?_eq_getElem h, List.getD_eq_getElem?_getD]
/-- Between two numbers of a superblock's body. -/
def EncI (w : World) (g g5 : Nat) (sc : List Value) (l : List Nat) (j : Nat) (W : World) : Prop :=
  ∃ A n c, Blk W g5 [.slice A n c] 51 ∧ (bodN l j).length = n ∧ n ≤ c ∧ c ≤ 9223372036854775807 ∧ Rd W A (bys (bodN l j)) ∧ (∀ a, A = some a → g5 + 4 ≤ a.block) ∧ Blk W (g5 + 1) (u64v l) 73 ∧ Blk W g sc 25 ∧ Below g w W ∧ g5 + 4 ≤ W.heap.size
theorem size_putObj9 (W : World) (l : Nat) (o : Obj) : (W.putObj l o).heap.size = W.heap.size := by simp [World.putObj]
theorem blk_put9 {w : World} {g l : Nat} {vs : List Value} {T : TypeId} (h : Blk w g vs T) (hne : g ≠ l) (o : Obj) : Blk (w.putObj l o) g vs T := (World.putObj_heap_other hne).trans h
theorem grown_set9 (X : World) (g q : Nat) (u : Value) : X.grownBy (X.setCell ⟨g, q, none⟩ u) (some g) := ⟨rfl, rfl, rfl, by simp, fun k hk hne => Below.heap_setCell X ⟨g, q, none⟩ u k (fun e => hne (by rw [e]))⟩
theorem keeps9 {w w' : World} (h : Below w.heap.size w w') : KeepsOthers w w' := ⟨h.size, fun k o hk _ => (h.block k (Array.getElem?_eq_some_iff.1 hk).1).trans hk⟩
theorem EncI.put {w : World} {g g5 : Nat} {sc : List Value} {l : List Nat} {j : Nat} {W : World} (h : EncI w g g5 sc l j W) (hg : g < g5) (r : Loop) : EncI w g g5 sc l j (W.putObj (g5 + 3) (.loop r)) := by
  obtain ⟨A, n, c, h1, h2, h3, h4, h5, h6, h7, h8, h9, h10⟩ := h
  exact ⟨A, n, c, blk_put9 h1 (by omega) _, h2, h3, h4, h5.grown (grownBy_putObj' W _ _) (fun a ha e => by injection e with e; have := h6 a ha; omega), h6, blk_put9 h7 (by omega) _, blk_put9 h8 (by omega) _, h9.grown (grownBy_putObj' W _ _) (by omega) (fun k e => by injection e with e; omega), by rw [size_putObj9]; exact h10⟩
theorem enc_store {w : World} {g g5 : Nat} {sc : List Value} {l : List Nat} {j : Nat} {X X2 : World} {A : Option Addr} {n2 c2 : Nat} {v : Value} (hg : g < g5) (x5 : Blk X g5 [v] 51) (x6 : Blk X (g5 + 1) (u64v l) 73) (x8 : Blk X g sc 25) (x9 : Below g w X) (x10 : g5 + 4 ≤ X.heap.size)
    (hb : Below X.heap.size X X2) (hn : (bodN l (j + 1)).length = n2) (hnc : n2 ≤ c2) (hc : c2 ≤ 9223372036854775807) (hr : Rd X2 A (bys (bodN l (j + 1)))) (hA : ∀ a, A = some a → X.heap.size ≤ a.block) :
    EncI w g g5 sc l (j + 1) (X2.setCell ⟨g5, 0, none⟩ (.slice A n2 c2)) ∧ KeepsOthers X (X2.setCell ⟨g5, 0, none⟩ (.slice A n2 c2)) := by
  have hz := hb.size
  refine ⟨⟨A, n2, c2, (x5.below hb).set 0 _, hn, hnc, hc, hr.grown (grown_set9 _ _ _ _) (fun a ha e => by injection e with e; have := hA a ha; omega), fun a ha => by have := hA a ha; omega, (x6.below hb).apart (by omega) _ _, (x8.below hb).apart (by omega) _ _, ?_, by simp; omega⟩, ?_⟩
  · exact (x9.trans (hb.mono (by omega))).setCell (by show g ≤ g5; omega) _
  · exact (keeps9 hb).trans (KeepsOthers.setCell _ _ _)
set_option maxRecDepth 100000 in
set_option maxHeartbeats 3200000 in
theorem senc_any (s : Sup) (w : World) (hs : s.ser < 18446744073709551616) (hc : s.ch < 4294967296) (ht : Tab w) :
    Calls Tryz.prog 14 #[.agg s.cells.toArray] w fun e w' => ∃ v, e = .returned (.tuple #[v, .int .i64 s.E]) ∧ w'.ownsRow w.heap.size 5 1 v (supB s).length (bys (supB s)) ∧ Below w.heap.size w w' := by
  by_cases hok : s.Ok
  · have hE : s.E = 0 := if_pos hok
    have hB : supB s = frmB 1 s.ser (bodN s.nums 8) := if_pos hok
    have HCH := hide (fun W => schk_any s W)
    rw [hE] at HCH
    have hB8 := bodN_eight s.nums
    obtain ⟨ser, ep, vw, nm, tp, bs, ar, st, ch⟩ := s
    obtain ⟨⟨a1, a2⟩, ⟨b1, b2⟩, ⟨c1, c2⟩, ⟨d1, d2⟩, ⟨e1, e2⟩, f1, f2, g1, g2⟩ := hok
    simp only at a1 a2 b1 b2 c1 c2 d1 d2 e1 e2 f1 f2 g1 g2 hs hc
    obtain ⟨ep, rfl⟩ : ∃ n : Nat, ep = n := ⟨ep.toNat, by omega⟩
    obtain ⟨vw, rfl⟩ : ∃ n : Nat, vw = n := ⟨vw.toNat, by omega⟩
    obtain ⟨nm, rfl⟩ : ∃ n : Nat, nm = n := ⟨nm.toNat, by omega⟩
    obtain ⟨tp, rfl⟩ : ∃ n : Nat, tp = n := ⟨tp.toNat, by omega⟩
    obtain ⟨bs, rfl⟩ : ∃ n : Nat, bs = n := ⟨bs.toNat, by omega⟩
    obtain ⟨ar, rfl⟩ : ∃ n : Nat, ar = n := ⟨ar.toNat, by omega⟩
    obtain ⟨st, rfl⟩ : ∃ n : Nat, st = n := ⟨st.toNat, by omega⟩
    have hl : Sup.nums ⟨ser, (ep : Int), vw, nm, tp, bs, ar, st, ch⟩ = [ep, vw, nm, tp, bs, ar, st, ch] := rfl
    rw [hl] at hB hB8
    rw [hE, hB]
    obtain ⟨w0, hw0⟩ : ∃ y, w.alloc (.cells #[.int .u64 (ser : Int), .int .i64 (ep : Int), .int .i64 (vw : Int), .int .i64 (nm : Int), .int .i64 (tp : Int), .int .i64 (bs : Int), .int .i64 (ar : Int), .int .i64 (st : Int), .int .u32 (ch : Int)] 25) = y := ⟨_, rfl⟩
    obtain ⟨g, hg⟩ : ∃ g, w.heap.size = g := ⟨_, rfl⟩
    have hG : Blk w0 g [.int .u64 (ser : Int), .int .i64 (ep : Int), .int .i64 (vw : Int), .int .i64 (nm : Int), .int .i64 (tp : Int), .int .i64 (bs : Int), .int .i64 (ar : Int), .int .i64 (st : Int), .int .u32 (ch : Int)] 25 := by rw [← hw0, ← hg]; exact Blk.new w _ _
    have hb0 : Below g w w0 := by rw [← hw0, ← hg]; exact (Below.refl _ _).alloc (Nat.le_refl _) _
    have hz0 : w0.heap.size = g + 1 := by rw [← hw0, ← hg]; simp
    have y0 := Blk.cell hG (j := 0) rfl; have y1 := Blk.cell hG (j := 1) rfl; have y2 := Blk.cell hG (j := 2) rfl; have y3 := Blk.cell hG (j := 3) rfl; have y4 := Blk.cell hG (j := 4) rfl; have y5 := Blk.cell hG (j := 5) rfl; have y6 := Blk.cell hG (j := 6) rfl; have y7 := Blk.cell hG (j := 7) rfl; have y8 := Blk.cell hG (j := 8) rfl
    have Hw0 := hide hw0
    have Hg := hide hg
    have Hz0 := hide hz0
    have HB8 := hide hB8
    rw [hg]
    clear hE hB hl hw0 hg hz0 hB8
    refine (callsIn_wide (n := 8)).1 ?_
    refine callsIn_of_wp_marks Tryz.func14 rfl trivial ?_ rfl
    simp only [Tryz.ntmps14, List.size_toArray, List.length_cons, List.length_nil, Nat.reduceAdd, Nat.reduceSub, Array.replicate_succ, Array.replicate_zero, List.push_toArray, List.append_toArray, List.nil_append, List.cons_append]
    gi_wp2_with fail
    rw [Hw0.out, Hg.out]
    gi_wp2_with fail
    refine ⟨trivial, (callsIn_wide.2 (HCH.out w0)).mono ?_⟩
    rintro x w1 ⟨rfl, hb1⟩
    rw [Hz0.out] at hb1
    have hG1 := hG.below (by rw [Hz0.out]; exact hb1)
    clear y0 y1 y2 y3 y4 y5 y6 y7 y8
    have hzg : g + 1 ≤ w1.heap.size := by have := hb1.size; have := Hz0.out; omega
    have hG2 := hG1.alloc (.cells #[.slice none 0 0] 51)
    have y0 := Blk.cell hG2 (j := 0) rfl; have y1 := Blk.cell hG2 (j := 1) rfl; have y2 := Blk.cell hG2 (j := 2) rfl; have y3 := Blk.cell hG2 (j := 3) rfl; have y4 := Blk.cell hG2 (j := 4) rfl; have y5 := Blk.cell hG2 (j := 5) rfl; have y6 := Blk.cell hG2 (j := 6) rfl; have y7 := Blk.cell hG2 (j := 7) rfl; have y8 := Blk.cell hG2 (j := 8) rfl
    gi_wp2_with fail
    refine ⟨trivial, (callsIn_wide.2 (sizes_any _)).mono ?_⟩
    rintro x w3 ⟨rfl, rfl⟩
    obtain ⟨l, hl⟩ : ∃ y, [ep, vw, nm, tp, bs, ar, st, ch] = y := ⟨_, rfl⟩
    have hl8 : l.length = 8 := by rw [← hl]; rfl
    have hlf : ∀ j, j < 8 → l.getD j 0 < 256 ^ szN j ∧ l.getD j 0 < 18446744073709551616 := fun j hj => by
      rw [← hl]
      rcases (show j = 0 ∨ j = 1 ∨ j = 2 ∨ j = 3 ∨ j = 4 ∨ j = 5 ∨ j = 6 ∨ j = 7 by omega) with rfl | rfl | rfl | rfl | rfl | rfl | rfl | rfl <;> simp [szN] <;> omega
    have hlv : #[Value.int IntKind.u64 (ep : Int), .int .u64 (vw : Int), .int .u64 (nm : Int), .int .u64 (tp : Int), .int .u64 (bs : Int), .int .u64 (ar : Int), .int .u64 (st : Int), .int .u64 (ch : Int)] = (u64v l).toArray := by rw [← hl]; rfl
    rw [hl] at HB8
    have Hl := hide hl
    obtain ⟨sc, hsc⟩ : ∃ y : List Value, [.int .u64 (ser : Int), .int .i64 (ep : Int), .int .i64 (vw : Int), .int .i64 (nm : Int), .int .i64 (tp : Int), .int .i64 (bs : Int), .int .i64 (ar : Int), .int .i64 (st : Int), .int .u32 (ch : Int)] = y := ⟨_, rfl⟩
    have hsc0 : sc[0]? = some (.int .u64 (ser : Int)) := by rw [← hsc]; rfl
    rw [hsc] at hG1 hG2
    obtain ⟨g5, hg5⟩ : ∃ y, w1.heap.size = y := ⟨_, rfl⟩
    obtain ⟨W0, hW0⟩ : ∃ y, (w1.alloc (.cells #[.slice none 0 0] 51)).alloc (.cells (u64v l).toArray 73) = y := ⟨_, rfl⟩
    have hsz : W0.heap.size = g5 + 2 := by rw [← hW0, ← hg5]; simp
    have hbW : Below w1.heap.size w1 W0 := by rw [← hW0]; exact ((Below.refl _ _).alloc (Nat.le_refl _) _).alloc (by simp) _
    have hgW : Below g w W0 := (hb0.trans (hb1.mono (by omega))).trans (hbW.mono (by omega))
    have q5 : Blk W0 g5 [.slice none 0 0] 51 := by rw [← hW0, ← hg5]; exact (Blk.new w1 [.slice none 0 0] 51).alloc _
    have q6 : Blk W0 (g5 + 1) (u64v l) 73 := by
      rw [← hW0, ← hg5]
      have := Blk.new (w1.alloc (.cells #[.slice none 0 0] 51)) (u64v l) 73
      rwa [World.size_alloc] at this
    have q8 := hG1.below hbW
    have hgg : g < g5 := by omega
    have Hlv := hide hlv
    have HW0 := hide hW0
    have Hg5 := hide hg5
    have Hlf := hide hlf
    have Hl8 := hide hl8
    have Hsc0 := hide hsc0
    clear y0 y1 y2 y3 y4 y5 y6 y7 y8 hG hG1 hG2 hlv hW0 hg5 hlf hl8 hl hsc hsc0 hb0 hb1 hbW HCH
    gi_wp2_with fail
    rw [Hlv.out, HW0.out, Hg5.out]
    refine range_own 8 (by omega) (lb := #[]) (by simp [Act.eval]) (enters_of Tryz.func50 (by kernel_rfl) rfl) encZ9 (fun _ => rfl) (fun j => j < 8)
      (fun j W => EncI w g g5 sc l j W ∧ j ≤ 8) (fun j W => EncI w g g5 sc l (j + 1) W ∧ j < 8) (fun _ _ => False) ?i0 ?ip ?mp (fun _ _ _ _ h => h) ?it ?round ?done (fun _ _ h => h.elim)
    case i0 =>
      intro r
      have hb2 : Below W0.heap.size W0 ((W0.alloc (.deferred (some []))).alloc (.loop r)) := ((Below.refl _ _).alloc (Nat.le_refl _) _).alloc (by simp) _
      exact ⟨⟨none, 0, 0, q5.below hb2, rfl, by omega, by omega, Rd.nil, (fun a ha => (by cases ha)), q6.below hb2, q8.below hb2, hgW.trans (hb2.mono (by omega)), by simp; omega⟩, by omega⟩
    case ip => intro j W r hW h; rw [hsz]; exact ⟨h.1.put hgg r, h.2⟩
    case mp => intro j W r hW h; rw [hsz]; exact ⟨h.1.put hgg r, h.2⟩
    case it => exact sizes_iter (8 - 1) (by omega) _ _ _ (fun j W h => ⟨h.1, by omega⟩)
    case round =>
      intro j W hU hj hlW
      obtain ⟨hU, _⟩ := hU
      obtain ⟨f1, f2⟩ := Hlf.out j hj
      obtain ⟨z1, z2⟩ := szN_le j
      have hbs := bodN_succ l j
      have hbl := bodN_len l (j + 1)
      have hbl0 := bodN_len l j
      obtain ⟨v, hv⟩ : ∃ y, l.getD j 0 = y := ⟨_, rfl⟩
      have hgt := u64v_get (l := l) (j := j) (by rw [Hl8.out]; exact hj)
      rw [hv] at f1 f2 hbs hgt
      unfold encZ9
      obtain ⟨zz, hzz⟩ : ∃ y, szN j = y := ⟨_, rfl⟩
      rw [hzz] at f1 z1 z2 hbs ⊢
      have Hbs := hide hbs
      clear hv hzz hbs
      gi_wp2
      refine ⟨KeepsOthers.refl _, fun r' => ?_⟩
      rw [hsz]
      have hX := hU.put hgg r'
      obtain ⟨X, hXX⟩ : ∃ x, W.putObj (g5 + 2 + 1) (.loop r') = x := ⟨_, rfl⟩
      rw [show g5 + 2 + 1 = g5 + 3 from rfl] at hXX ⊢
      rw [hXX] at hX ⊢
      obtain ⟨A, n, c, x1, x2, x3, x4, x5, x6, x7, x8, x9, x10⟩ := hX
      have x1c := x1.cell (j := 0) rfl
      have x7c := x7.cell hgt
      have hbd : Below X.heap.size X X.drew := (Below.refl _ _).drew
      have HP := put_any A n c (bodN l j) v (zz : Int) X.drew x2 (by omega) (x5.below hbd) f2
      rw [fits_zero z1 z2 f1, put_zero z1 z2 f1, ← Hbs.out] at HP
      have HP := hide HP
      have Hl2 : ∃ y, (bodN l (j + 1)).length = y := ⟨_, rfl⟩
      obtain ⟨n2, hn2⟩ := Hl2
      have Hn2 := hide hn2
      rw [hn2] at HP
      clear hU hXX hgt f1 f2 hn2
      gi_wp2_with fail
      refine round_any (by kernel_rfl) (by kernel_rfl) (by rintro ⟨_, _, h⟩; exact h) ?_
      refine wpAny_take (fuel := 9) (i := 1) (v := .int .i64 (j : Int)) rfl (by kernel_rfl) (by kernel_rfl) (by kernel_rfl) (fun _ _ _ h => h) (Or.inl ⟨by rfl, fun Z => ?_⟩) ?_
      · go_simp
      refine wpAny_take (fuel := 8) (i := 4) (v := .int .i64 (zz : Int)) rfl (by kernel_rfl) (by kernel_rfl) (by kernel_rfl) (fun _ _ _ h => h) (Or.inl ⟨by rfl, fun Z => ?_⟩) ?_
      · go_simp
      refine wpAny_take (fuel := 7) (i := 2) (v := .pointer (some ⟨g5 + 1, j, none⟩)) rfl (by kernel_rfl) (by kernel_rfl) (by kernel_rfl) (fun _ _ _ h => h) (Or.inl ⟨by rfl, fun Z => ?_⟩) ?_
      · go_simp
        intro h
        exfalso
        omega
      refine any_two (fuel := 6) (i := 0) (j := 3) (by kernel_rfl) rfl rfl rfl rfl (fun K hK => ?_) (fun K hK => ?_)
      · go_simp
        refine hK _ _ ?_
        clear hK K
        refine any_one (fuel := 5) (i := 3) (by kernel_rfl) rfl rfl (fun K hK => ?_)
        go_simp
        refine hK _ _ ?_
        clear hK K
        refine any_one (fuel := 4) (i := 5) (by kernel_rfl) rfl rfl (fun K hK => ?_)
        go_simp
        refine HP.out.mono ?_
        rintro e X2 ⟨u, rfl, hO2, hb2⟩
        obtain ⟨A2, c2, rfl, _, hc2, hcm2, hr2, ha2⟩ := own_out hO2
        have hb2' : Below X.heap.size X X2 := (Below.refl _ X).drew.trans hb2
        have HS := hide (enc_store hgg x1 x7 x8 x9 x10 hb2' Hn2.out hc2 (by unfold maxLen at hcm2; omega) hr2 (fun a ha => (ha2 a ha).1))
        have c5 := (x1.below hb2').cell (j := 0) rfl
        have f5 := (x1.below hb2').frozen 0
        clear hO2 hr2 ha2 hb2
        refine hK _ _ ?_
        clear hK K
        refine wpAny_take (fuel := 3) (i := 6) (v := .tuple #[.slice A2 n2 c2, .int .i64 0]) rfl (by kernel_rfl) (by kernel_rfl) (by kernel_rfl) (fun _ _ _ h => h) (Or.inl ⟨by rfl, fun Z => ?_⟩) ?_
        · go_simp
        refine wpAny_take (fuel := 2) (i := 7) (v := .slice A2 n2 c2) rfl (by kernel_rfl) (by kernel_rfl) (by kernel_rfl) (fun _ _ _ h => h) (Or.inl ⟨by rfl, fun Z => ?_⟩) ?_
        · go_simp
        refine wpAny_take (fuel := 1) (i := 8) (v := .int .i64 0) rfl (by kernel_rfl) (by kernel_rfl) (by kernel_rfl) (fun _ _ _ h => h) (Or.inl ⟨by rfl, fun Z => ?_⟩) ?_
        · go_simp
        refine any_one (fuel := 0) (i := 9) (by kernel_rfl) rfl rfl (fun K hK => ?_)
        go_simp
        refine hK _ _ ?_
        clear hK K
        refine ⟨by kernel_rfl, ?_⟩
        exact ⟨HS.out.2, HS.out.1, hj⟩
      · go_simp
        refine hK _ _ ?_
        clear hK K
        refine any_one (fuel := 5) (i := 0) (by kernel_rfl) rfl rfl (fun K hK => ?_)
        go_simp
        refine hK _ _ ?_
        clear hK K
        refine any_one (fuel := 4) (i := 5) (by kernel_rfl) rfl rfl (fun K hK => ?_)
        go_simp
        refine HP.out.mono ?_
        rintro e X2 ⟨u, rfl, hO2, hb2⟩
        obtain ⟨A2, c2, rfl, _, hc2, hcm2, hr2, ha2⟩ := own_out hO2
        have hb2' : Below X.heap.size X X2 := (Below.refl _ X).drew.trans hb2
        have HS := hide (enc_store hgg x1 x7 x8 x9 x10 hb2' Hn2.out hc2 (by unfold maxLen at hcm2; omega) hr2 (fun a ha => (ha2 a ha).1))
        have c5 := (x1.below hb2').cell (j := 0) rfl
        have f5 := (x1.below hb2').frozen 0
        clear hO2 hr2 ha2 hb2
        refine hK _ _ ?_
        clear hK K
        refine wpAny_take (fuel := 3) (i := 6) (v := .tuple #[.slice A2 n2 c2, .int .i64 0]) rfl (by kernel_rfl) (by kernel_rfl) (by kernel_rfl) (fun _ _ _ h => h) (Or.inl ⟨by rfl, fun Z => ?_⟩) ?_
        · go_simp
        refine wpAny_take (fuel := 2) (i := 7) (v := .slice A2 n2 c2) rfl (by kernel_rfl) (by kernel_rfl) (by kernel_rfl) (fun _ _ _ h => h) (Or.inl ⟨by rfl, fun Z => ?_⟩) ?_
        · go_simp
        refine wpAny_take (fuel := 1) (i := 8) (v := .int .i64 0) rfl (by kernel_rfl) (by kernel_rfl) (by kernel_rfl) (fun _ _ _ h => h) (Or.inl ⟨by rfl, fun Z => ?_⟩) ?_
        · go_simp
        refine any_one (fuel := 0) (i := 9) (by kernel_rfl) rfl rfl (fun K hK => ?_)
        go_simp
        refine hK _ _ ?_
        clear hK K
        refine ⟨by kernel_rfl, ?_⟩
        exact ⟨HS.out.2, HS.out.1, hj⟩
    case done =>
      intro j W hU hnm hDq
      obtain ⟨⟨A, n, c, x1, x2, x3, x4, x5, x6, x7, x8, x9, x10⟩, hj8⟩ := hU
      rw [hsz] at hDq ⊢
      obtain rfl : j = 8 := by omega
      rw [HB8.out] at x2
      subst x2
      have x1c := x1.cell (j := 0) rfl
      have x8c := x8.cell Hsc0.out
      have htW : Tab W := Rd.below ht (by rw [Hg.out]; exact x9)
      have HW := hide (fwrite_any 1 ser A 52 c (bodN l 8) W HB8.out (by omega) x3 x4 x5 (by omega) hs htW)
      have Hm := hide (show MarksAt (g5 + 2) W [g5 + 2] from ⟨by simp, fun k hk => by simp at hk; subst hk; exact ⟨Nat.le_refl _, hDq⟩⟩)
      clear hDq x5 x6 x1 x7 x8
      gi_wp2_with fail
      refine ⟨trivial, (callsIn_wide.2 HW.out).mono ?_⟩
      rintro e W2 ⟨v, rfl, hO, hb2⟩
      obtain ⟨A2, c2, rfl, _⟩ := own_out hO
      have HO := hide hO
      have hbw := x9.trans (hb2.mono (by omega))
      have Hm2 := hide (Hm.out.keep (keeps9 hb2))
      have hz2 := hb2.size
      clear hO hb2
      gi_wp2
      refine leaves_marks (B := g5 + 2) [g5 + 2] _ Hm2.out ?_
      intro W' hca hbl
      refine ⟨_, results_tmp2 rfl _ _ _, _, rfl, ?_, ?_⟩
      · rw [Hl.out]
        have h := HO.out
        rw [frmB_length, HB8.out]
        refine ⟨h.1, ?_⟩
        rcases h.2 with h2 | ⟨g', cap, cur, e1, hbg, hg', r⟩
        · exact .inl h2
        · exact .inr ⟨g', cap, cur, e1, by omega, hca _ _ rfl hg', r⟩
      · exact hbw.trans (hbl.mono (by omega))
  · have hE : s.E = 90 := if_neg hok
    have hB : supB s = [] := if_neg hok
    have HCH := hide (fun W => schk_any s W)
    rw [hE] at HCH
    rw [hE, hB]
    obtain ⟨ser, ep, vw, nm, tp, bs, ar, st, ch⟩ := s
    obtain ⟨w0, hw0⟩ : ∃ y, w.alloc (.cells #[.int .u64 (ser : Int), .int .i64 ep, .int .i64 vw, .int .i64 nm, .int .i64 tp, .int .i64 bs, .int .i64 ar, .int .i64 st, .int .u32 (ch : Int)] 25) = y := ⟨_, rfl⟩
    obtain ⟨g, hg⟩ : ∃ g, w.heap.size = g := ⟨_, rfl⟩
    have hG : Blk w0 g [.int .u64 (ser : Int), .int .i64 ep, .int .i64 vw, .int .i64 nm, .int .i64 tp, .int .i64 bs, .int .i64 ar, .int .i64 st, .int .u32 (ch : Int)] 25 := by rw [← hw0, ← hg]; exact Blk.new w _ _
    have hb0 : Below w.heap.size w w0 := by rw [← hw0]; exact (Below.refl _ _).alloc (Nat.le_refl _) _
    have y0 := Blk.cell hG (j := 0) rfl; have y1 := Blk.cell hG (j := 1) rfl; have y2 := Blk.cell hG (j := 2) rfl; have y3 := Blk.cell hG (j := 3) rfl; have y4 := Blk.cell hG (j := 4) rfl; have y5 := Blk.cell hG (j := 5) rfl; have y6 := Blk.cell hG (j := 6) rfl; have y7 := Blk.cell hG (j := 7) rfl; have y8 := Blk.cell hG (j := 8) rfl
    have Hw0 := hide hw0
    have Hg := hide hg
    clear hok hE hB hw0 hg
    go_enter Tryz.func14, Tryz.ntmps14
    go_wp2_with fail
    rw [Hw0.out, Hg.out]
    go_wp2_with fail
    go_fit (HCH.out w0)
    rintro x w1 ⟨rfl, hb1⟩
    go_wp2
    refine bodyPost_ret (results_tmp2 rfl _ _ _) rfl ?_
    exact ⟨_, rfl, World.ownsRow_nil _ _ _ _, hb0.trans (hb1.mono hb0.size)⟩
end Go.Proofs.YtoaodmidegkolaaGreatDoor
