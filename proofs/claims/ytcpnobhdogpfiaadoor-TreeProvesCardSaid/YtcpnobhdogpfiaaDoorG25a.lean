/- Proofs: the document's Prove where the place exists. -/
import Derived.Test.YtcpnobhdogpfiaaDoorF25z
import Derived.Deep.DeepFit
import Derived.Deep.RegionHeld
namespace Go.Proofs.YtcpnobhdogpfiaaDoor
set_option maxRecDepth 20000
open Go.RowKit Go.Px Go.Shelf
set_option linter.unusedVariables false
attribute [local go_sem] Oper.semAt_some
theorem provD_length : ∀ (ls : List (List Nat)) (i : Nat), ls ≠ [] → (provD ls i).length + 1 = ls.length
  | [], _, h => absurd rfl h
  | [_], _, _ => rfl
  | _ :: b :: r, i, _ => by
    have := provD_length (b :: r) (i / 4) (by simp)
    show (provD (b :: r) (i / 4)).length + 1 + 1 = (b :: r).length + 1
    omega
theorem prI_next1 {W0 X X2 X4 : World} {b7 base k c5 c6 : Nat} {i : Int} {rows : List (List Nat)} {pp : List Nat} {q : Nat} (hq : rows.length = q) {v : Value} {cs : List Value} {A5 A6 : Option Addr} (hbase : base ≤ X.heap.size) (h7 : b7 < base)
    (x7 : Blk X b7 [.int .i64 i, v] 58) (y2 : X.ownsRow base 25 1 v q cs) (y3 : tyRow32.Rows X (fun k => base ≤ k ∧ some k ≠ v.ownBlock) rows cs)
    (yF : Fr (fun b => b = b7) W0 X) (hX2 : Below X.heap.size X X2) (hl : pp.length = k) (hc5 : k ≤ c5) (hc63 : c5 ≤ 9223372036854775807) (hr5 : Rd X2 A5 (u32s pp)) (ha5 : ∀ a, A5 = some a → X.heap.size ≤ a.block ∧ a.block < X2.heap.size) (hpb : ∀ y ∈ pp, y < 4294967296)
    (ho6 : X4.ownsRow base 25 1 (.slice A6 (q + 1) c6) (q + 1) (cs ++ [.slice A5 k c5])) (hg6 : (X2.alloc (.cells #[.slice A5 k c5] 25)).grownBy X4 v.ownBlock)
    (hv6 : (Value.slice A6 (q + 1) c6).ownBlock = v.ownBlock ∨ (Value.slice A6 (q + 1) c6).ownBlock = some (X2.alloc (.cells #[.slice A5 k c5] 25)).heap.size) (hWX : ∀ g, base ≤ g → W0.heap.size ≤ g) :
    PrI b7 base i (rows ++ [pp]) (X4.setCell ⟨b7, 1, none⟩ (.slice A6 (q + 1) c6)) ∧
      Fr (fun b => b = b7) W0 (X4.setCell ⟨b7, 1, none⟩ (.slice A6 (q + 1) c6)) ∧ base ≤ (X4.setCell ⟨b7, 1, none⟩ (.slice A6 (q + 1) c6)).heap.size := by
  subst hq
  have hlo := ownRow_lt y2
  have hlo6 := ownRow_lt ho6
  have hnb : Below X.heap.size X (X2.alloc (.cells #[.slice A5 k c5] 25)) := hX2.alloc hX2.size _
  have zn : (X2.alloc (.cells #[.slice A5 k c5] 25)).heap.size = X2.heap.size + 1 := World.size_alloc _ _
  have zX := hX2.size
  have z4 := hg6.size
  rw [zn] at hv6 z4
  have fA : Fr (fun b => some b = v.ownBlock) X X4 := (Fr.of_below hnb).trans (Fr.of_grown hg6 (fun k e => e.symm))
  have fS : Fr (fun b => b = b7) X4 (X4.setCell ⟨b7, 1, none⟩ (.slice A6 (rows.length + 1) c6)) := Fr.set _ _ _ rfl
  have hv6' : ∀ b, b < X2.heap.size → some b ≠ v.ownBlock → some b ≠ (Value.slice A6 (rows.length + 1) c6).ownBlock := fun b hb hne e => by
    rcases hv6 with h | h
    · exact hne (e.trans h)
    · have := e.trans h; injection this with this; omega
  have n7 : some b7 ≠ v.ownBlock := fun e => by have := (hlo _ e.symm).1; omega
  have hA5 : ∀ a, A5 = some a → some a.block ≠ v.ownBlock := fun a ha e => by have := (hlo _ e.symm).2; have := (ha5 a ha).1; omega
  have hrf : Rd (X4.setCell ⟨b7, 1, none⟩ (.slice A6 (rows.length + 1) c6)) A5 (u32s pp) :=
    (((hr5.alloc _).grown hg6 hA5)).fr fS (fun _ a ha hx => by have := (ha5 a ha).1; have : a.block = b7 := hx; omega)
  have hRh : tyRow32.Rows X (fun b => (base ≤ b ∧ some b ≠ v.ownBlock) ∧ b < X.heap.size) rows cs := ⟨y3.1, fun i x hx => (y3.2 i x hx).here⟩
  have hRf := (hRh.fr fA (fun b hb hx => hb.1.2 hx)).fr fS (fun b hb (hx : b = b7) => by have := hb.1.1; omega)
  refine ⟨⟨_, cs ++ [.slice A5 k c5], (x7.fr fA n7).set 1 _, ?_, ?_⟩, ?_, by simp; omega⟩
  · rw [List.length_append, List.length_singleton]
    exact ownRow_fr ho6 fS (fun g hg (hx : g = b7) => by have := (hlo6 g hg).1; omega)
  · refine (hRf.mono (fun b hb => ⟨hb.1.1, hv6' b (by have := hb.2; omega) hb.1.2⟩)).snoc (row32_mk hl hc5 hc63 hrf (fun _ a ha => ⟨?_, hv6' _ (ha5 a ha).2 (hA5 a ha)⟩) hpb)
    have := (ha5 a ha).1; omega
  · exact (yF.trans' fA (fun b hb => .inr (hWX b (hlo b hb.symm).1))).trans' fS (fun b hb => .inl hb)
set_option maxRecDepth 100000 in
set_option maxHeartbeats 6400000 in
theorem rprove_yes (A : Option Addr) (n c : Nat) (l : List Nat) (i : Nat) (w : World) {Q : Nat → Prop} (hT : tyTree.Is w Q (treeD l) [.slice A n c]) (hl : l.length ≤ 4096) (hi : i < l.length) (hok : okT (treeD l) = true) :
    Calls Tryd.prog 34 #[.agg #[.slice A n c], .int .i64 i] w fun e w' => ∃ B K C, e = .returned (.tuple #[.agg #[.int .i64 i, .slice B K C], .int .i64 0]) ∧ tyProof.Is w' (fun b => w.heap.size ≤ b) ((i : Int), provD (treeD l) i) [.int .i64 i, .slice B K C] ∧ Below w.heap.size w w' := by
  obtain ⟨N, hN⟩ : ∃ N, l.length = N := ⟨_, rfl⟩
  rw [hN] at hl hi
  have HN := hide hN
  clear hN
  obtain ⟨w0, hw0⟩ : ∃ x, (w.alloc (.cells #[.slice A n c] 29)).alloc (.cells #[.int .i64 0, .slice none 0 0] 58) = x := ⟨_, rfl⟩
  have hb0 : Below w.heap.size w w0 := by rw [← hw0]; exact ((Below.refl _ _).alloc (Nat.le_refl _) _).alloc (by simp) _
  have zw0 : w0.heap.size = w.heap.size + 2 := by rw [← hw0]; simp
  have B1 : Blk w0 w.heap.size [.slice A n c] 29 := by rw [← hw0]; exact (Blk.new w [.slice A n c] 29).alloc _
  have B2 : Blk w0 (w.heap.size + 1) [.int .i64 0, .slice none 0 0] 58 := by
    rw [← hw0]
    have := Blk.new (w.alloc (.cells #[.slice A n c] 29)) [.int .i64 0, .slice none 0 0] 58
    rwa [World.size_alloc] at this
  have HC := hide (rcheck_any A n c (treeD l) w0 (hT.below hb0))
  rw [show ckE (treeD l) = 0 by unfold ckE; rw [hok]; rfl] at HC
  have HT0 := hide ((hT.below hb0).low)
  have Hw0 := hide hw0
  clear hw0 hT hok
  go_enter Tryd.func34, Tryd.ntmps34
  go_wp2_with fail
  rw [Hw0.out]
  go_fit HC.out
  rintro e w1 ⟨rfl, hb1⟩
  have hT1 := HT0.out.below hb1
  have z1 := hb1.size
  have C2 := B1.below hb1
  have C4 := B2.below hb1
  obtain ⟨r0, hr0⟩ := lvD_head 6 l
  obtain ⟨p, pA, pn, pc, pv, rfl, hpe, hl1, hc1, hm1, hr1, hq1, he1⟩ := Tree_out hT1
  simp only [List.cons.injEq, Value.slice.injEq, and_true] at hpe
  obtain ⟨rfl, rfl, rfl⟩ := hpe
  have hp0 : 0 < (treeD l).length := by unfold treeD; rw [hr0]; simp
  have hn1 : 0 < n := by rw [← hl1]; exact hp0
  obtain ⟨B, m, hv0, _, _, _, _, _⟩ := rows32_at he1 (k := 0) hp0
  rw [show (treeD l)[0].length = N from by unfold treeD; simp only [hr0, List.getElem_cons_zero]; exact HN.out] at hv0
  obtain ⟨a, rfl, hc⟩ := hr1 0 _ hv0
  rw [show a.add 0 = a from rfl] at hc
  have d2 := C2.cell (j := 0) rfl
  have hpn : (provD (treeD l) i).length + 1 = n := by rw [← hl1]; exact provD_length _ _ (fun e => by rw [e] at hp0; simp at hp0)
  have q0 : decide ((i : Int) < 0) = false := decide_eq_false (by omega)
  have q1 : decide ((N : Int) ≤ (i : Int)) = false := decide_eq_false (by omega)
  obtain ⟨W0, hW0⟩ : ∃ x, w1.alloc (.cells #[.int .i64 (i : Int), .slice none 0 0] 58) = x := ⟨_, rfl⟩
  have hb3 : Below w1.heap.size w1 W0 := by rw [← hW0]; exact (Below.refl _ _).alloc (Nat.le_refl _) _
  have B7 : Blk W0 w1.heap.size [.int .i64 (i : Int), .slice none 0 0] 58 := by rw [← hW0]; exact Blk.new w1 [.int .i64 (i : Int), .slice none 0 0] _
  have z3 : W0.heap.size = w1.heap.size + 1 := by rw [← hW0]; simp
  have E2 := C2.below hb3
  have E4 := C4.below hb3
  have HT5 := hide (hT1.below hb3)
  have HbW := hide (hb0.trans ((hb1.trans (hb3.mono hb1.size)).mono hb0.size))
  have HW0 := hide hW0
  have Hr0 := hide hr0
  clear hW0 hT1 hr1 he1 hv0 hr0 C2 C4 HC B1 B2 hq1
  obtain ⟨ps, hps⟩ : ∃ ps, provD (treeD l) i = ps := ⟨_, rfl⟩
  rw [hps] at hpn
  go_wp2_with fail
  rw [HW0.out]
  obtain ⟨b7, hb7⟩ : ∃ x, w1.heap.size = x := ⟨_, rfl⟩
  rw [hb7] at B7 z3 z1 ⊢
  clear d2 hc q0 q1
  go_loopw [1, 7] (fun s1 s7 W => ∃ k : Nat, s1 = .int .i64 ((itI k i : Nat) : Int) ∧ s7 = .int .i64 (k : Int) ∧ W0.heap.size ≤ W.heap.size ∧ PrI b7 W0.heap.size (i : Int) (ps.take k) W ∧ Fr (fun b => b = b7) W0 W ∧ (k ≤ ps.length ∧ ∀ m, m < k → 1 < itN m N)) (fun _ s7 _ => n - (intOf s7).toNat)
  case atStart =>
    exact ⟨0, rfl, rfl, Nat.le_refl _, ⟨_, [], B7, World.ownsRow_nil _ _ _ _, Ty.Rows.nil⟩, Fr.of_below (Below.refl _ _), Nat.zero_le _, fun m hm => by omega⟩
  case round =>
    obtain ⟨j, rfl, rfl, hzX, hPr, hF, hjp, hks⟩ := hrel
    obtain ⟨v, cs, p1, p2, p3⟩ := hPr
    have e2W := E2.fr hF (by omega)
    have d2 := e2W.cell (j := 0) rfl
    by_cases hj : j < ps.length
    · have hm : 1 < itN j N := by
        rcases Nat.lt_or_ge 1 (itN j N) with h | h
        · exact h
        · have := provD_len j 6 l i (by rw [HN.out]; exact Nat.le_trans hl (by decide)) (fun k hk => by rw [HN.out]; exact hks k hk) (by rw [HN.out]; omega)
          rw [show provD (lvD 6 l) i = ps from hps] at this
          omega
      obtain ⟨r, hr, hrl, hpj⟩ := provD_at j 6 l i (by rw [HN.out]; exact Nat.le_trans hl (by decide)) (fun k hk => by
        rw [HN.out]
        rcases Nat.lt_or_ge k j with h | h
        · exact hks k h
        · rw [show k = j by omega]; exact hm)
      rw [HN.out] at hrl
      have hps1 := provD_take hpj
      rw [show provD (lvD 6 l) i = ps from hps] at hps1
      have hj6 := itN_small j N hl hks
      have hTW := HT5.out.fr hF (fun b hb hx => by omega)
      obtain ⟨p, pA, pn, pc, pv, rfl, hpe, hl1', hc1', hm1', hr1, hq1, he1⟩ := Tree_out hTW
      simp only [List.cons.injEq, Value.slice.injEq, and_true] at hpe
      obtain ⟨rfl, rfl, rfl⟩ := hpe
      obtain ⟨hjl, hje⟩ := List.getElem?_eq_some_iff.1 hr
      obtain ⟨Aj, cj, hvj, hcj, hcj63, hrj, hqj, hbj⟩ := rows32_at he1 (k := j) (show j < (treeD l).length from hjl)
      rw [show (treeD l)[j]'(show j < (treeD l).length from hjl) = r from hje] at hvj hcj hrj hbj hqj
      rw [hrl] at hvj hcj
      have hcell := hr1.at_ hvj
      have hab : a.block < w0.heap.size := hq1 (fun e => by rw [e] at hl1; simp at hl1; omega) a rfl
      have hil := itI_lt j hi
      have hjn : j < n := by omega
      have HIT := hide (show Value.int .i64 (((itI j i : Nat) : Int) / 4) = .int .i64 ((itI (j + 1) i : Nat) : Int) from by rw [show itI (j + 1) i = itI j i / 4 from rfl]; congr 1)
      have HKS := hide (show j + 1 ≤ ps.length ∧ ∀ m, m < j + 1 → 1 < itN m N from ⟨hj, fun m hm' => by
        rcases Nat.lt_or_ge m j with h | h
        · exact hks m h
        · rw [show m = j by omega]; exact hm⟩)
      obtain ⟨x, hx⟩ : ∃ x, itN j N = x := ⟨_, rfl⟩
      obtain ⟨ii, hii⟩ : ∃ y, itI j i = y := ⟨_, rfl⟩
      rw [hx] at hrl hm hil hvj hcj hcell
      rw [hii] at hil hpj hps1 HIT ⊢
      have hbp : ∀ y ∈ pieceD r (ii / 4), y < 4294967296 := fun y hy => hbj y (mem_piece hy)
      have hx4 : x ≤ 4096 := by rw [← hx]; exact Nat.le_trans (itN_le j (by omega)).1 hl
      have HRW := fun (X : World) (hrX : Rd X Aj (u32s r)) => rrow_piece Aj x cj r ii X hrl (by omega) hcj hcj63 hil hrX
      obtain ⟨pp, hpp⟩ : ∃ q, pieceD r (ii / 4) = q := ⟨_, rfl⟩
      rw [hpp] at hbp hps1 HRW
      have hpb := hbp
      obtain ⟨K5, hK5⟩ : ∃ K5, pp.length = K5 := ⟨_, rfl⟩
      rw [hK5] at HRW
      have Hpl := hide hK5
      have hK54 : K5 ≤ 4 := by rw [← hK5, ← hpp, pieceD_length]; omega
      have hlen : (ps.take j).length = j := by rw [List.length_take]; omega
      have hlo := ownRow_lt p2
      obtain ⟨Av, cv, rfl, _, hcv, hcmv, _, _⟩ := own_out p2
      have Hps1 := hide hps1
      have HRJ := hide hrj
      clear hps1 hx hii hpp hpj hrj hje hr hrl hbj he1 hr1 hTW hl1' hvj hq1 hqj
      obtain ⟨X, rfl⟩ : ∃ X, X = wr := ⟨_, rfl⟩
      have x7 := p1
      have y2 := p2
      have y3 := p3
      have yF := hF
      have hS : ∀ (Y : Nat → Prop) (Z : World), Fr Y X Z → ¬ Y w.heap.size → ¬ Y a.block → (Z.cell? ⟨w.heap.size, 0, none⟩ = some (.slice (some a) n c) ∧ Z.cell? (a.add j) = some (.slice Aj x cj)) := fun Y Z hz h1 h2 =>
        ⟨(e2W.fr hz h1).cell (j := 0) rfl, hz.cell hcell (by rw [add_block]; exact h2)⟩
      have HS := hide hS
      have hS0 := hS (fun _ => False) X.drew (Fr.of_below (Below.refl _ X).drew) (fun h => h) (fun h => h)
      have HCL := hide (HRW X.drew HRJ.out.drew)
      have x7c := x7.cell (j := 1) rfl
      have hlv := hlen
      rw [hlen] at x7c x7 y2 hlo y3
      have hjn1 : j + 1 < n := by omega
      have q2 : decide ((j : Int) < (n : Int) - 1) = true := decide_eq_true (by omega)
      clear hS e2W hcell p1 p2 p3 hF HRW HRJ
      go_wp2_with fail
      refine wp_region_held_drew (S := fun Z => Z.cell? ⟨w.heap.size, 0, none⟩ = some (.slice (some a) n c) ∧ Z.cell? (a.add j) = some (.slice Aj x cj)) (by kernel_rfl) hS0 (fun _ => ?_)
      refine wpAnyH_take (fuel := 12) (i := 0) (v := .pointer (some ⟨b7, 1, none⟩)) rfl (by kernel_rfl) (by kernel_rfl) (by kernel_rfl) (fun _ _ _ h => h) (Or.inl ⟨by rfl, fun Z hZ => ?_⟩) hS0 ?_
      · obtain ⟨z1, z2⟩ := hZ
        go_simp
      refine wpAnyH_take (i := 2) (v := .pointer (some ⟨w.heap.size, 0, none⟩)) rfl (by kernel_rfl) (by kernel_rfl) (by kernel_rfl) (fun _ _ _ h => h) (Or.inl ⟨by rfl, fun Z hZ => ?_⟩) hS0 ?_
      · obtain ⟨z1, z2⟩ := hZ
        go_simp
      refine wpAnyH_take (i := 3) (v := .slice (some a) n c) rfl (by kernel_rfl) (by kernel_rfl) (by kernel_rfl) (fun _ _ _ h => h) (Or.inl ⟨by rfl, fun Z hZ => ?_⟩) hS0 ?_
      · obtain ⟨z1, z2⟩ := hZ
        go_simp
      refine wpAnyH_take (i := 4) (v := .int .i64 (j : Int)) rfl (by kernel_rfl) (by kernel_rfl) (by kernel_rfl) (fun _ _ _ h => h) (Or.inl ⟨by rfl, fun Z hZ => ?_⟩) hS0 ?_
      · obtain ⟨z1, z2⟩ := hZ
        go_simp
      refine wpAnyH_take (i := 5) (v := .pointer (some (a.add j))) rfl (by kernel_rfl) (by kernel_rfl) (by kernel_rfl) (fun _ _ _ h => h) (Or.inl ⟨by rfl, fun Z hZ => ?_⟩) hS0 ?_
      · obtain ⟨z1, z2⟩ := hZ
        go_simp
      refine wpAnyH_take (i := 6) (v := .slice Aj x cj) rfl (by kernel_rfl) (by kernel_rfl) (by kernel_rfl) (fun _ _ _ h => h) (Or.inl ⟨by rfl, fun Z hZ => ?_⟩) hS0 ?_
      · obtain ⟨z1, z2⟩ := hZ
        go_simp
      refine wpAnyH_take (i := 7) (v := .int .i64 (ii : Int)) rfl (by kernel_rfl) (by kernel_rfl) (by kernel_rfl) (fun _ _ _ h => h) (Or.inl ⟨by rfl, fun Z hZ => ?_⟩) hS0 ?_
      · obtain ⟨z1, z2⟩ := hZ
        go_simp
      have HNEXT := fun (X2 X4 : World) (A5 A6 : Option Addr) (c5 c6 : Nat) h1 h2 h3 h4 h5 h6 h7 h8 => prI_next1 (W0 := W0) (X := X) (X2 := X2) (X4 := X4) (A5 := A5) (A6 := A6) (c5 := c5) (c6 := c6) hlv (base := W0.heap.size) (by omega) (by omega) x7 y2 y3 yF h1 Hpl.out h2 h3 h4 h5 hpb h6 h7 h8 (fun g hg => hg)
      have nv2 : ¬ some w.heap.size = (Value.slice Av j cv).ownBlock := fun e => by have := (hlo _ e.symm).1; omega
      have nva : ¬ some a.block = (Value.slice Av j cv).ownBlock := fun e => by have := (hlo _ e.symm).1; omega
      have nv7 : ¬ some b7 = (Value.slice Av j cv).ownBlock := fun e => by have := (hlo _ e.symm).1; omega
      refine all_two (fuel := 5) (i := 1) (j := 8) (by kernel_rfl) rfl rfl rfl rfl (fun K hK => ?_) (fun K hK => ?_)
      · have x7d := x7c
        go_simp
        refine hK _ _ ⟨hS0, ?_⟩
        clear hK K
        refine all_one (fuel := 4) (i := 8) (by kernel_rfl) rfl rfl (fun K hK => ?_)
        go_simp
        refine HCL.out.mono ?_
        rintro e X2 ⟨v5, rfl, ho5, hb5⟩
        obtain ⟨A5, c5, rfl, _, hc5, hcm5, hr5, ha5⟩ := own_out ho5
        have hX2 : Below X.heap.size X X2 := (Below.refl _ X).drew.trans hb5
        have hS2 := HS.out (fun _ => False) X2 (Fr.of_below hX2) (fun h => h) (fun h => h)
        have hX3 : Below X.heap.size X (X2.alloc (.cells #[.slice A5 K5 c5] 25)) := hX2.alloc hX2.size _
        have hS3 := HS.out (fun _ => False) _ (Fr.of_below hX3) (fun h => h) (fun h => h)
        refine hK _ _ ⟨hS2, ?_⟩
        clear hK K
        refine all_one (fuel := 3) (i := 9) (by kernel_rfl) rfl rfl (fun K hK => ?_)
        go_simp
        refine hK _ _ ⟨hS3, ?_⟩
        clear hK K
        refine all_one (fuel := 2) (i := 10) (by kernel_rfl) rfl rfl (fun K hK => ?_)
        refine oper_own rfl tU32s (by rfl) (own_below y2 hX3) (A := some ⟨X2.heap.size, 0, none⟩) (m := 1) (c := 1) (by rfl) (by rfl) (Rd.new1 X2 _ _) (by intro u hu; simp at hu; subst hu; rfl) (by omega) (by omega) (by have := hX3.size; omega) ?_
        intro v6 X4 ho6 hg6 hv6
        obtain ⟨A6, c6, rfl, _⟩ := own_out ho6
        have fA : Fr (fun b => some b = (Value.slice Av j cv).ownBlock) X X4 := (Fr.of_below hX3).trans (Fr.of_grown hg6 (fun k e => e.symm))
        have hS4 := HS.out _ X4 fA nv2 nva
        refine hK _ _ ⟨hS4, ?_⟩
        clear hK K
        refine all_one (fuel := 1) (i := 11) (by kernel_rfl) rfl rfl (fun K hK => ?_)
        go_simp
        refine hK _ _ ⟨hS4, ?_⟩
        clear hK K
        have w7 := x7.fr fA nv7
        have w7c := w7.cell (j := 1) rfl
        have w7f := w7.frozen 1
        have hS5 := HS.out _ (X4.setCell ⟨b7, 1, none⟩ (.slice A6 (j + 1) c6)) ((fA.mono (Y := fun b => some b = (Value.slice Av j cv).ownBlock ∨ b = b7) (fun b hb => .inl hb)).trans (Fr.set _ _ _ (.inr rfl))) (fun h => h.elim nv2 (fun h => by omega)) (fun h => h.elim nva (fun h => by omega))
        have HNX := hide (HNEXT X2 X4 A5 A6 c5 c6 hX2 hc5 (by unfold maxLen at hcm5; omega) hr5 ha5 ho6 hg6 hv6)
        refine all_one (fuel := 0) (i := 12) (by kernel_rfl) rfl rfl (fun K hK => ?_)
        go_simp
        refine hK _ _ ⟨hS5, ?_⟩
        clear hK K
        refine wpAnyH_done (by kernel_rfl) ?_ _
        go_wp2
        go_roundw
        case rel =>
          refine ⟨_, _, _, _, _, _, _, _, _, _, _, _, _, _, _, _, _, _, _, _, _, _, _, _, ⟨j + 1, ?_, ?_, HNX.out.2.2, by rw [Hps1.out]; exact HNX.out.1, HNX.out.2.1, HKS.out⟩, by rw [show decide (N ≤ i) = false from decide_eq_false (by omega)]⟩
          · exact HIT.out
          · go_num
        case measure => simp [intOf]; omega
      · have x7d := x7c
        go_simp
        refine HCL.out.mono ?_
        rintro e X2 ⟨v5, rfl, ho5, hb5⟩
        obtain ⟨A5, c5, rfl, _, hc5, hcm5, hr5, ha5⟩ := own_out ho5
        have hX2 : Below X.heap.size X X2 := (Below.refl _ X).drew.trans hb5
        have hS2 := HS.out (fun _ => False) X2 (Fr.of_below hX2) (fun h => h) (fun h => h)
        have hX3 : Below X.heap.size X (X2.alloc (.cells #[.slice A5 K5 c5] 25)) := hX2.alloc hX2.size _
        have hS3 := HS.out (fun _ => False) _ (Fr.of_below hX3) (fun h => h) (fun h => h)
        refine hK _ _ ⟨hS2, ?_⟩
        clear hK K
        refine all_two (fuel := 4) (i := 1) (j := 9) (by kernel_rfl) rfl rfl rfl rfl (fun K hK => ?_) (fun K hK => ?_)
        · have x7e := (x7.below hX2).cell (j := 1) rfl
          go_simp
          refine hK _ _ ⟨hS2, ?_⟩
          clear hK K
          refine all_one (fuel := 3) (i := 9) (by kernel_rfl) rfl rfl (fun K hK => ?_)
          go_simp
          refine hK _ _ ⟨hS3, ?_⟩
          clear hK K
          refine all_one (fuel := 2) (i := 10) (by kernel_rfl) rfl rfl (fun K hK => ?_)
          refine oper_own rfl tU32s (by rfl) (own_below y2 hX3) (A := some ⟨X2.heap.size, 0, none⟩) (m := 1) (c := 1) (by rfl) (by rfl) (Rd.new1 X2 _ _) (by intro u hu; simp at hu; subst hu; rfl) (by omega) (by omega) (by have := hX3.size; omega) ?_
          intro v6 X4 ho6 hg6 hv6
          obtain ⟨A6, c6, rfl, _⟩ := own_out ho6
          have fA : Fr (fun b => some b = (Value.slice Av j cv).ownBlock) X X4 := (Fr.of_below hX3).trans (Fr.of_grown hg6 (fun k e => e.symm))
          have hS4 := HS.out _ X4 fA nv2 nva
          refine hK _ _ ⟨hS4, ?_⟩
          clear hK K
          refine all_one (fuel := 1) (i := 11) (by kernel_rfl) rfl rfl (fun K hK => ?_)
          go_simp
          refine hK _ _ ⟨hS4, ?_⟩
          clear hK K
          have w7 := x7.fr fA nv7
          have w7c := w7.cell (j := 1) rfl
          have w7f := w7.frozen 1
          have hS5 := HS.out _ (X4.setCell ⟨b7, 1, none⟩ (.slice A6 (j + 1) c6)) ((fA.mono (Y := fun b => some b = (Value.slice Av j cv).ownBlock ∨ b = b7) (fun b hb => .inl hb)).trans (Fr.set _ _ _ (.inr rfl))) (fun h => h.elim nv2 (fun h => by omega)) (fun h => h.elim nva (fun h => by omega))
          have HNX := hide (HNEXT X2 X4 A5 A6 c5 c6 hX2 hc5 (by unfold maxLen at hcm5; omega) hr5 ha5 ho6 hg6 hv6)
          refine all_one (fuel := 0) (i := 12) (by kernel_rfl) rfl rfl (fun K hK => ?_)
          go_simp
          refine hK _ _ ⟨hS5, ?_⟩
          clear hK K
          refine wpAnyH_done (by kernel_rfl) ?_ _
          go_wp2
          go_roundw
          case rel =>
            refine ⟨_, _, _, _, _, _, _, _, _, _, _, _, _, _, _, _, _, _, _, _, _, _, _, _, ⟨j + 1, ?_, ?_, HNX.out.2.2, by rw [Hps1.out]; exact HNX.out.1, HNX.out.2.1, HKS.out⟩, by rw [show decide (N ≤ i) = false from decide_eq_false (by omega)]⟩
            · exact HIT.out
            · go_num
          case measure => simp [intOf]; omega
        · have x7e := (x7.below hX3).cell (j := 1) rfl
          go_simp
          refine hK _ _ ⟨hS3, ?_⟩
          clear hK K
          refine all_one (fuel := 3) (i := 1) (by kernel_rfl) rfl rfl (fun K hK => ?_)
          go_simp
          refine hK _ _ ⟨hS3, ?_⟩
          clear hK K
          refine all_one (fuel := 2) (i := 10) (by kernel_rfl) rfl rfl (fun K hK => ?_)
          refine oper_own rfl tU32s (by rfl) (own_below y2 hX3) (A := some ⟨X2.heap.size, 0, none⟩) (m := 1) (c := 1) (by rfl) (by rfl) (Rd.new1 X2 _ _) (by intro u hu; simp at hu; subst hu; rfl) (by omega) (by omega) (by have := hX3.size; omega) ?_
          intro v6 X4 ho6 hg6 hv6
          obtain ⟨A6, c6, rfl, _⟩ := own_out ho6
          have fA : Fr (fun b => some b = (Value.slice Av j cv).ownBlock) X X4 := (Fr.of_below hX3).trans (Fr.of_grown hg6 (fun k e => e.symm))
          have hS4 := HS.out _ X4 fA nv2 nva
          refine hK _ _ ⟨hS4, ?_⟩
          clear hK K
          refine all_one (fuel := 1) (i := 11) (by kernel_rfl) rfl rfl (fun K hK => ?_)
          go_simp
          refine hK _ _ ⟨hS4, ?_⟩
          clear hK K
          have w7 := x7.fr fA nv7
          have w7c := w7.cell (j := 1) rfl
          have w7f := w7.frozen 1
          have hS5 := HS.out _ (X4.setCell ⟨b7, 1, none⟩ (.slice A6 (j + 1) c6)) ((fA.mono (Y := fun b => some b = (Value.slice Av j cv).ownBlock ∨ b = b7) (fun b hb => .inl hb)).trans (Fr.set _ _ _ (.inr rfl))) (fun h => h.elim nv2 (fun h => by omega)) (fun h => h.elim nva (fun h => by omega))
          have HNX := hide (HNEXT X2 X4 A5 A6 c5 c6 hX2 hc5 (by unfold maxLen at hcm5; omega) hr5 ha5 ho6 hg6 hv6)
          refine all_one (fuel := 0) (i := 12) (by kernel_rfl) rfl rfl (fun K hK => ?_)
          go_simp
          refine hK _ _ ⟨hS5, ?_⟩
          clear hK K
          refine wpAnyH_done (by kernel_rfl) ?_ _
          go_wp2
          go_roundw
          case rel =>
            refine ⟨_, _, _, _, _, _, _, _, _, _, _, _, _, _, _, _, _, _, _, _, _, _, _, _, ⟨j + 1, ?_, ?_, HNX.out.2.2, by rw [Hps1.out]; exact HNX.out.1, HNX.out.2.1, HKS.out⟩, by rw [show decide (N ≤ i) = false from decide_eq_false (by omega)]⟩
            · exact HIT.out
            · go_num
          case measure => simp [intOf]; omega
    · have hjeq : ps.length = j := by omega
      rw [List.take_of_length_le (by omega), hjeq] at p2
      rw [List.take_of_length_le (by omega)] at p3
      have hlo := ownRow_lt p2
      obtain ⟨Av, cv, rfl, _, hcv, hcmv, hrv, hav⟩ := own_out p2
      have hE4 := E4.fr hF (by omega)
      have d4 := hE4.frozen 0
      have d41 := hE4.frozen 1
      have d40 := hE4.cell (j := 0) rfl
      have d42 := hE4.cell (j := 1) rfl
      have d7 := p1.cell (j := 0) rfl
      have d71 := p1.cell (j := 1) rfl
      have Hj := hide hjeq
      have HE4 := hide hE4
      have HF := hide hF
      have q2 : decide ((j : Int) < (n : Int) - 1) = false := decide_eq_false (by omega)
      have HP := hide (And.intro p3 (And.intro hrv (And.intro hav (And.intro hcv hcmv))))
      clear hjeq hE4 p1 p2 p3 hrv hav hcv hcmv hF e2W hj hjp hks
      go_wp2
      obtain ⟨p3, hrv, hav, hcv, hcmv⟩ := HP.out
      have f4 : Fr (fun b => b = w.heap.size + 1) wr ((wr.setCell ⟨w.heap.size + 1, 0, none⟩ (.int .i64 (i : Int))).setCell ⟨w.heap.size + 1, 1, none⟩ (.slice Av j cv)) := (Fr.set (X := fun b => b = w.heap.size + 1) wr _ _ rfl).trans (Fr.set (X := fun b => b = w.heap.size + 1) _ _ _ rfl)
      have hbl : Below w.heap.size w ((wr.setCell ⟨w.heap.size + 1, 0, none⟩ (.int .i64 (i : Int))).setCell ⟨w.heap.size + 1, 1, none⟩ (.slice Av j cv)) :=
        (HF.out.below HbW.out (by omega) (fun k hk => by omega)).trans (f4.lo (by omega) (fun k hk => by omega))
      have hr1 := hrv.fr f4 (fun _ a ha hx => by have := (hav a ha).1; omega)
      have hR1 := (p3.fr f4 (fun b hb hx => by have := hb.1; omega)).mono (Q' := fun b => w.heap.size ≤ b) (fun b hb => by have := hb.1; omega)
      refine bodyPost_ret (results_cell2 rfl rfl ((HE4.out.set 0 _).set 1 _) Tryd.underlying58 rfl (by kernel_rfl)) rfl ?_
      rw [hps]
      exact ⟨Av, j, cv, rfl, Proof_mk (by omega) (by omega) Hj.out hcv (by unfold maxLen at hcmv; omega) hr1 (fun _ a ha => by have := (hav a ha).1; omega) hR1, hbl⟩
end Go.Proofs.YtcpnobhdogpfiaaDoor
