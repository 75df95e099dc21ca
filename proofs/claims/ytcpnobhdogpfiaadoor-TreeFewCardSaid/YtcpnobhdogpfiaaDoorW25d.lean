/- The law TreeFew walked. -/
import Derived.Test.YtcpnobhdogpfiaaDoorG25e
import Derived.Test.YtcpnobhdogpfiaaDoorF25s
import Derived.Test.YtcpnobhdogpfiaaDoorF25j
import Derived.Test.YtcpnobhdogpfiaaDoorM25d
import Derived.Test.YtcpnobhdogpfiaaDoorU16
import Derived.Deep.DeepFit
import Derived.Deep.RegionHeld
import Derived.Test.YtcpnobhdogpfiaaDoorRnd
namespace Go.Proofs.YtcpnobhdogpfiaaDoor
set_option maxRecDepth 20000
open Go.RowKit Go.Px
set_option linter.unusedVariables false
theorem tree_len {w : World} {Q : Nat → Prop} {ls : List (List Nat)} {A : Option Addr} {n c : Nat} (hT : tyTree.Is w Q ls [.slice A n c]) : ls.length = n := by
  obtain ⟨p, pA, pn, pc, pv, rfl, hpe, hl1, _⟩ := Tree_out hT
  simp only [List.cons.injEq, Value.slice.injEq, and_true] at hpe
  obtain ⟨rfl, rfl, rfl⟩ := hpe
  exact hl1
theorem treeD_zero (l : List Nat) : (treeD l).getD 0 [] = l := by
  obtain ⟨r, hr⟩ := treeD_head l
  rw [hr]; rfl
theorem plE_put {l : List Nat} {z : Nat} (h2 : l.length ≤ 4096) (hz : z < l.length) (x : Nat) : plE (treeD l) (z : Int) = 0 ∧ putT (treeD l) (z : Int) x = treeD (l.set z x) := by
  have h := plE_tree (l := l) (i := z) h2 hz
  refine ⟨h, ?_⟩
  unfold putT
  rw [if_pos h]
  obtain ⟨r, hr⟩ := treeD_head l
  rw [hr]
  rfl
/-- Behind e puts: the second tree in the block b9. -/
def FwI (W0 : World) (b9 N x : Nat) (l : List Nat) (e : Nat) (W : World) : Prop :=
  ∃ (l2 ps : List Nat) (B : Option Addr) (K C : Nat), ps.length = e ∧ l2.length = N ∧ (∀ i, i ∉ ps → l[i]? = l2[i]?) ∧ Blk W b9 [.slice B K C] 29 ∧ tyTree.Is W (fun b => b ≠ b9) (treeD l2) [.slice B K C] ∧ Fr (fun b => b = b9) W0 W
set_option maxRecDepth 100000 in
set_option maxHeartbeats 6400000 in
theorem treeFew_walk (A : Option Addr) (n c : Nat) (l0 : List Nat) (P : Option Addr) (p pc : Nat) (zs : List Nat) (x : Nat) (w : World) (hn0 : l0.length = n) (hnc0 : n ≤ c) (hc63 : c ≤ 9223372036854775807) (hr0 : Rd w A (u32s l0)) (hb0 : ∀ y ∈ l0, y < 4294967296) (hzl : zs.length = p) (hpc : p ≤ pc) (hp63 : pc ≤ 9223372036854775807) (hrz : Rd w P (u16s zs)) (hzb : ∀ y ∈ zs, y < 65536) (hx : x < 4294967296) (ht : Tab w) :
    Calls Tryd.prog 9 #[.slice A n c, .slice P p pc, .int .u32 (x : Int)] w fun e w' => e = .returned (.bool true) ∧ Below w.heap.size w w' := by
  have Hz := hide hzl
  have ht00 := ht
  have hr00' := hr0
  have hrz00 := hrz
  clear hzl
  go_enter Tryd.func9, Tryd.ntmps9
  go_wp2_with fail
  go_fit (awake_any w ht)
  rintro e w1 ⟨rfl, hb1⟩
  go_wp2_with fail
  go_fit (few_any A n c l0 w1 hn0 hnc0 (hr0.below hb1))
  rintro e w2 ⟨N, l, rfl, hn, hnc, hr, hsub, rfl⟩
  have hb : ∀ y ∈ l, y < 4294967296 := fun y hy => hb0 y (hsub y hy)
  have ht1 : Tab w1 := Rd.below ht hb1
  have hrz1 := hrz.below hb1
  clear hr0 hb0 hn0 hnc0 hsub ht hrz
  by_cases hok : 1 ≤ N ∧ N ≤ 4096
  · obtain ⟨h1, h2⟩ := hok
    have HM := hide (make_any A N c l w1 hn (by omega) hnc hc63 hr hb ht1 h1 h2)
    have hAl : ∀ ad, A = some ad → ad.block < w1.heap.size := rd_block hr (fun e => by
      have h0 : (u32s l).length = 0 := by rw [e]; rfl
      rw [u32s_length] at h0
      omega)
    have Hn := hide hn
    clear hn
    go_wp2_with fail
    go_fit HM.out
    rintro e w2 ⟨B, K, C, rfl, hT, hb2⟩
    obtain ⟨W0, hW0⟩ : ∃ y, (w2.alloc (.cells #[.slice B K C] 29)).alloc (.cells #[.slice B K C] 29) = y := ⟨_, rfl⟩
    have hb3 : Below w2.heap.size w2 W0 := by rw [← hW0]; exact ((Below.refl _ _).alloc (Nat.le_refl _) _).alloc (by simp) _
    have B7 : Blk W0 w2.heap.size [.slice B K C] 29 := by rw [← hW0]; exact (Blk.new w2 [.slice B K C] 29).alloc _
    have B9 : Blk W0 (w2.heap.size + 1) [.slice B K C] 29 := by
      rw [← hW0]
      have := Blk.new (w2.alloc (.cells #[.slice B K C] 29)) [.slice B K C] 29
      rwa [World.size_alloc] at this
    have z3 : W0.heap.size = w2.heap.size + 2 := by rw [← hW0]; simp
    have hT0 : tyTree.Is W0 (fun b => b < w2.heap.size) (treeD l) [.slice B K C] := hT.low.below hb3
    have hb03 : Below w.heap.size w W0 := hb1.trans ((hb2.trans (hb3.mono hb2.size)).mono hb1.size)
    have hr3 := (hr.below hb2).below hb3
    have hrz3 := (hrz1.below hb2).below hb3
    have ht3 : Tab W0 := Rd.below (Rd.below ht1 hb2) hb3
    have HW0 := hide hW0
    clear hW0 HM hT hr hrz1 ht1
    have hz2 := hb2.size
    have hz1 := hb1.size
    go_wp2_with fail
    rw [HW0.out]
    obtain ⟨b7, hb7⟩ : ∃ y, w2.heap.size = y := ⟨_, rfl⟩
    rw [hb7] at B7 B9 z3 hT0 hz2 ⊢
    clear hb2 hb3 hb1
    obtain ⟨b9, hb9⟩ : ∃ y, b7 + 1 = y := ⟨_, rfl⟩
    rw [hb9] at B9 ⊢
    have htb9 : ∀ ad, (some ⟨0, 0, none⟩ : Option Addr) = some ad → ad.block ≠ b9 := fun ad hd => by
      have := rd_block (show Rd w _ tabV from ht00) (by unfold tabV tabN; simp) ad hd
      omega
    have hPl : zs ≠ [] → ∀ ad, P = some ad → ad.block < w.heap.size := fun hne => rd_block hrz00 (fun e => hne (by simpa [u16s] using e))
    go_loopw [10, 11] (fun sn si W => ∃ e : Nat, e ≤ 8 ∧ e ≤ p ∧ sn = .int .i64 (e : Int) ∧ si = .int .i64 (e : Int) ∧ FwI W0 b9 N x l e W) (fun _ si _ => 8 - (intOf si).toNat)
    case atStart => exact ⟨0, by omega, by omega, rfl, rfl, l, [], B, K, C, rfl, Hn.out, fun _ _ => rfl, B9, hT0.mono (fun b hb => by omega), Fr.refl _ _⟩
    case round =>
      obtain ⟨e, he8, hep, rfl, rfl, l2, ps, B2, K2, C2, hps, hl2, hag, k9, kT, kF⟩ := hrel
      have htW : Tab wr := Rd.fr ht3 kF (fun _ ad ha hx => htb9 ad ha hx)
      have zF := kF.size
      by_cases hlt : e < p ∧ e < 8
      · obtain ⟨hp1, hp8⟩ := hlt
        have hez : e < zs.length := by rw [Hz.out]; exact hp1
        obtain ⟨ap, hap, hcp⟩ := (hrz3.fr kF (fun hne ad ha hx => by have := hPl (fun e0 => by rw [e0] at hez; simp at hez) ad ha; omega)) e _ (u16s_get hez)
        subst hap
        obtain ⟨y, hy⟩ : ∃ y, zs[e] = y := ⟨_, rfl⟩
        have hy6 : y < 65536 := by rw [← hy]; exact hzb _ (List.getElem_mem hez)
        rw [hy] at hcp
        obtain ⟨q, hq⟩ : ∃ q, y % N = q := ⟨_, rfl⟩
        have hqN : q < N := by rw [← hq]; exact Nat.mod_lt _ (by omega)
        have hpp := plE_put (l := l2) (z := q) (by omega) (by omega) x
        have HP := fun (X : World) (hX : Below wr.heap.size wr X) => tput_any B2 K2 C2 (treeD l2) (q : Int) x X (kT.low.below hX) (Rd.below htW hX) hx
        rw [hpp.1, hpp.2] at HP
        have HPut := hide HP
        have c9 := k9.cell (j := 0) rfl
        clear HP hpp hy hez
        go_wp2_with fail
        have hS : ∀ Z, Below wr.heap.size wr Z → (Z.cell? ⟨b9, 0, none⟩ = some (.slice B2 K2 C2) ∧ Z.cell? (ap.add e) = some (.int .u16 (y : Int))) := fun Z hZ => ⟨below_cell hZ c9, below_cell hZ hcp⟩
        have HS := hide hS
        have hS0 := hS wr.drew (Below.refl _ _).drew
        have HW := hide (show IntKind.i64.wrap (y : Int) = (y : Int) from by rw [IntKind.wrap_i64]; omega)
        have HQ := hide (show (y : Int).tmod (N : Int) = (q : Int) from by rw [← hq]; rfl)
        clear hS hq
        refine wp_region_held_drew (S := fun Z => Z.cell? ⟨b9, 0, none⟩ = some (.slice B2 K2 C2) ∧ Z.cell? (ap.add e) = some (.int .u16 (y : Int))) (by kernel_rfl) hS0 (fun _ => ?_)
        refine wpAnyH_take (fuel := 16) (i := 0) (v := .agg #[.slice B2 K2 C2]) rfl (by kernel_rfl) (by kernel_rfl) (by kernel_rfl) (fun _ _ _ h => h) (Or.inl ⟨by rfl, fun Z hZ => ?_⟩) hS0 ?_
        · obtain ⟨z1, z2⟩ := hZ
          go_simp
        refine wpAnyH_take (i := 1) (v := .slice (some ap) p pc) rfl (by kernel_rfl) (by kernel_rfl) (by kernel_rfl) (fun _ _ _ h => h) (Or.inl ⟨by rfl, fun Z hZ => ?_⟩) hS0 ?_
        · obtain ⟨z1, z2⟩ := hZ
          go_simp
        refine wpAnyH_take (i := 2) (v := .int .i64 (e : Int)) rfl (by kernel_rfl) (by kernel_rfl) (by kernel_rfl) (fun _ _ _ h => h) (Or.inl ⟨by rfl, fun Z hZ => ?_⟩) hS0 ?_
        · obtain ⟨z1, z2⟩ := hZ
          go_simp
        refine wpAnyH_take (i := 3) (v := .pointer (some (ap.add e))) rfl (by kernel_rfl) (by kernel_rfl) (by kernel_rfl) (fun _ _ _ h => h) (Or.inl ⟨by rfl, fun Z hZ => ?_⟩) hS0 ?_
        · obtain ⟨z1, z2⟩ := hZ
          go_simp
        refine wpAnyH_take (i := 4) (v := .int .u16 (y : Int)) rfl (by kernel_rfl) (by kernel_rfl) (by kernel_rfl) (fun _ _ _ h => h) (Or.inl ⟨by rfl, fun Z hZ => ?_⟩) hS0 ?_
        · obtain ⟨z1, z2⟩ := hZ
          go_simp
        refine wpAnyH_take (i := 5) (v := .int .i64 (y : Int)) rfl (by kernel_rfl) (by kernel_rfl) (by kernel_rfl) (fun _ _ _ h => h) (Or.inl ⟨by rfl, fun Z hZ => ?_⟩) hS0 ?_
        · obtain ⟨z1, z2⟩ := hZ
          go_simp
          exact HW.out
        refine wpAnyH_take (i := 6) (v := .slice A N c) rfl (by kernel_rfl) (by kernel_rfl) (by kernel_rfl) (fun _ _ _ h => h) (Or.inl ⟨by rfl, fun Z hZ => ?_⟩) hS0 ?_
        · obtain ⟨z1, z2⟩ := hZ
          go_simp
        refine wpAnyH_take (i := 7) (v := .int .i64 (N : Int)) rfl (by kernel_rfl) (by kernel_rfl) (by kernel_rfl) (fun _ _ _ h => h) (Or.inl ⟨by rfl, fun Z hZ => ?_⟩) hS0 ?_
        · obtain ⟨z1, z2⟩ := hZ
          go_simp
        refine wpAnyH_take (i := 8) (v := .int .i64 (q : Int)) rfl (by kernel_rfl) (by kernel_rfl) (by kernel_rfl) (fun _ _ _ h => h) (Or.inl ⟨by rfl, fun Z hZ => ?_⟩) hS0 ?_
        · obtain ⟨z1, z2⟩ := hZ
          go_simp
          rw [if_neg (by omega), HQ.out]
        refine wpAnyH_take (i := 9) (v := .int .u32 (x : Int)) rfl (by kernel_rfl) (by kernel_rfl) (by kernel_rfl) (fun _ _ _ h => h) (Or.inl ⟨by rfl, fun Z hZ => ?_⟩) hS0 ?_
        · obtain ⟨z1, z2⟩ := hZ
          go_simp
        refine all_two (fuel := 6) (i := 10) (j := 14) (by kernel_rfl) rfl rfl rfl rfl (fun Kk hK => ?_) (fun Kk hK => ?_)
        · go_simp
          refine (HPut.out wr.drew (Below.refl _ _).drew).mono ?_
          rintro e' wa ⟨B3, K3, C3, rfl, hT3, hba⟩
          have hbr : Below wr.heap.size wr wa := (Below.refl _ wr).drew.trans hba
          have HSX := HS.out wa hbr
          refine hK _ _ ⟨HSX, ?_⟩
          clear hK Kk
          refine wpAnyH_take (fuel := 5) (i := 11) (v := .tuple #[.agg #[.slice B3 K3 C3], .int .i64 0]) rfl (by kernel_rfl) (by kernel_rfl) (by kernel_rfl) (fun _ _ _ h => h) (Or.inl ⟨by rfl, fun Z hZ => ?_⟩) HSX ?_
          · go_simp
          refine wpAnyH_take (fuel := 4) (i := 12) (v := .agg #[.slice B3 K3 C3]) rfl (by kernel_rfl) (by kernel_rfl) (by kernel_rfl) (fun _ _ _ h => h) (Or.inl ⟨by rfl, fun Z hZ => ?_⟩) HSX ?_
          · go_simp
          refine wpAnyH_take (fuel := 3) (i := 13) (v := .int .i64 0) rfl (by kernel_rfl) (by kernel_rfl) (by kernel_rfl) (fun _ _ _ h => h) (Or.inl ⟨by rfl, fun Z hZ => ?_⟩) HSX ?_
          · go_simp
          have hbY : Below wr.heap.size wr (wa.alloc (.cells #[.slice none 0 0] 29)) := hbr.alloc hbr.size _
          have BY : Blk (wa.alloc (.cells #[.slice none 0 0] 29)) wa.heap.size [.slice none 0 0] 29 := Blk.new wa [.slice none 0 0] _
          have yc := BY.cell (j := 0) rfl
          have yf := BY.frozen 0
          have HSY := HS.out _ hbY
          refine all_one (fuel := 2) (i := 14) (by kernel_rfl) rfl rfl (fun Kk hK => ?_)
          go_simp
          refine hK _ _ ⟨HSY, ?_⟩
          clear hK Kk
          have hbZ : Below wr.heap.size wr (wa.alloc (.cells #[.slice B3 K3 C3] 29)) := hbr.alloc hbr.size _
          have BZ : Blk (wa.alloc (.cells #[.slice B3 K3 C3] 29)) wa.heap.size [.slice B3 K3 C3] 29 := Blk.new wa [.slice B3 K3 C3] _
          have HSZ := HS.out _ hbZ
          have hTZ := hT3.below ((Below.refl _ _).alloc (Nat.le_refl _) (.cells #[.slice B3 K3 C3] 29))
          replace hTZ := hTZ.mono (Q' := fun b => wr.heap.size ≤ b) (fun b hb => hb)
          have zb9 : b9 < wr.heap.size := by omega
          refine all_one (fuel := 1) (i := 15) (by kernel_rfl) rfl rfl (fun Kk hK => ?_)
          go_simp
          refine hK _ _ ⟨HSZ, ?_⟩
          clear hK Kk
          refine all_one (fuel := 0) (i := 16) (by kernel_rfl) rfl rfl (fun Kk hK => ?_)
          go_simp
          refine hK _ _ ⟨HSZ, ?_⟩
          clear hK Kk
          refine wpAnyH_done (by kernel_rfl) ?_ _
          have cz := BZ.cell (j := 0) rfl
          have kz := k9.below hbZ
          have c9z := kz.cell (j := 0) rfl
          have f9z := kz.frozen 0
          obtain ⟨Zw, hZw⟩ : ∃ y, wa.alloc (.cells #[.slice B3 K3 C3] 29) = y := ⟨_, rfl⟩
          rw [hZw] at cz kz c9z f9z hbZ hTZ ⊢
          have HI := hide (show FwI W0 b9 N x l (e + 1) (Zw.setCell ⟨b9, 0, none⟩ (.slice B3 K3 C3)) from by
            refine ⟨l2.set q x, q :: ps, B3, K3, C3, by rw [List.length_cons, hps], by rw [List.length_set]; exact hl2, fun i hi => ?_, kz.set 0 _, ?_, kF.trans ((Fr.of_below hbZ).trans (Fr.set _ _ _ rfl))⟩
            · rw [List.mem_cons, not_or] at hi
              rw [hag i hi.2, List.getElem?_set_ne (fun e => hi.1 e.symm)]
            · refine (hTZ.grown (setCell_grown Zw b9 0 _) (fun b hb e => by injection e with e; omega)).mono (fun b hb => by omega))
          clear hTZ hbZ kz hT3 hba BY BZ yc yf HSX HSY HSZ hZw hS0
          go_wp2
          go_roundw
          case rel => exact ⟨e + 1, by omega, by omega, by go_num, by go_num, HI.out⟩
          case measure => simp [intOf]; omega
        · obtain ⟨Y, hY⟩ : ∃ y, wr.drew.alloc (.cells #[.slice none 0 0] 29) = y := ⟨_, rfl⟩
          have hbY : Below wr.heap.size wr Y := by rw [← hY]; exact (Below.refl _ wr).drew.alloc (Nat.le_refl _) _
          have BY : Blk Y wr.heap.size [.slice none 0 0] 29 := by rw [← hY]; exact Blk.new wr.drew [.slice none 0 0] _
          have zY : Y.heap.size = wr.heap.size + 1 := by rw [← hY]; exact World.size_alloc _ _
          have HSY := HS.out _ hbY
          have HSX := HSY
          go_simp
          try rw [hY]
          refine hK _ _ ⟨HSY, ?_⟩
          clear hK Kk
          refine all_one (fuel := 5) (i := 10) (by kernel_rfl) rfl rfl (fun Kk hK => ?_)
          go_simp
          refine (HPut.out Y hbY).mono ?_
          rintro e' wa ⟨B3, K3, C3, rfl, hT3, hba⟩
          have hbr : Below wr.heap.size wr wa := hbY.trans (hba.mono hbY.size)
          replace HSX := HS.out wa hbr
          refine hK _ _ ⟨HSX, ?_⟩
          clear hK Kk
          refine wpAnyH_take (fuel := 4) (i := 11) (v := .tuple #[.agg #[.slice B3 K3 C3], .int .i64 0]) rfl (by kernel_rfl) (by kernel_rfl) (by kernel_rfl) (fun _ _ _ h => h) (Or.inl ⟨by rfl, fun Z hZ => ?_⟩) HSX ?_
          · go_simp
          refine wpAnyH_take (fuel := 3) (i := 12) (v := .agg #[.slice B3 K3 C3]) rfl (by kernel_rfl) (by kernel_rfl) (by kernel_rfl) (fun _ _ _ h => h) (Or.inl ⟨by rfl, fun Z hZ => ?_⟩) HSX ?_
          · go_simp
          refine wpAnyH_take (fuel := 2) (i := 13) (v := .int .i64 0) rfl (by kernel_rfl) (by kernel_rfl) (by kernel_rfl) (fun _ _ _ h => h) (Or.inl ⟨by rfl, fun Z hZ => ?_⟩) HSX ?_
          · go_simp
          have BW := BY.below hba
          have yc := BW.cell (j := 0) rfl
          have yf := BW.frozen 0
          have hbZ : Below wr.heap.size wr (wa.setCell ⟨wr.heap.size, 0, none⟩ (.slice B3 K3 C3)) := hbr.setCell (Nat.le_refl _) _
          have BZ := BW.set 0 (.slice B3 K3 C3)
          have HSZ := HS.out _ hbZ
          have hTZ := hT3.grown (setCell_grown _ wr.heap.size 0 (.slice B3 K3 C3)) (fun b hb e => by injection e with e; omega)
          replace hTZ := hTZ.mono (Q' := fun b => wr.heap.size ≤ b) (fun b hb => by omega)
          have zb9 : b9 < wr.heap.size := by omega
          refine all_one (fuel := 1) (i := 15) (by kernel_rfl) rfl rfl (fun Kk hK => ?_)
          go_simp
          refine hK _ _ ⟨HSZ, ?_⟩
          clear hK Kk
          refine all_one (fuel := 0) (i := 16) (by kernel_rfl) rfl rfl (fun Kk hK => ?_)
          go_simp
          refine hK _ _ ⟨HSZ, ?_⟩
          clear hK Kk
          refine wpAnyH_done (by kernel_rfl) ?_ _
          have cz := BZ.cell (j := 0) rfl
          have kz := k9.below hbZ
          have c9z := kz.cell (j := 0) rfl
          have f9z := kz.frozen 0
          obtain ⟨Zw, hZw⟩ : ∃ y, (wa.setCell ⟨wr.heap.size, 0, none⟩ (.slice B3 K3 C3)) = y := ⟨_, rfl⟩
          rw [hZw] at cz kz c9z f9z hbZ hTZ ⊢
          have HI := hide (show FwI W0 b9 N x l (e + 1) (Zw.setCell ⟨b9, 0, none⟩ (.slice B3 K3 C3)) from by
            refine ⟨l2.set q x, q :: ps, B3, K3, C3, by rw [List.length_cons, hps], by rw [List.length_set]; exact hl2, fun i hi => ?_, kz.set 0 _, ?_, kF.trans ((Fr.of_below hbZ).trans (Fr.set _ _ _ rfl))⟩
            · rw [List.mem_cons, not_or] at hi
              rw [hag i hi.2, List.getElem?_set_ne (fun e => hi.1 e.symm)]
            · refine (hTZ.grown (setCell_grown Zw b9 0 _) (fun b hb e => by injection e with e; omega)).mono (fun b hb => by omega))
          clear hTZ hbZ kz hT3 hba BY BZ yc yf HSX HSY HSZ hZw hS0
          go_wp2
          go_roundw
          case rel => exact ⟨e + 1, by omega, by omega, by go_num, by go_num, HI.out⟩
          case measure => simp [intOf]; omega
      · have Hns := hide (nis_length (stD (treeD l) (treeD l2) (treeD l).length).1)
        have hln : l.length = N := Hn.out
        have hLv := lv_tree (la := l) (lb := l2) (by omega) (by omega) (by omega)
        have hTt := hT0.fr kF (fun b hb hx => by omega)
        have hKK := tree_len hT0
        have hK2 := tree_len kT
        have hfew := diff_few hLv (m := e) (by rw [← hps]; exact ud_puts hag)
        have hK12 := hLv.1
        rw [hKK, hK2] at hK12
        subst hK12
        have hK7 := hLv.2.2.1
        have hK1 := hLv.2.1
        rw [hKK] at hfew hK7 hK1 Hns
        have HD := hide (tdiff_yes B K C B2 K C2 (treeD l) (treeD l2) wr hTt kT (okT_tree (by omega) (by omega)) (okT_tree (by omega) (by omega)) hLv htW)
        rw [hKK] at HD
        obtain ⟨V, hV⟩ : ∃ y, (stD (treeD l) (treeD l2) K).1 = y := ⟨_, rfl⟩
        obtain ⟨cnt, hcnt⟩ : ∃ y, (stD (treeD l) (treeD l2) K).2 = y := ⟨_, rfl⟩
        rw [hV, hcnt] at hfew HD
        obtain ⟨hf1, hf2, hf3⟩ := hfew
        obtain ⟨Zp, hZp⟩ : ∃ Zp, 4 * e * (K - 1) = Zp := ⟨_, rfl⟩
        have hZ1 : Zp ≤ 192 := by
          rw [← hZp]
          exact Nat.mul_le_mul (show 4 * e ≤ 32 by omega) (show K - 1 ≤ 6 by omega)
        have hZI : 4 * (e : Int) * ((K : Int) - 1) = (Zp : Int) := by
          rw [← hZp, show (K : Int) - 1 = ((K - 1 : Nat) : Int) by omega, Int.natCast_mul, Int.natCast_mul]; rfl
        rw [hZp] at hf1
        have H3 := hide hf3
        have c7 := (B7.fr kF (by omega)).cell (j := 0) rfl
        have c9 := k9.cell (j := 0) rfl
        have H7 := hide (B7.fr kF (by omega))
        have H9 := hide k9
        obtain ⟨xb, R0, rc, hxb, hcr, -, -, hR0, -⟩ := tree_row kT (k := 0) (by omega)
        subst hxb
        rw [treeD_zero] at hcr hR0
        rw [hl2] at hcr
        have hcr' : wr.cell? xb = some (.slice R0 N rc) := hcr
        have hRl := hr3.fr kF (fun _ ad ha hx => by have := hAl ad ha; omega)
        have hbw := kF.below hb03 (by omega) (fun k hk => by omega)
        have Hl2 := hide hl2
        clear hV hcnt hLv hKK hK2 hps hag kT hTt hl2 hT0 B7 B9 k9 hf3 hZp hcr hrz3
        have hsp : (e < p ∧ ¬ e < 8) ∨ ¬ e < p := by omega
        rcases hsp with ⟨hs1, hs2⟩ | hs1
        all_goals
          go_wp2_with fail
          go_fit HD.out
          rintro e' w6 ⟨P5, q5, pc5, rfl, hq5, hq6, hR5, hb6⟩
          have d7 := (H7.out.below hb6).cell (j := 0) rfl
          have d9 := (H9.out.below hb6).cell (j := 0) rfl
          have dr := below_cell hb6 hcr'
          have hR06 := hR0.below hb6
          have hRl6 := hRl.below hb6
          have hbw6 := hbw.trans (hb6.mono hbw.size)
          have HR5 := hide hR5
          have Hq5 := hide hq5
          rw [hq5] at hf2
          clear c7 c9 hR5 hR0 hRl hq5 HD hcr'
          go_wp2_with fail
          clear d7
          go_loopw [17] (fun si W => ∃ i : Nat, i ≤ q5 ∧ si = .int .i64 (i : Int) ∧ Below w6.heap.size w6 W) (fun si _ => q5 - (intOf si).toNat)
          case atStart => exact ⟨0, by omega, rfl, Below.refl _ _⟩
          case round =>
            obtain ⟨i, hi, rfl, hbW⟩ := hrel
            by_cases hiq : i < q5
            · have hiv : i < V.length := by rw [Hq5.out]; exact hiq
              obtain ⟨a5, ha5, hc5⟩ := HR5.out.below hbW i _ (nis_get hiv)
              subst ha5
              obtain ⟨hzN, hzd⟩ := H3.out _ (List.getElem_mem hiv)
              obtain ⟨z, hz⟩ : ∃ z, V[i] = z := ⟨_, rfl⟩
              rw [hz] at hc5 hzN hzd
              have hzl : z < l2.length := by have := Hl2.out; have := Hn.out; omega
              rw [List.getElem?_eq_getElem hzN, List.getElem?_eq_getElem hzl] at hzd
              obtain ⟨au, hau, hcu⟩ := hR06.below hbW z _ (u32s_get hzl)
              obtain ⟨al, hal, hcl⟩ := hRl6.below hbW z _ (u32s_get hzN)
              subst hau hal
              obtain ⟨xv, hxv⟩ : ∃ y, l[z] = y := ⟨_, rfl⟩
              obtain ⟨yv, hyv⟩ : ∃ y, l2[z] = y := ⟨_, rfl⟩
              rw [hxv] at hcl hzd
              rw [hyv] at hcu hzd
              have hxy : xv ≠ yv := fun e => hzd (by rw [e])
              have hzN' : z < N := by have := Hn.out; omega
              have q1 : decide ((z : Int) < 0) = false := decide_eq_false (by omega)
              have q2 : decide ((N : Int) ≤ (z : Int)) = false := decide_eq_false (by omega)
              have q3 : decide (N ≤ z) = false := decide_eq_false (by omega)
              have q4 : ((yv : Int) == (xv : Int)) = false := by rw [beq_eq_false_iff_ne]; omega
              have g1 : ∀ y : InC (fun W => Below wr.heap.size wr W), y.W.cell? ⟨b9, 0, none⟩ = some (.slice (some xb) K C2) := fun y => below_cell (hbW.trans (y.h.mono hbW.size)) d9
              have g2 : ∀ y : InC (fun W => Below wr.heap.size wr W), y.W.cell? xb = some (.slice (some au) N rc) := fun y => below_cell (hbW.trans (y.h.mono hbW.size)) dr
              have g3 : ∀ y : InC (fun W => Below wr.heap.size wr W), y.W.cell? (a5.add i) = some (.int .i64 (z : Int)) := fun y => below_cell y.h hc5
              have g4 : ∀ y : InC (fun W => Below wr.heap.size wr W), y.W.cell? (au.add z) = some (.int .u32 (yv : Int)) := fun y => below_cell y.h hcu
              have g5 : ∀ y : InC (fun W => Below wr.heap.size wr W), y.W.cell? (al.add z) = some (.int .u32 (xv : Int)) := fun y => below_cell y.h hcl
              clear hz hxv hyv hzd hiv hzl hzN hxy
              go_wp2_with fail
              refine wp_region_in (fun W => Below wr.heap.size wr W) (Below.refl _ _).drew (by kernel_rfl) (by kernel_rfl) ?_
              repeat (go_big_quiet_step (fail))
              refine wpQuiet_nil ?_
              rintro _ ⟨nq, rfl⟩
              have hbq := hbW.trans (nq.h.mono hbW.size)
              clear g1 g2 g3 g4 g5 q1 q2 q3 q4
              go_wp2
              go_roundw
              case rel => exact ⟨i + 1, by omega, by go_num, hbq⟩
              case measure => simp [intOf]; omega
            · go_wp2
              go_ret
              exact ⟨rfl, hbw6.trans (hbW.mono hbw6.size)⟩
  · have HM := makeA_any A N c l w1 hn (by omega) hc63 hr hb ht1
    rw [show mkE N = 250 from by unfold mkE okN; rw [decide_eq_false hok]; rfl] at HM
    have HM' := hide HM
    have hsp : N = 0 ∨ 0 < N ∧ 4096 < N := by omega
    clear HM hn hr hb ht1 hrz1 hok
    rcases hsp with rfl | ⟨hp, hp2⟩
    all_goals
      go_wp2_with fail
      go_fit HM'.out
      rintro e w2 ⟨B, K, C, rfl, hT, hb2⟩
      clear hT
      go_wp2
      go_ret
      have hbA := (hb1.trans (hb2.mono hb1.size)).alloc (by have := hb1.size; have := hb2.size; omega) (.cells #[.slice B K C] 29)
      refine ⟨?_, hbA⟩
      first
        | rfl
        | (simp; done)
        | (simp; omega)
end Go.Proofs.YtcpnobhdogpfiaaDoor
