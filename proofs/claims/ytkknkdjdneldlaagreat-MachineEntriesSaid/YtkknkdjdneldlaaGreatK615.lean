/- Texts joined (shake.py). -/
import Derived.Deep.CutBlock
import Derived.Deep.CutRange
import Derived.Test.YtkknkdjdneldlaaGreatK68
import Derived.Test.YtkknkdjdneldlaaGreatK69
import Derived.Test.YtkknkdjdneldlaaGreatK612
import Derived.Test.YtkknkdjdneldlaaGreatK614
namespace Go.Proofs.YtkknkdjdneldlaaGreat
set_option maxRecDepth 20000
open Go.RowKit Go.Px Go.Maps
set_option linter.unusedVariables false
set_option linter.unusedSimpArgs false
set_option maxRecDepth 20000 in
set_option maxHeartbeats 6400000 in
theorem rdecE_any (A : Option Addr) (m c : Nat) (bs : List UInt8) (w : World) (hm : bs.length = m) (hmc : m ≤ c) (hm8 : m ≤ 140737488355328) (hc : c ≤ 9223372036854775807) (hr : Rd w A (bys bs)) (hlo : Lo w.heap.size A) :
    Calls Tryz.prog 27 #[.slice A m c] w (DecE rI7 bs w) := by
  obtain ⟨g, hg⟩ : ∃ g, w.heap.size = g := ⟨_, rfl⟩
  obtain ⟨w1, hw1⟩ : ∃ y, (w.alloc (.cells #[.int .u8 0, .int .i64 0, .int .i64 0, .int .i64 0, .int .i64 0, .int .u8 0, .int .i64 0, .int .i64 0, .slice none 0 0, .slice none 0 0, .int .i64 0, .slice none 0 0] 49)).alloc (.cells #[.slice A m c, .int .i64 0, .int .i64 0] 131) = y := ⟨_, rfl⟩
  have hR1 : Blk w1 g [.int .u8 0, .int .i64 0, .int .i64 0, .int .i64 0, .int .i64 0, .int .u8 0, .int .i64 0, .int .i64 0, .slice none 0 0, .slice none 0 0, .int .i64 0, .slice none 0 0] 49 := by rw [← hw1, ← hg]; exact (Blk.new w [.int .u8 0, .int .i64 0, .int .i64 0, .int .i64 0, .int .i64 0, .int .u8 0, .int .i64 0, .int .i64 0, .slice none 0 0, .slice none 0 0, .int .i64 0, .slice none 0 0] _).alloc _
  have hB1 : Blk w1 (g + 1) [.slice A m c, .int .i64 ((0 : Nat) : Int), .int .i64 0] 131 := by
    rw [← hw1, ← hg]
    have := Blk.new (w.alloc (.cells #[.int .u8 0, .int .i64 0, .int .i64 0, .int .i64 0, .int .i64 0, .int .u8 0, .int .i64 0, .int .i64 0, .slice none 0 0, .slice none 0 0, .int .i64 0, .slice none 0 0] 49)) [.slice A m c, .int .i64 0, .int .i64 0] 131
    rwa [World.size_alloc] at this
  have hb1 : Below w.heap.size w w1 := by rw [← hw1]; exact ((Below.refl _ _).alloc (Nat.le_refl _) _).alloc (by simp) _
  have hr1 := hr.below hb1
  have hz1 : w1.heap.size = g + 2 := by rw [← hw1, ← hg]; simp
  obtain ⟨b, hb⟩ : ∃ b, g + 1 = b := ⟨_, rfl⟩
  have hlo' : ∀ p, A = some p → p.block < g := by rw [← hg]; exact hlo
  rw [hb] at hB1
  have hAb : bys bs ≠ [] → ∀ p, A = some p → ¬ (fun k => k = b) p.block := fun _ p hp h => by have h : p.block = b := h; have := hlo' p hp; omega
  have HLo := hide hlo'
  have HAb := hide hAb
  have Hm := hide hm
  have HI := hide (rnumber_st b A m c bs 0 1 w1 0 (.inl rfl) hB1 hm hmc hm8 hc hr1 (by omega) (by omega))
  have HX := hide (And.intro hR1 (And.intro hr1 hb1))
  have Hw1 := hide hw1
  clear hR1 hr1 hb1 hB1 hr hlo hlo' hAb hm hw1
  go_enter Tryz.func27, Tryz.ntmps27
  go_wp2_with fail
  rw [Hw1.out]
  go_fit HI.out
  rintro e w2 ⟨v0, a1, E1, rfl, hB, hF, hS1⟩
  obtain ⟨K, rfl⟩ : ∃ K : Nat, v0 = (K : Int) := ⟨v0.toNat, by have := hS1.2.2.1 rfl; omega⟩
  have hK256 : K < 256 := by have := hS1.2.2.1 rfl; omega
  have hkw : IntKind.u8.wrap (K : Int) = (K : Int) := by rw [IntKind.wrap_u8]; omega
  have hzz := hF.size
  obtain ⟨x, hx⟩ : ∃ y, w2.heap.size = y := ⟨_, rfl⟩
  obtain ⟨w3, hw3⟩ : ∃ y, w2.alloc (.cells #[.int .u8 (K : Int), .int .i64 0, .int .i64 0, .int .i64 0, .int .i64 0, .int .u8 0, .int .i64 0, .int .i64 0, .slice none 0 0, .slice none 0 0, .int .i64 0, .slice none 0 0] 49) = y := ⟨_, rfl⟩
  have hX3 : Blk w3 x [.int .u8 (K : Int), .int .i64 0, .int .i64 0, .int .i64 0, .int .i64 0, .int .u8 0, .int .i64 0, .int .i64 0, .slice none 0 0, .slice none 0 0, .int .i64 0, .slice none 0 0] 49 := by rw [← hw3, ← hx]; exact Blk.new w2 _ _
  have hst : Below w2.heap.size w2 w3 := by rw [← hw3]; exact (Below.refl _ _).alloc (Nat.le_refl _) _
  have hbx : b < x := by omega
  have hz3 : w3.heap.size = x + 1 := by rw [← hw3, ← hx]; simp
  have hR3 := (HX.out.1.fr hF (fun h => by have h : g = b := h; omega)).below hst
  have hr3 := (HX.out.2.1.fr hF HAb.out).below hst
  have hb3 : Below w.heap.size w w3 := (hF.below HX.out.2.2 (by have := HX.out.2.2.size; omega) (fun k hk => by have hk : k = b := hk; omega)).trans (hst.mono (by have := HX.out.2.2.size; omega))
  have hB3 := hB.below hst
  have HI := hide (rnumber_st b A m c bs a1 8 w3 E1 hS1.er hB3 Hm.out hmc hm8 hc hr3 hS1.1 (by omega))
  have Hw3 := hide hw3
  have Hx := hide hx
  clear HX hB hF hst hw3 hx hB3
  go_wp2_with fail
  rw [Hw3.out]
  try rw [Hx.out]
  go_fit HI.out
  rintro e w4 ⟨n1, a2, E2, rfl, hB, hF, hS2⟩
  clear HI
  have hX := hX3.fr hF (fun h => by have h : x = b := h; omega)
  have x1 := hX.cell (j := 1) rfl
  have f1 := hX.frozen 1
  obtain ⟨w5, hw5⟩ : ∃ y, w4.setCell ⟨x, 1, none⟩ (.int .i64 n1) = y := ⟨_, rfl⟩
  have hf : Fr (fun k => k = x) w4 w5 := by rw [← hw5]; exact Fr.set (X := fun k => k = x) w4 ⟨x, 1, none⟩ _ rfl
  have hX5 : Blk w5 x [.int .u8 (K : Int), .int .i64 n1, .int .i64 0, .int .i64 0, .int .i64 0, .int .u8 0, .int .i64 0, .int .i64 0, .slice none 0 0, .slice none 0 0, .int .i64 0, .slice none 0 0] 49 := by rw [← hw5]; exact hX.set 1 _
  have hB5 := hB.fr hf (fun h => by have h : b = x := h; omega)
  have hR5 := (hR3.fr hF (fun h => by have h : g = b := h; omega)).fr hf (fun h => by have h : g = x := h; omega)
  have hr5 := (hr3.fr hF HAb.out).fr hf (fun _ p hp h => by have h : p.block = x := h; have := HLo.out p hp; omega)
  have hz5a := hF.size
  have hz5b := hf.size
  have hb5 : Below w.heap.size w w5 := hf.below (hF.below hb3 (by omega) (fun k hk => by have hk : k = b := hk; omega)) (by omega) (fun k hk => by have hk : k = x := hk; omega)
  have Hw5 := hide hw5
  have HI := hide (rnumber_st b A m c bs a2 8 w5 E2 hS2.er hB5 Hm.out hmc hm8 hc hr5 hS2.1 (by omega))
  clear hX hw5 hf hF hB hX3 hR3 hr3 hb3 hB5
  go_wp2_with fail
  rw [Hw5.out]
  clear x1 f1
  go_fit HI.out
  rintro e w6 ⟨n2, a3, E3, rfl, hB, hF, hS3⟩
  clear HI
  have hX := hX5.fr hF (fun h => by have h : x = b := h; omega)
  have x2 := hX.cell (j := 2) rfl
  have f2 := hX.frozen 2
  obtain ⟨w7, hw7⟩ : ∃ y, w6.setCell ⟨x, 2, none⟩ (.int .i64 n2) = y := ⟨_, rfl⟩
  have hf : Fr (fun k => k = x) w6 w7 := by rw [← hw7]; exact Fr.set (X := fun k => k = x) w6 ⟨x, 2, none⟩ _ rfl
  have hX7 : Blk w7 x [.int .u8 (K : Int), .int .i64 n1, .int .i64 n2, .int .i64 0, .int .i64 0, .int .u8 0, .int .i64 0, .int .i64 0, .slice none 0 0, .slice none 0 0, .int .i64 0, .slice none 0 0] 49 := by rw [← hw7]; exact hX.set 2 _
  have hB7 := hB.fr hf (fun h => by have h : b = x := h; omega)
  have hR7 := (hR5.fr hF (fun h => by have h : g = b := h; omega)).fr hf (fun h => by have h : g = x := h; omega)
  have hr7 := (hr5.fr hF HAb.out).fr hf (fun _ p hp h => by have h : p.block = x := h; have := HLo.out p hp; omega)
  have hz7a := hF.size
  have hz7b := hf.size
  have hb7 : Below w.heap.size w w7 := hf.below (hF.below hb5 (by omega) (fun k hk => by have hk : k = b := hk; omega)) (by omega) (fun k hk => by have hk : k = x := hk; omega)
  have Hw7 := hide hw7
  have HI := hide (rnumber_st b A m c bs a3 8 w7 E3 hS3.er hB7 Hm.out hmc hm8 hc hr7 hS3.1 (by omega))
  clear hX hw7 hf hF hB hX5 hR5 hr5 hb5 hB7
  go_wp2_with fail
  rw [Hw7.out]
  clear x2 f2
  go_fit HI.out
  rintro e w8 ⟨n3, a4, E4, rfl, hB, hF, hS4⟩
  clear HI
  have hX := hX7.fr hF (fun h => by have h : x = b := h; omega)
  have x3 := hX.cell (j := 3) rfl
  have f3 := hX.frozen 3
  obtain ⟨w9, hw9⟩ : ∃ y, w8.setCell ⟨x, 3, none⟩ (.int .i64 n3) = y := ⟨_, rfl⟩
  have hf : Fr (fun k => k = x) w8 w9 := by rw [← hw9]; exact Fr.set (X := fun k => k = x) w8 ⟨x, 3, none⟩ _ rfl
  have hX9 : Blk w9 x [.int .u8 (K : Int), .int .i64 n1, .int .i64 n2, .int .i64 n3, .int .i64 0, .int .u8 0, .int .i64 0, .int .i64 0, .slice none 0 0, .slice none 0 0, .int .i64 0, .slice none 0 0] 49 := by rw [← hw9]; exact hX.set 3 _
  have hB9 := hB.fr hf (fun h => by have h : b = x := h; omega)
  have hR9 := (hR7.fr hF (fun h => by have h : g = b := h; omega)).fr hf (fun h => by have h : g = x := h; omega)
  have hr9 := (hr7.fr hF HAb.out).fr hf (fun _ p hp h => by have h : p.block = x := h; have := HLo.out p hp; omega)
  have hz9a := hF.size
  have hz9b := hf.size
  have hb9 : Below w.heap.size w w9 := hf.below (hF.below hb7 (by omega) (fun k hk => by have hk : k = b := hk; omega)) (by omega) (fun k hk => by have hk : k = x := hk; omega)
  have Hw9 := hide hw9
  have HI := hide (rnumber_st b A m c bs a4 8 w9 E4 hS4.er hB9 Hm.out hmc hm8 hc hr9 hS4.1 (by omega))
  clear hX hw9 hf hF hB hX7 hR7 hr7 hb7 hB9
  go_wp2_with fail
  rw [Hw9.out]
  clear x3 f3
  go_fit HI.out
  rintro e w10 ⟨n4, a5, E5, rfl, hB, hF, hS5⟩
  clear HI
  have hX := hX9.fr hF (fun h => by have h : x = b := h; omega)
  have x4 := hX.cell (j := 4) rfl
  have f4 := hX.frozen 4
  obtain ⟨w11, hw11⟩ : ∃ y, w10.setCell ⟨x, 4, none⟩ (.int .i64 n4) = y := ⟨_, rfl⟩
  have hf : Fr (fun k => k = x) w10 w11 := by rw [← hw11]; exact Fr.set (X := fun k => k = x) w10 ⟨x, 4, none⟩ _ rfl
  have hX11 : Blk w11 x [.int .u8 (K : Int), .int .i64 n1, .int .i64 n2, .int .i64 n3, .int .i64 n4, .int .u8 0, .int .i64 0, .int .i64 0, .slice none 0 0, .slice none 0 0, .int .i64 0, .slice none 0 0] 49 := by rw [← hw11]; exact hX.set 4 _
  have hB11 := hB.fr hf (fun h => by have h : b = x := h; omega)
  have hR11 := (hR9.fr hF (fun h => by have h : g = b := h; omega)).fr hf (fun h => by have h : g = x := h; omega)
  have hr11 := (hr9.fr hF HAb.out).fr hf (fun _ p hp h => by have h : p.block = x := h; have := HLo.out p hp; omega)
  have hz11a := hF.size
  have hz11b := hf.size
  have hb11 : Below w.heap.size w w11 := hf.below (hF.below hb9 (by omega) (fun k hk => by have hk : k = b := hk; omega)) (by omega) (fun k hk => by have hk : k = x := hk; omega)
  have Hw11 := hide hw11
  clear hX hw11 hf hF hB hX9 hR9 hr9 hb9
  go_upto_region 7 with fail
  rw [Hw11.out]
  clear x4 f4
  have k0 := hX11.cell (j := 0) rfl
  go_upto_block 0 with fail
  clear k0
  go_cut [] from 28 to 38 (fun wx => ∃ (cs : List Value) (at_ Ev : Int), Blk wx x cs 49 ∧ Blk wx b [.slice A m c, .int .i64 at_, .int .i64 Ev] 131 ∧ Blk wx g [.int .u8 0, .int .i64 0, .int .i64 0, .int .i64 0, .int .i64 0, .int .u8 0, .int .i64 0, .int .i64 0, .slice none 0 0, .slice none 0 0, .int .i64 0, .slice none 0 0] 49 ∧ Below w.heap.size w wx ∧ x + 1 ≤ wx.heap.size ∧ ((Ev = 0 ∧ rdE7 bs = 0 ∧ at_ = rdT7 bs ∧ tyEntry.Is wx (fun k => x < k) (rdV7 rI7 bs) cs) ∨ (Ev ≠ 0 ∧ rdE7 bs = Ev)))
  case first =>
    have hN1 := hide (show -9223372036854775808 ≤ n1 ∧ n1 ≤ 9223372036854775807 by have := hS2.2.1; omega)
    have hN2 := hide (show -9223372036854775808 ≤ n2 ∧ n2 ≤ 9223372036854775807 by have := hS3.2.1; omega)
    have hN3 := hide (show -9223372036854775808 ≤ n3 ∧ n3 ≤ 9223372036854775807 by have := hS4.2.1; omega)
    have hN4 := hide (show -9223372036854775808 ≤ n4 ∧ n4 ≤ 9223372036854775807 by have := hS5.2.1; omega)
    have hHDR := hdrR hS1 hS2 hS3 hS4 hS5
    clear hS1 hS2 hS3 hS4 hS5
    by_cases hK1 : K = 1
    · have hq1 : ((K : Int) == 1) = true := by simpa using (show (K : Int) = 1 by omega)
      rcases hHDR with ⟨hE5, h33, ha5, hk0, hv1, hv2, hv3, hv4⟩ | ⟨hE5, h33⟩
      · subst hE5 ha5
        have hKg : getV bs 0 1 = K := by omega
        have HVV : Hid (rdV7 rI7 bs = (K, n1, n2, n3, n4, (if K = 1 then (opK (bs.drop 33), (opP (bs.drop 33) : Int), (opN (bs.drop 33) : Int), opD (bs.drop 33), opO (bs.drop 33)) else (0, 0, 0, [], [])), (if K = 2 then (rI7 (getV bs 33 8), memB bs 42 (getV bs 41 1)) else (0, [])))) := hide (by rw [← hKg, hv1, hv2, hv3, hv4]; rfl)
        have HTT : Hid (rdT7 bs = if K = 1 then 33 + opT (bs.drop 33) else if K = 2 then 42 + (getV bs 41 1 : Int) else 33) := hide (by rw [← hKg]; rfl)
        have HEE : Hid (rdE7 bs = if m < 33 then 10 else if K = 1 then opE (bs.drop 33) else if K = 2 then (if 42 + getV bs 41 1 ≤ m then 0 else 10) else 0) := hide (by rw [← hKg, ← Hm.out]; rfl)
        have h33' : ¬ m < 33 := by omega
        clear hk0 hv1 hv2 hv3 hv4 hKg
        have hHD := rop_any b A m c bs 33 w11 hB11 Hm.out hmc hm8 hc hr11 h33
        unfold ROpRd at hHD
        obtain ⟨r, hrr⟩ : ∃ y, bs.drop 33 = y := ⟨_, rfl⟩
        have hkb : opK r < 256 := by
          unfold opK
          split
          · exact getV_1 r 0
          · omega
        have hpb : opP r ≤ 4294967295 ∧ opN r ≤ 4294967295 := by
          constructor
          · unfold opP
            split
            · exact getV_4 r 1
            · omega
          · unfold opN
            split
            · exact getV_4 r 5
            · omega
        have hV0 : rdV7 rI7 bs = (K, n1, n2, n3, n4, (opK r, (opP r : Int), (opN r : Int), opD r, opO r), (0, [])) := by rw [HVV.out, if_pos hK1, if_neg (by omega), hrr]
        have hT0 : rdT7 bs = 33 + opT r := by rw [HTT.out, if_pos hK1, hrr]
        have hE0 : rdE7 bs = opE r := by rw [HEE.out, if_neg h33', if_pos hK1, hrr]
        simp only [hrr] at hHD
        obtain ⟨ok, hok⟩ : ∃ y, opK r = y := ⟨_, rfl⟩
        obtain ⟨op, hop⟩ : ∃ y, opP r = y := ⟨_, rfl⟩
        obtain ⟨on, hon⟩ : ∃ y, opN r = y := ⟨_, rfl⟩
        obtain ⟨ds, hds⟩ : ∃ y, opD r = y := ⟨_, rfl⟩
        obtain ⟨os, hos⟩ : ∃ y, opO r = y := ⟨_, rfl⟩
        obtain ⟨t, ht⟩ : ∃ y, opT r = y := ⟨_, rfl⟩
        obtain ⟨e0, he0⟩ : ∃ y, opE r = y := ⟨_, rfl⟩
        simp only [hok, hop, hon, hds, hos, ht, he0] at hHD hV0 hT0 hE0 hkb hpb
        obtain ⟨dl, hdl⟩ : ∃ y, ds.length = y := ⟨_, rfl⟩
        obtain ⟨ol, hol⟩ : ∃ y, os.length = y := ⟨_, rfl⟩
        simp only [hdl, hol] at hHD
        have HD := hide hHD
        have HV0 := hide hV0
        have HT0 := hide hT0
        have HE0 := hide hE0
        have Hdl := hide hdl
        have Hol := hide hol
        have Hpb := hide hpb
        clear hHD hrr hok hop hon hds hos ht he0 hV0 hT0 hE0 hdl hol hpb hB11 hr11 HVV HTT HEE hK1
        go_wp2_with fail
        go_fit HD.out
        rintro e w12 ⟨D, dc, O, oc, rfl, hD, hO, hcap, hB, hF, uD, uO⟩
        have hX := hX11.fr hF (fun h => by have h : x = b := h; omega)
        have hR := hR11.fr hF (fun h => by have h : g = b := h; omega)
        have hz12 := hF.size
        have hb' : Below w.heap.size w w12 := hF.below hb11 (by omega) (fun k hk => by have hk : k = b := hk; omega)
        have uD' : ∀ p, D = some p → x < p.block := fun p hp => by have := uD p hp; omega
        have uO' : ∀ p, O = some p → x < p.block := fun p hp => by have := uO p hp; omega
        clear HD hX11 hR11 hb11 hF uD uO
        have t5 := hX.cell (j := 5) rfl; have p5 := hX.frozen 5; have t6 := hX.cell (j := 6) rfl; have p6 := hX.frozen 6; have t7 := hX.cell (j := 7) rfl; have p7 := hX.frozen 7; have t8 := hX.cell (j := 8) rfl; have p8 := hX.frozen 8; have t9 := hX.cell (j := 9) rfl; have p9 := hX.frozen 9
        obtain ⟨X, hX'⟩ : ∃ y, (((((w12.setCell ⟨x, 5, none⟩ (.int .u8 (ok : Int))).setCell ⟨x, 6, none⟩ (.int .i64 (op : Int))).setCell ⟨x, 7, none⟩ (.int .i64 (on : Int))).setCell ⟨x, 8, none⟩ (.slice D dl dc)).setCell ⟨x, 9, none⟩ (.slice O ol oc)) = y := ⟨_, rfl⟩
        have hXn : Blk X x [.int .u8 (K : Int), .int .i64 n1, .int .i64 n2, .int .i64 n3, .int .i64 n4, .int .u8 (ok : Int), .int .i64 (op : Int), .int .i64 (on : Int), .slice D dl dc, .slice O ol oc, .int .i64 0, .slice none 0 0] 49 := by rw [← hX']; exact (((((hX.set 5 (.int .u8 (ok : Int))).set 6 (.int .i64 (op : Int))).set 7 (.int .i64 (on : Int))).set 8 (.slice D dl dc)).set 9 (.slice O ol oc))
        have hfX : Fr (fun k => k = x) w12 X := by rw [← hX']; exact (((((Fr.set (X := fun k => k = x) w12 ⟨x, 5, none⟩ _ rfl).trans (Fr.set (X := fun k => k = x) _ ⟨x, 6, none⟩ _ rfl)).trans (Fr.set (X := fun k => k = x) _ ⟨x, 7, none⟩ _ rfl)).trans (Fr.set (X := fun k => k = x) _ ⟨x, 8, none⟩ _ rfl)).trans (Fr.set (X := fun k => k = x) _ ⟨x, 9, none⟩ _ rfl))
        have hBn := hB.fr hfX (fun h => by have h : b = x := h; omega)
        have hRn := hR.fr hfX (fun h => by have h : g = x := h; omega)
        have hbn : Below w.heap.size w X := hfX.below hb' (by omega) (fun k hk => by have hk : k = x := hk; omega)
        have hzn := hfX.size
        have hDn := hD.fr hfX (fun _ p hp h => by have h : p.block = x := h; have := uD' p hp; omega)
        have hOn := hO.fr hfX (fun _ p hp h => by have h : p.block = x := h; have := uO' p hp; omega)
        have HX' := hide hX'
        have HF := hide (And.intro hXn (And.intro hBn (And.intro hRn hbn)))
        clear hX' hX hB hR hb' hfX hXn hBn hRn hbn
        go_wp2_with fail
        rw [HX'.out]
        clear t5 p5 t6 p6 t7 p7 t8 p8 t9 p9
        go_meet
        exact ⟨_, _, _, HF.out.1, HF.out.2.1, HF.out.2.2.1, HF.out.2.2.2, by omega, if he : e0 = 0 then .inl ⟨he, HE0.out.trans he, HT0.out.symm, by
          rw [HV0.out]
          exact Entry_mk hK256 hN1.out.1 hN1.out.2 hN2.out.1 hN2.out.2 hN3.out.1 hN3.out.2 hN4.out.1 hN4.out.2 hkb (by have := Hpb.out; omega) (by have := Hpb.out; omega) (by have := Hpb.out; omega) (by have := Hpb.out; omega) Hdl.out hcap.1 hcap.2.1 hDn (fun _ p hp => uD' p hp) Hol.out hcap.2.2.1 hcap.2.2.2 hOn (fun _ p hp => uO' p hp) (by decide) (by decide) rfl (Nat.le_refl _) (by decide) Rd.nil (fun h => absurd rfl h) Ty.Rows.nil⟩ else .inr ⟨he, HE0.out⟩⟩
      · subst hE5
        have hE10 := hide (show rdE7 bs = 10 by unfold rdE7; rw [if_pos (by rw [Hm.out]; exact h33)])
        have HD := hide (rop_off b A m c (a5 : Int) 10 w11 hB11 (by decide))
        clear hB11 hr11 hK1
        go_wp2_with fail
        go_fit HD.out
        rintro e w12 ⟨rfl, hB, hF⟩
        have hX := hX11.fr hF (fun h => by have h : x = b := h; omega)
        have hR := hR11.fr hF (fun h => by have h : g = b := h; omega)
        have hz12 := hF.size
        have hb' : Below w.heap.size w w12 := hF.below hb11 (by omega) (fun k hk => by have hk : k = b := hk; omega)
        clear HD hX11 hR11 hb11 hF
        have t5 := hX.cell (j := 5) rfl; have p5 := hX.frozen 5; have t6 := hX.cell (j := 6) rfl; have p6 := hX.frozen 6; have t7 := hX.cell (j := 7) rfl; have p7 := hX.frozen 7; have t8 := hX.cell (j := 8) rfl; have p8 := hX.frozen 8; have t9 := hX.cell (j := 9) rfl; have p9 := hX.frozen 9
        obtain ⟨X, hX'⟩ : ∃ y, (((((w12.setCell ⟨x, 5, none⟩ (.int .u8 0)).setCell ⟨x, 6, none⟩ (.int .i64 0)).setCell ⟨x, 7, none⟩ (.int .i64 0)).setCell ⟨x, 8, none⟩ (.slice none 0 0)).setCell ⟨x, 9, none⟩ (.slice none 0 0)) = y := ⟨_, rfl⟩
        have hXn : Blk X x [.int .u8 (K : Int), .int .i64 n1, .int .i64 n2, .int .i64 n3, .int .i64 n4, .int .u8 0, .int .i64 0, .int .i64 0, .slice none 0 0, .slice none 0 0, .int .i64 0, .slice none 0 0] 49 := by rw [← hX']; exact (((((hX.set 5 (.int .u8 0)).set 6 (.int .i64 0)).set 7 (.int .i64 0)).set 8 (.slice none 0 0)).set 9 (.slice none 0 0))
        have hfX : Fr (fun k => k = x) w12 X := by rw [← hX']; exact (((((Fr.set (X := fun k => k = x) w12 ⟨x, 5, none⟩ _ rfl).trans (Fr.set (X := fun k => k = x) _ ⟨x, 6, none⟩ _ rfl)).trans (Fr.set (X := fun k => k = x) _ ⟨x, 7, none⟩ _ rfl)).trans (Fr.set (X := fun k => k = x) _ ⟨x, 8, none⟩ _ rfl)).trans (Fr.set (X := fun k => k = x) _ ⟨x, 9, none⟩ _ rfl))
        have hBn := hB.fr hfX (fun h => by have h : b = x := h; omega)
        have hRn := hR.fr hfX (fun h => by have h : g = x := h; omega)
        have hbn : Below w.heap.size w X := hfX.below hb' (by omega) (fun k hk => by have hk : k = x := hk; omega)
        have hzn := hfX.size
        have HX' := hide hX'
        have HF := hide (And.intro hXn (And.intro hBn (And.intro hRn hbn)))
        clear hX' hX hB hR hb' hfX hXn hBn hRn hbn
        go_wp2_with fail
        rw [HX'.out]
        clear t5 p5 t6 p6 t7 p7 t8 p8 t9 p9
        go_meet
        exact ⟨_, _, _, HF.out.1, HF.out.2.1, HF.out.2.2.1, HF.out.2.2.2, by omega, .inr ⟨by decide, hE10.out⟩⟩
    have hq1 : ((K : Int) == 1) = false := by simpa using (show ¬ (K : Int) = 1 by omega)
    by_cases hK2 : K = 2
    · have hq2 : ((K : Int) == 2) = true := by simpa using (show (K : Int) = 2 by omega)
      rcases hHDR with ⟨hE5, h33, ha5, hk0, hv1, hv2, hv3, hv4⟩ | ⟨hE5, h33⟩
      · subst hE5 ha5
        have hKg : getV bs 0 1 = K := by omega
        have HVV : Hid (rdV7 rI7 bs = (K, n1, n2, n3, n4, (if K = 1 then (opK (bs.drop 33), (opP (bs.drop 33) : Int), (opN (bs.drop 33) : Int), opD (bs.drop 33), opO (bs.drop 33)) else (0, 0, 0, [], [])), (if K = 2 then (rI7 (getV bs 33 8), memB bs 42 (getV bs 41 1)) else (0, [])))) := hide (by rw [← hKg, hv1, hv2, hv3, hv4]; rfl)
        have HTT : Hid (rdT7 bs = if K = 1 then 33 + opT (bs.drop 33) else if K = 2 then 42 + (getV bs 41 1 : Int) else 33) := hide (by rw [← hKg]; rfl)
        have HEE : Hid (rdE7 bs = if m < 33 then 10 else if K = 1 then opE (bs.drop 33) else if K = 2 then (if 42 + getV bs 41 1 ≤ m then 0 else 10) else 0) := hide (by rw [← hKg, ← Hm.out]; rfl)
        have h33' : ¬ m < 33 := by omega
        clear hk0 hv1 hv2 hv3 hv4 hKg
        have hHG := rgroupD_any b A m c bs 33 w11 hB11 Hm.out hmc hm8 hc hr11 (fun p hp => by have := HLo.out p hp; omega) h33
        unfold RGrp at hHG
        obtain ⟨ep, hep⟩ : ∃ y, rI7 (getV bs 33 8) = y := ⟨_, rfl⟩
        obtain ⟨gn, hgn⟩ : ∃ y, getV bs 41 1 = y := ⟨_, rfl⟩
        have hepb : -9223372036854775808 ≤ ep ∧ ep ≤ 9223372036854775807 := hep ▸ rI7_bd _
        have hgn256 : gn < 256 := by rw [← hgn]; exact getV_1 bs 41
        have e1 : rI7 (getV bs ((33 : Nat) : Int) 8) = ep := hep
        have e2 : getV bs ((33 + 8 : Nat) : Int) 1 = gn := hgn
        rw [e1, e2] at hHG
        have hfit : grpFits bs 33 ↔ 42 + gn ≤ m := by unfold grpFits; rw [e2, Hm.out]
        have hV0 := hide (show rdV7 rI7 bs = (K, n1, n2, n3, n4, (0, 0, 0, [], []), (ep, memB bs 42 gn)) by rw [HVV.out, if_neg hK1, if_pos hK2, hep, hgn])
        have hT0 := hide (show rdT7 bs = ((42 + gn : Nat) : Int) by rw [HTT.out, if_neg hK1, if_pos hK2, hgn]; omega)
        have hE0 := hide (show rdE7 bs = if 42 + gn ≤ m then 0 else 10 by rw [HEE.out, if_neg h33', if_neg hK1, if_pos hK2, hgn])
        have HG := hide hHG
        have Hfit := hide hfit
        have Hepb := hide hepb
        clear hHG hep hgn e1 e2 hfit hepb hB11 hr11 HVV HTT HEE hK2
        go_wp2_with fail
        go_fit HG.out
        rintro e w12 ⟨hF, hcase⟩
        have hX := hX11.fr hF (fun h => by have h : x = b := h; omega)
        have hR := hR11.fr hF (fun h => by have h : g = b := h; omega)
        have hz12 := hF.size
        have hb' : Below w.heap.size w w12 := hF.below hb11 (by omega) (fun k hk => by have hk : k = b := hk; omega)
        clear HG hX11 hR11 hb11 hF
        rcases hcase with ⟨hok, M, mc, rfl, hO4, hB⟩ | ⟨hno, ep', M', k', mc', at', rfl, hB⟩
        · have hok' := Hfit.out.1 hok
          obtain ⟨hmc1, hmc2⟩ := own_cap hO4
          obtain ⟨_, _, hvv, _, _, _, hM, haM⟩ := own_out hO4
          injection hvv with i1 i2 i3
          subst i1 i3
          have haM' : ∀ p, M = some p → x < p.block := fun p hp => by have := (haM p hp).1; omega
          clear hO4 haM hok
          have t10 := hX.cell (j := 10) rfl; have p10 := hX.frozen 10; have t11 := hX.cell (j := 11) rfl; have p11 := hX.frozen 11
          obtain ⟨X, hX'⟩ : ∃ y, ((w12.setCell ⟨x, 10, none⟩ (.int .i64 ep)).setCell ⟨x, 11, none⟩ (.slice M gn mc)) = y := ⟨_, rfl⟩
          have hXn : Blk X x [.int .u8 (K : Int), .int .i64 n1, .int .i64 n2, .int .i64 n3, .int .i64 n4, .int .u8 0, .int .i64 0, .int .i64 0, .slice none 0 0, .slice none 0 0, .int .i64 ep, .slice M gn mc] 49 := by rw [← hX']; exact ((hX.set 10 (.int .i64 ep)).set 11 (.slice M gn mc))
          have hfX : Fr (fun k => k = x) w12 X := by rw [← hX']; exact ((Fr.set (X := fun k => k = x) w12 ⟨x, 10, none⟩ _ rfl).trans (Fr.set (X := fun k => k = x) _ ⟨x, 11, none⟩ _ rfl))
          have hBn := hB.fr hfX (fun h => by have h : b = x := h; omega)
          have hRn := hR.fr hfX (fun h => by have h : g = x := h; omega)
          have hbn : Below w.heap.size w X := hfX.below hb' (by omega) (fun k hk => by have hk : k = x := hk; omega)
          have hzn := hfX.size
          have hMn := hM.fr hfX (fun _ p hp h => by have h : p.block = x := h; have := haM' p hp; omega)
          have HX' := hide hX'
          have HF := hide (And.intro hXn (And.intro hBn (And.intro hRn hbn)))
          clear hX' hX hB hR hb' hfX hXn hBn hRn hbn
          go_wp2_with fail
          rw [HX'.out]
          clear t10 p10 t11 p11
          go_meet
          exact ⟨_, _, _, HF.out.1, HF.out.2.1, HF.out.2.2.1, HF.out.2.2.2, by omega, .inl ⟨rfl, by rw [hE0.out, if_pos hok'], hT0.out.symm, by
            rw [hV0.out]
            exact Entry_mk hK256 hN1.out.1 hN1.out.2 hN2.out.1 hN2.out.2 hN3.out.1 hN3.out.2 hN4.out.1 hN4.out.2 (by decide) (by decide) (by decide) (by decide) (by decide) rfl (Nat.le_refl _) (by decide) Rd.nil (fun h => absurd rfl h) rfl (Nat.le_refl _) (by decide) Rd.nil (fun h => absurd rfl h) Hepb.out.1 Hepb.out.2 (memB_len bs 42 gn) hmc1 hmc2 hMn (fun _ p hp => haM' p hp) (i64rows_mk fun x hx => memB_bd hx)⟩⟩
        · have t10 := hX.cell (j := 10) rfl; have p10 := hX.frozen 10; have t11 := hX.cell (j := 11) rfl; have p11 := hX.frozen 11
          obtain ⟨X, hX'⟩ : ∃ y, ((w12.setCell ⟨x, 10, none⟩ (.int .i64 ep')).setCell ⟨x, 11, none⟩ (.slice M' k' mc')) = y := ⟨_, rfl⟩
          have hXn : Blk X x [.int .u8 (K : Int), .int .i64 n1, .int .i64 n2, .int .i64 n3, .int .i64 n4, .int .u8 0, .int .i64 0, .int .i64 0, .slice none 0 0, .slice none 0 0, .int .i64 ep', .slice M' k' mc'] 49 := by rw [← hX']; exact ((hX.set 10 (.int .i64 ep')).set 11 (.slice M' k' mc'))
          have hfX : Fr (fun k => k = x) w12 X := by rw [← hX']; exact ((Fr.set (X := fun k => k = x) w12 ⟨x, 10, none⟩ _ rfl).trans (Fr.set (X := fun k => k = x) _ ⟨x, 11, none⟩ _ rfl))
          have hBn := hB.fr hfX (fun h => by have h : b = x := h; omega)
          have hRn := hR.fr hfX (fun h => by have h : g = x := h; omega)
          have hbn : Below w.heap.size w X := hfX.below hb' (by omega) (fun k hk => by have hk : k = x := hk; omega)
          have hzn := hfX.size
          have HX' := hide hX'
          have HF := hide (And.intro hXn (And.intro hBn (And.intro hRn hbn)))
          clear hX' hX hB hR hb' hfX hXn hBn hRn hbn
          go_wp2_with fail
          rw [HX'.out]
          clear t10 p10 t11 p11
          go_meet
          exact ⟨_, _, _, HF.out.1, HF.out.2.1, HF.out.2.2.1, HF.out.2.2.2, by omega, .inr ⟨by decide, by rw [hE0.out, if_neg (fun h => hno (Hfit.out.2 h))]⟩⟩
      · subst hE5
        have hE10 := hide (show rdE7 bs = 10 by unfold rdE7; rw [if_pos (by rw [Hm.out]; exact h33)])
        have HD := hide (rgroup_off b A m c a5 10 w11 hB11 (by decide))
        clear hB11 hr11 hK2
        go_wp2_with fail
        go_fit HD.out
        rintro e w12 ⟨hB, hF, rfl⟩
        have hX := hX11.fr hF (fun h => by have h : x = b := h; omega)
        have hR := hR11.fr hF (fun h => by have h : g = b := h; omega)
        have hz12 := hF.size
        have hb' : Below w.heap.size w w12 := hF.below hb11 (by omega) (fun k hk => by have hk : k = b := hk; omega)
        clear HD hX11 hR11 hb11 hF
        have t10 := hX.cell (j := 10) rfl; have p10 := hX.frozen 10; have t11 := hX.cell (j := 11) rfl; have p11 := hX.frozen 11
        obtain ⟨X, hX'⟩ : ∃ y, ((w12.setCell ⟨x, 10, none⟩ (.int .i64 0)).setCell ⟨x, 11, none⟩ (.slice none 0 0)) = y := ⟨_, rfl⟩
        have hXn : Blk X x [.int .u8 (K : Int), .int .i64 n1, .int .i64 n2, .int .i64 n3, .int .i64 n4, .int .u8 0, .int .i64 0, .int .i64 0, .slice none 0 0, .slice none 0 0, .int .i64 0, .slice none 0 0] 49 := by rw [← hX']; exact ((hX.set 10 (.int .i64 0)).set 11 (.slice none 0 0))
        have hfX : Fr (fun k => k = x) w12 X := by rw [← hX']; exact ((Fr.set (X := fun k => k = x) w12 ⟨x, 10, none⟩ _ rfl).trans (Fr.set (X := fun k => k = x) _ ⟨x, 11, none⟩ _ rfl))
        have hBn := hB.fr hfX (fun h => by have h : b = x := h; omega)
        have hRn := hR.fr hfX (fun h => by have h : g = x := h; omega)
        have hbn : Below w.heap.size w X := hfX.below hb' (by omega) (fun k hk => by have hk : k = x := hk; omega)
        have hzn := hfX.size
        have HX' := hide hX'
        have HF := hide (And.intro hXn (And.intro hBn (And.intro hRn hbn)))
        clear hX' hX hB hR hb' hfX hXn hBn hRn hbn
        go_wp2_with fail
        rw [HX'.out]
        clear t10 p10 t11 p11
        go_meet
        exact ⟨_, _, _, HF.out.1, HF.out.2.1, HF.out.2.2.1, HF.out.2.2.2, by omega, .inr ⟨by decide, hE10.out⟩⟩
    have hq2 : ((K : Int) == 2) = false := by simpa using (show ¬ (K : Int) = 2 by omega)
    rcases hHDR with ⟨hE5, h33, ha5, hk0, hv1, hv2, hv3, hv4⟩ | ⟨hE5, h33⟩
    · subst hE5 ha5
      have hKg : getV bs 0 1 = K := by omega
      have HVV : Hid (rdV7 rI7 bs = (K, n1, n2, n3, n4, (if K = 1 then (opK (bs.drop 33), (opP (bs.drop 33) : Int), (opN (bs.drop 33) : Int), opD (bs.drop 33), opO (bs.drop 33)) else (0, 0, 0, [], [])), (if K = 2 then (rI7 (getV bs 33 8), memB bs 42 (getV bs 41 1)) else (0, [])))) := hide (by rw [← hKg, hv1, hv2, hv3, hv4]; rfl)
      have HTT : Hid (rdT7 bs = if K = 1 then 33 + opT (bs.drop 33) else if K = 2 then 42 + (getV bs 41 1 : Int) else 33) := hide (by rw [← hKg]; rfl)
      have HEE : Hid (rdE7 bs = if m < 33 then 10 else if K = 1 then opE (bs.drop 33) else if K = 2 then (if 42 + getV bs 41 1 ≤ m then 0 else 10) else 0) := hide (by rw [← hKg, ← Hm.out]; rfl)
      have h33' : ¬ m < 33 := by omega
      clear hk0 hv1 hv2 hv3 hv4 hKg
      have HF := hide (And.intro hX11 (And.intro hB11 (And.intro hR11 hb11)))
      clear hB11 hr11 hX11 hR11 hb11
      go_wp2_with fail
      go_meet
      exact ⟨_, _, _, HF.out.1, HF.out.2.1, HF.out.2.2.1, HF.out.2.2.2, by omega, .inl ⟨rfl, by rw [HEE.out, if_neg h33', if_neg hK1, if_neg hK2], by rw [HTT.out, if_neg hK1, if_neg hK2]; rfl, by
        rw [HVV.out, if_neg hK1, if_neg hK2]
        exact Entry_mk hK256 hN1.out.1 hN1.out.2 hN2.out.1 hN2.out.2 hN3.out.1 hN3.out.2 hN4.out.1 hN4.out.2 (by decide) (by decide) (by decide) (by decide) (by decide) rfl (Nat.le_refl _) (by decide) Rd.nil (fun h => absurd rfl h) rfl (Nat.le_refl _) (by decide) Rd.nil (fun h => absurd rfl h) (by decide) (by decide) rfl (Nat.le_refl _) (by decide) Rd.nil (fun h => absurd rfl h) Ty.Rows.nil⟩⟩
    · subst hE5
      have hE10 := hide (show rdE7 bs = 10 by unfold rdE7; rw [if_pos (by rw [Hm.out]; exact h33)])
      have HF := hide (And.intro hX11 (And.intro hB11 (And.intro hR11 hb11)))
      clear hB11 hr11 hX11 hR11 hb11
      go_wp2_with fail
      go_meet
      exact ⟨_, _, _, HF.out.1, HF.out.2.1, HF.out.2.2.1, HF.out.2.2.2, by omega, .inr ⟨by decide, hE10.out⟩⟩
  case rest =>
    obtain ⟨cs, at_, Ev, hX, hB, hR, hbw, hz, hcase⟩ := hcut
    clear hX11 hR11 hB11 hr11 hb11 hS1 hS2 hS3 hS4 hS5 hzz hz1 hz3 hz5a hz5b hz7a hz7b hz9a hz9b hz11a hz11b
    rcases hcase with ⟨rfl, hE0, rfl, hI⟩ | ⟨hne, hE0⟩
    · obtain ⟨V0, hV0⟩ : ∃ y, rdV7 rI7 bs = y := ⟨_, rfl⟩
      obtain ⟨T0, hT0⟩ : ∃ y, rdT7 bs = y := ⟨_, rfl⟩
      rw [hV0] at hI
      rw [hT0] at hB
      have hDE : deE7 rI7 bs = if entryB V0 = true then 0 else 42 := by unfold deE7; rw [if_neg (by rw [hE0]; decide), hV0]
      have hDV : deE7 rI7 bs = 0 → deV7 rI7 bs = V0 ∧ deT7 rI7 bs = T0 := fun h => by unfold deV7 deT7; rw [if_pos h, if_pos h]; exact ⟨hV0, hT0⟩
      have HDE := hide hDE
      have HDV := hide hDV
      clear hDE hDV hV0 hT0 hE0
      have hI' := hI
      obtain ⟨eKind, eNum, eView, eClient, eSerial, eOpKind, eOpAt, eOpN, eOpData, eOpDataA, eOpDatan, eOpDatac, eOpOld, eOpOldA, eOpOldn, eOpOldc, eGroupEpoch, eGroupMembers, eGroupMembersA, eGroupMembersn, eGroupMembersc, eGroupMembersv, rfl, rfl, hu_eKind, h1_eNum, h2_eNum, h1_eView, h2_eView, h1_eClient, h2_eClient, h1_eSerial, h2_eSerial, hu_eOpKind, h1_eOpAt, h2_eOpAt, h1_eOpN, h2_eOpN, hl_eOpData, hc_eOpData, hm_eOpData, hr_eOpData, hq_eOpData, hl_eOpOld, hc_eOpOld, hm_eOpOld, hr_eOpOld, hq_eOpOld, h1_eGroupEpoch, h2_eGroupEpoch, hl_eGroupMembers, hc_eGroupMembers, hm_eGroupMembers, hr_eGroupMembers, hq_eGroupMembers, he_eGroupMembers⟩ := Entry_out hI
      have HMY := rentry_any hI'
      have b2 := hB.cell (j := 2) rfl
      have y0 := hX.cell (j := 0) rfl; have y1 := hX.cell (j := 1) rfl; have y2 := hX.cell (j := 2) rfl; have y3 := hX.cell (j := 3) rfl; have y4 := hX.cell (j := 4) rfl; have y5 := hX.cell (j := 5) rfl; have y6 := hX.cell (j := 6) rfl; have y7 := hX.cell (j := 7) rfl; have y8 := hX.cell (j := 8) rfl; have y9 := hX.cell (j := 9) rfl; have y10 := hX.cell (j := 10) rfl; have y11 := hX.cell (j := 11) rfl
      cases hq : entryB (eKind, eNum, eView, eClient, eSerial, (eOpKind, eOpAt, eOpN, eOpData, eOpOld), (eGroupEpoch, eGroupMembers)) with
      | false =>
        have hx : deE7 rI7 bs = 42 := by rw [HDE.out, hq]; decide
        rw [enE_no hq] at HMY
        have HMY := hide HMY
        have Hx := hide hx
        clear hx hq hI'
        go_wp2_with fail
        go_fit HMY.out
        rintro e w13 ⟨rfl, hb13⟩
        have hB' := hB.below hb13
        have hR' := hR.below hb13
        have hbw' := hbw.trans (hb13.mono hbw.size)
        have hz13 := hb13.size
        clear HMY b2 y0 y1 y2 y3 y4 y5 y6 y7 y8 y9 y10 y11 hB hR hX hb13 hbw
        have b2 := hB'.cell (j := 2) rfl
        have fb2 := hB'.frozen 2
        obtain ⟨w14, hw14⟩ : ∃ y, w13.setCell ⟨b, 2, none⟩ (.int .i64 42) = y := ⟨_, rfl⟩
        have hB := hB'.set 2 (.int .i64 42)
        have hR := hR'.apart (k := b) (by omega) 2 (.int .i64 42)
        have hbw : Below w.heap.size w (w13.setCell ⟨b, 2, none⟩ (.int .i64 42)) := hbw'.setCell (by show w.heap.size ≤ b; omega) _
        rw [hw14] at hB hR hbw
        have Hw14 := hide hw14
        clear hw14 hB' hR' hbw'
        go_wp2_with fail
        rw [Hw14.out]
        clear b2 fb2
        rw [hg] at hbw
        have hbX := hbw.drew
        have HS := hide (show ∀ Z, Below w14.heap.size w14 Z → Z.cell? ⟨b, 2, none⟩ = some (.int .i64 42) from fun Z hZ => (hB.below hZ).cell (j := 2) rfl)
        obtain ⟨X0, hX0⟩ : ∃ y, w14.drew = y := ⟨_, rfl⟩
        have hRx : Blk X0 g [.int .u8 0, .int .i64 0, .int .i64 0, .int .i64 0, .int .i64 0, .int .u8 0, .int .i64 0, .int .i64 0, .slice none 0 0, .slice none 0 0, .int .i64 0, .slice none 0 0] 49 := by rw [← hX0]; exact hR.drew
        have hBx := hB.drew
        rw [hX0] at hBx hbX
        obtain ⟨X1, hY⟩ : ∃ y, ((((((((((((X0.setCell ⟨g, 0, none⟩ (.int .u8 0)).setCell ⟨g, 1, none⟩ (.int .i64 0)).setCell ⟨g, 2, none⟩ (.int .i64 0)).setCell ⟨g, 3, none⟩ (.int .i64 0)).setCell ⟨g, 4, none⟩ (.int .i64 0)).setCell ⟨g, 5, none⟩ (.int .u8 0)).setCell ⟨g, 6, none⟩ (.int .i64 0)).setCell ⟨g, 7, none⟩ (.int .i64 0)).setCell ⟨g, 8, none⟩ (.slice none 0 0)).setCell ⟨g, 9, none⟩ (.slice none 0 0)).setCell ⟨g, 10, none⟩ (.int .i64 0)).setCell ⟨g, 11, none⟩ (.slice none 0 0)) = y := ⟨_, rfl⟩
        have hRy : Blk X1 g [.int .u8 0, .int .i64 0, .int .i64 0, .int .i64 0, .int .i64 0, .int .u8 0, .int .i64 0, .int .i64 0, .slice none 0 0, .slice none 0 0, .int .i64 0, .slice none 0 0] 49 := by rw [← hY]; exact ((((((((((((hRx.set 0 (.int .u8 0)).set 1 (.int .i64 0)).set 2 (.int .i64 0)).set 3 (.int .i64 0)).set 4 (.int .i64 0)).set 5 (.int .u8 0)).set 6 (.int .i64 0)).set 7 (.int .i64 0)).set 8 (.slice none 0 0)).set 9 (.slice none 0 0)).set 10 (.int .i64 0)).set 11 (.slice none 0 0))
        have hfS : Fr (fun k => k = g) X0 X1 := by rw [← hY]; exact ((((((((((((Fr.set (X := fun k => k = g) X0 ⟨g, 0, none⟩ (.int .u8 0) rfl).trans (Fr.set (X := fun k => k = g) _ ⟨g, 1, none⟩ (.int .i64 0) rfl)).trans (Fr.set (X := fun k => k = g) _ ⟨g, 2, none⟩ (.int .i64 0) rfl)).trans (Fr.set (X := fun k => k = g) _ ⟨g, 3, none⟩ (.int .i64 0) rfl)).trans (Fr.set (X := fun k => k = g) _ ⟨g, 4, none⟩ (.int .i64 0) rfl)).trans (Fr.set (X := fun k => k = g) _ ⟨g, 5, none⟩ (.int .u8 0) rfl)).trans (Fr.set (X := fun k => k = g) _ ⟨g, 6, none⟩ (.int .i64 0) rfl)).trans (Fr.set (X := fun k => k = g) _ ⟨g, 7, none⟩ (.int .i64 0) rfl)).trans (Fr.set (X := fun k => k = g) _ ⟨g, 8, none⟩ (.slice none 0 0) rfl)).trans (Fr.set (X := fun k => k = g) _ ⟨g, 9, none⟩ (.slice none 0 0) rfl)).trans (Fr.set (X := fun k => k = g) _ ⟨g, 10, none⟩ (.int .i64 0) rfl)).trans (Fr.set (X := fun k => k = g) _ ⟨g, 11, none⟩ (.slice none 0 0) rfl))
        have fW : Below g w X1 := by rw [← hY]; exact ((((((((((((hbX.setCell (le_blk (B := g) (g := g) (j := 0) (Nat.le_refl _)) (.int .u8 0)).setCell (le_blk (B := g) (g := g) (j := 1) (Nat.le_refl _)) (.int .i64 0)).setCell (le_blk (B := g) (g := g) (j := 2) (Nat.le_refl _)) (.int .i64 0)).setCell (le_blk (B := g) (g := g) (j := 3) (Nat.le_refl _)) (.int .i64 0)).setCell (le_blk (B := g) (g := g) (j := 4) (Nat.le_refl _)) (.int .i64 0)).setCell (le_blk (B := g) (g := g) (j := 5) (Nat.le_refl _)) (.int .u8 0)).setCell (le_blk (B := g) (g := g) (j := 6) (Nat.le_refl _)) (.int .i64 0)).setCell (le_blk (B := g) (g := g) (j := 7) (Nat.le_refl _)) (.int .i64 0)).setCell (le_blk (B := g) (g := g) (j := 8) (Nat.le_refl _)) (.slice none 0 0)).setCell (le_blk (B := g) (g := g) (j := 9) (Nat.le_refl _)) (.slice none 0 0)).setCell (le_blk (B := g) (g := g) (j := 10) (Nat.le_refl _)) (.int .i64 0)).setCell (le_blk (B := g) (g := g) (j := 11) (Nat.le_refl _)) (.slice none 0 0))
        have hBy := hBx.fr hfS (fun h => by have h : b = g := h; omega)
        have hS1 := hBy.cell (j := 2) rfl
        have HY := hide hY
        have HX0p := hide hX0
        clear hY hX0
        refine wp_region_held_drew (S := fun Z => Z.cell? ⟨b, 2, none⟩ = some (.int .i64 42)) (by kernel_rfl) (HS.out w14.drew (Below.refl _ _).drew) (fun hS0 => ?_)
        refine wpAnyH_take (fuel := 7) (i := 0) (v := .agg #[.int .u8 0, .int .i64 0, .int .i64 0, .int .i64 0, .int .i64 0, .int .u8 0, .int .i64 0, .int .i64 0, .slice none 0 0, .slice none 0 0, .int .i64 0, .slice none 0 0]) rfl (by kernel_rfl) (by kernel_rfl) (by kernel_rfl) (fun _ _ _ h => h) (Or.inl ⟨by rfl, fun Z hZ => ?_⟩) hS0 ?_
        · have z1 := hZ
          go_simp
        refine wpAnyH_take (fuel := 6) (i := 1) (v := .pointer (some ⟨b, 0, none⟩)) rfl (by kernel_rfl) (by kernel_rfl) (by kernel_rfl) (fun _ _ _ h => h) (Or.inl ⟨by rfl, fun Z hZ => ?_⟩) hS0 ?_
        · have z1 := hZ
          go_simp
        refine wpAnyH_take (fuel := 5) (i := 2) (v := .pointer (some ⟨b, 0, none⟩)) rfl (by kernel_rfl) (by kernel_rfl) (by kernel_rfl) (fun _ _ _ h => h) (Or.inl ⟨by rfl, fun Z hZ => ?_⟩) hS0 ?_
        · have z1 := hZ
          go_simp
        refine wpAnyH_take (fuel := 4) (i := 3) (v := .pointer (some ⟨b, 2, none⟩)) rfl (by kernel_rfl) (by kernel_rfl) (by kernel_rfl) (fun _ _ _ h => h) (Or.inl ⟨by rfl, fun Z hZ => ?_⟩) hS0 ?_
        · have z1 := hZ
          go_simp
        refine wpAnyH_take (fuel := 3) (i := 4) (v := .int .i64 42) rfl (by kernel_rfl) (by kernel_rfl) (by kernel_rfl) (fun _ _ _ h => h) (Or.inl ⟨by rfl, fun Z hZ => ?_⟩) hS0 ?_
        · have z1 := hZ
          go_simp
        have hX0 := HX0p.out
        have hB0 : Below w14.heap.size w14 X0 := by rw [← hX0]; exact (Below.refl _ _).drew
        rw [hX0] at hS0
        have hw0' := hB0.size
        have HX0 := hide hX0
        rw [hX0]
        clear hX0
        refine all_one (fuel := 2) (i := 5) (by kernel_rfl) rfl rfl (fun Kk hK => ?_)
        have y0 := hRx.cell (j := 0) rfl; have f0 := hRx.frozen 0; have y1 := hRx.cell (j := 1) rfl; have f1 := hRx.frozen 1; have y2 := hRx.cell (j := 2) rfl; have f2 := hRx.frozen 2; have y3 := hRx.cell (j := 3) rfl; have f3 := hRx.frozen 3; have y4 := hRx.cell (j := 4) rfl; have f4 := hRx.frozen 4; have y5 := hRx.cell (j := 5) rfl; have f5 := hRx.frozen 5; have y6 := hRx.cell (j := 6) rfl; have f6 := hRx.frozen 6; have y7 := hRx.cell (j := 7) rfl; have f7 := hRx.frozen 7; have y8 := hRx.cell (j := 8) rfl; have f8 := hRx.frozen 8; have y9 := hRx.cell (j := 9) rfl; have f9 := hRx.frozen 9; have y10 := hRx.cell (j := 10) rfl; have f10 := hRx.frozen 10; have y11 := hRx.cell (j := 11) rfl; have f11 := hRx.frozen 11
        go_simp
        rw [HY.out]
        clear y0 f0 y1 f1 y2 f2 y3 f3 y4 f4 y5 f5 y6 f6 y7 f7 y8 f8 y9 f9 y10 f10 y11 f11
        refine hK _ _ ⟨hS1, ?_⟩
        clear hK Kk
        refine wpAnyH_take (fuel := 1) (i := 6) (v := .int .i64 0) rfl (by kernel_rfl) (by kernel_rfl) (by kernel_rfl) (fun _ _ _ h => h) (Or.inl ⟨by rfl, fun Z hZ => ?_⟩) hS1 ?_
        · have z1 := hZ
          go_simp
        refine wpAnyH_take (fuel := 0) (i := 7) (v := .int .i64 42) rfl (by kernel_rfl) (by kernel_rfl) (by kernel_rfl) (fun _ _ _ h => h) (Or.inl ⟨by rfl, fun Z hZ => ?_⟩) hS1 ?_
        · have z1 := hZ
          go_simp
        refine wpAnyH_done (by kernel_rfl) ?_ _
        try simp only [Act.put, List.setIfInBounds_toArray, List.set_cons_zero, List.set_cons_succ, List.getElem_toArray, List.getElem_cons_zero, List.getElem_cons_succ]
        go_wp2_with fail
        refine bodyPost_ret (results_cell3 rfl rfl hRy Tryz.underlying49 rfl (by kernel_rfl)) rfl ?_
        refine decE_bad Hx.out (by decide) ?_
        rw [hg]
        exact fW
      | true =>
        have hx : deE7 rI7 bs = 0 := by rw [HDE.out, hq]; rfl
        obtain ⟨hdv, hdt⟩ := HDV.out hx
        have Hx := hide (And.intro hx (And.intro hdv hdt))
        rw [enE_ok hq] at HMY
        have HMY := hide HMY
        clear hx hdv hdt hq
        go_wp2_with fail
        go_fit HMY.out
        rintro e w13 ⟨rfl, hb13⟩
        have hB' := hB.below hb13
        have hR' := hR.below hb13
        have hX' := hX.below hb13
        have hI13 := hI'.below hb13
        have hbw' := hbw.trans (hb13.mono hbw.size)
        have hz13 := hb13.size
        clear HMY b2 y0 y1 y2 y3 y4 y5 y6 y7 y8 y9 y10 y11 hB hR hX hb13 hI' hbw
        have b2 := hB'.cell (j := 2) rfl
        go_wp2_with fail
        clear b2
        rw [hg] at hbw'
        have hbX := hbw'.drew
        have HS := hide (show ∀ Z, Below w13.heap.size w13 Z → (Z.cell? ⟨b, 1, none⟩ = some (.int .i64 T0) ∧ Z.cell? ⟨x, 0, none⟩ = some (.int .u8 eKind) ∧ Z.cell? ⟨x, 1, none⟩ = some (.int .i64 eNum) ∧ Z.cell? ⟨x, 2, none⟩ = some (.int .i64 eView) ∧ Z.cell? ⟨x, 3, none⟩ = some (.int .i64 eClient) ∧ Z.cell? ⟨x, 4, none⟩ = some (.int .i64 eSerial) ∧ Z.cell? ⟨x, 5, none⟩ = some (.int .u8 eOpKind) ∧ Z.cell? ⟨x, 6, none⟩ = some (.int .i64 eOpAt) ∧ Z.cell? ⟨x, 7, none⟩ = some (.int .i64 eOpN) ∧ Z.cell? ⟨x, 8, none⟩ = some (.slice eOpDataA eOpDatan eOpDatac) ∧ Z.cell? ⟨x, 9, none⟩ = some (.slice eOpOldA eOpOldn eOpOldc) ∧ Z.cell? ⟨x, 10, none⟩ = some (.int .i64 eGroupEpoch) ∧ Z.cell? ⟨x, 11, none⟩ = some (.slice eGroupMembersA eGroupMembersn eGroupMembersc)) from fun Z hZ => ⟨(hB'.below hZ).cell (j := 1) rfl, (hX'.below hZ).cell (j := 0) rfl, (hX'.below hZ).cell (j := 1) rfl, (hX'.below hZ).cell (j := 2) rfl, (hX'.below hZ).cell (j := 3) rfl, (hX'.below hZ).cell (j := 4) rfl, (hX'.below hZ).cell (j := 5) rfl, (hX'.below hZ).cell (j := 6) rfl, (hX'.below hZ).cell (j := 7) rfl, (hX'.below hZ).cell (j := 8) rfl, (hX'.below hZ).cell (j := 9) rfl, (hX'.below hZ).cell (j := 10) rfl, (hX'.below hZ).cell (j := 11) rfl⟩)
        obtain ⟨X0, hX0⟩ : ∃ y, w13.drew = y := ⟨_, rfl⟩
        have hRx : Blk X0 g [.int .u8 0, .int .i64 0, .int .i64 0, .int .i64 0, .int .i64 0, .int .u8 0, .int .i64 0, .int .i64 0, .slice none 0 0, .slice none 0 0, .int .i64 0, .slice none 0 0] 49 := by rw [← hX0]; exact hR'.drew
        have hBx := hB'.drew
        rw [hX0] at hBx hbX
        have hXx := hX'.drew
        rw [hX0] at hXx
        have hIx := hI13.fr (X := fun k => k = g) (Fr.refl _ w13).drew (fun k hk h => by have h : k = g := h; have hk : x < k := hk; omega)
        rw [hX0] at hIx
        obtain ⟨X1, hY⟩ : ∃ y, ((((((((((((X0.setCell ⟨g, 0, none⟩ (.int .u8 eKind)).setCell ⟨g, 1, none⟩ (.int .i64 eNum)).setCell ⟨g, 2, none⟩ (.int .i64 eView)).setCell ⟨g, 3, none⟩ (.int .i64 eClient)).setCell ⟨g, 4, none⟩ (.int .i64 eSerial)).setCell ⟨g, 5, none⟩ (.int .u8 eOpKind)).setCell ⟨g, 6, none⟩ (.int .i64 eOpAt)).setCell ⟨g, 7, none⟩ (.int .i64 eOpN)).setCell ⟨g, 8, none⟩ (.slice eOpDataA eOpDatan eOpDatac)).setCell ⟨g, 9, none⟩ (.slice eOpOldA eOpOldn eOpOldc)).setCell ⟨g, 10, none⟩ (.int .i64 eGroupEpoch)).setCell ⟨g, 11, none⟩ (.slice eGroupMembersA eGroupMembersn eGroupMembersc)) = y := ⟨_, rfl⟩
        have hRy : Blk X1 g [.int .u8 eKind, .int .i64 eNum, .int .i64 eView, .int .i64 eClient, .int .i64 eSerial, .int .u8 eOpKind, .int .i64 eOpAt, .int .i64 eOpN, .slice eOpDataA eOpDatan eOpDatac, .slice eOpOldA eOpOldn eOpOldc, .int .i64 eGroupEpoch, .slice eGroupMembersA eGroupMembersn eGroupMembersc] 49 := by rw [← hY]; exact ((((((((((((hRx.set 0 (.int .u8 eKind)).set 1 (.int .i64 eNum)).set 2 (.int .i64 eView)).set 3 (.int .i64 eClient)).set 4 (.int .i64 eSerial)).set 5 (.int .u8 eOpKind)).set 6 (.int .i64 eOpAt)).set 7 (.int .i64 eOpN)).set 8 (.slice eOpDataA eOpDatan eOpDatac)).set 9 (.slice eOpOldA eOpOldn eOpOldc)).set 10 (.int .i64 eGroupEpoch)).set 11 (.slice eGroupMembersA eGroupMembersn eGroupMembersc))
        have hfS : Fr (fun k => k = g) X0 X1 := by rw [← hY]; exact ((((((((((((Fr.set (X := fun k => k = g) X0 ⟨g, 0, none⟩ (.int .u8 eKind) rfl).trans (Fr.set (X := fun k => k = g) _ ⟨g, 1, none⟩ (.int .i64 eNum) rfl)).trans (Fr.set (X := fun k => k = g) _ ⟨g, 2, none⟩ (.int .i64 eView) rfl)).trans (Fr.set (X := fun k => k = g) _ ⟨g, 3, none⟩ (.int .i64 eClient) rfl)).trans (Fr.set (X := fun k => k = g) _ ⟨g, 4, none⟩ (.int .i64 eSerial) rfl)).trans (Fr.set (X := fun k => k = g) _ ⟨g, 5, none⟩ (.int .u8 eOpKind) rfl)).trans (Fr.set (X := fun k => k = g) _ ⟨g, 6, none⟩ (.int .i64 eOpAt) rfl)).trans (Fr.set (X := fun k => k = g) _ ⟨g, 7, none⟩ (.int .i64 eOpN) rfl)).trans (Fr.set (X := fun k => k = g) _ ⟨g, 8, none⟩ (.slice eOpDataA eOpDatan eOpDatac) rfl)).trans (Fr.set (X := fun k => k = g) _ ⟨g, 9, none⟩ (.slice eOpOldA eOpOldn eOpOldc) rfl)).trans (Fr.set (X := fun k => k = g) _ ⟨g, 10, none⟩ (.int .i64 eGroupEpoch) rfl)).trans (Fr.set (X := fun k => k = g) _ ⟨g, 11, none⟩ (.slice eGroupMembersA eGroupMembersn eGroupMembersc) rfl))
        have fW : Below g w X1 := by rw [← hY]; exact ((((((((((((hbX.setCell (le_blk (B := g) (g := g) (j := 0) (Nat.le_refl _)) (.int .u8 eKind)).setCell (le_blk (B := g) (g := g) (j := 1) (Nat.le_refl _)) (.int .i64 eNum)).setCell (le_blk (B := g) (g := g) (j := 2) (Nat.le_refl _)) (.int .i64 eView)).setCell (le_blk (B := g) (g := g) (j := 3) (Nat.le_refl _)) (.int .i64 eClient)).setCell (le_blk (B := g) (g := g) (j := 4) (Nat.le_refl _)) (.int .i64 eSerial)).setCell (le_blk (B := g) (g := g) (j := 5) (Nat.le_refl _)) (.int .u8 eOpKind)).setCell (le_blk (B := g) (g := g) (j := 6) (Nat.le_refl _)) (.int .i64 eOpAt)).setCell (le_blk (B := g) (g := g) (j := 7) (Nat.le_refl _)) (.int .i64 eOpN)).setCell (le_blk (B := g) (g := g) (j := 8) (Nat.le_refl _)) (.slice eOpDataA eOpDatan eOpDatac)).setCell (le_blk (B := g) (g := g) (j := 9) (Nat.le_refl _)) (.slice eOpOldA eOpOldn eOpOldc)).setCell (le_blk (B := g) (g := g) (j := 10) (Nat.le_refl _)) (.int .i64 eGroupEpoch)).setCell (le_blk (B := g) (g := g) (j := 11) (Nat.le_refl _)) (.slice eGroupMembersA eGroupMembersn eGroupMembersc))
        have hBy := hBx.fr hfS (fun h => by have h : b = g := h; omega)
        have hXy := hXx.fr hfS (fun h => by have h : x = g := h; omega)
        have HIy := hide (hIx.fr hfS (fun k hk h => by have h : k = g := h; have hk : x < k := hk; omega))
        have hS1 := And.intro (hBy.cell (j := 1) rfl) (And.intro (hXy.cell (j := 0) rfl) (And.intro (hXy.cell (j := 1) rfl) (And.intro (hXy.cell (j := 2) rfl) (And.intro (hXy.cell (j := 3) rfl) (And.intro (hXy.cell (j := 4) rfl) (And.intro (hXy.cell (j := 5) rfl) (And.intro (hXy.cell (j := 6) rfl) (And.intro (hXy.cell (j := 7) rfl) (And.intro (hXy.cell (j := 8) rfl) (And.intro (hXy.cell (j := 9) rfl) (And.intro (hXy.cell (j := 10) rfl) (hXy.cell (j := 11) rfl))))))))))))
        have HY := hide hY
        have HX0p := hide hX0
        clear hY hX0
        refine wp_region_held_drew (S := fun Z => Z.cell? ⟨b, 1, none⟩ = some (.int .i64 T0) ∧ Z.cell? ⟨x, 0, none⟩ = some (.int .u8 eKind) ∧ Z.cell? ⟨x, 1, none⟩ = some (.int .i64 eNum) ∧ Z.cell? ⟨x, 2, none⟩ = some (.int .i64 eView) ∧ Z.cell? ⟨x, 3, none⟩ = some (.int .i64 eClient) ∧ Z.cell? ⟨x, 4, none⟩ = some (.int .i64 eSerial) ∧ Z.cell? ⟨x, 5, none⟩ = some (.int .u8 eOpKind) ∧ Z.cell? ⟨x, 6, none⟩ = some (.int .i64 eOpAt) ∧ Z.cell? ⟨x, 7, none⟩ = some (.int .i64 eOpN) ∧ Z.cell? ⟨x, 8, none⟩ = some (.slice eOpDataA eOpDatan eOpDatac) ∧ Z.cell? ⟨x, 9, none⟩ = some (.slice eOpOldA eOpOldn eOpOldc) ∧ Z.cell? ⟨x, 10, none⟩ = some (.int .i64 eGroupEpoch) ∧ Z.cell? ⟨x, 11, none⟩ = some (.slice eGroupMembersA eGroupMembersn eGroupMembersc)) (by kernel_rfl) (HS.out w13.drew (Below.refl _ _).drew) (fun hS0 => ?_)
        refine wpAnyH_take (fuel := 7) (i := 0) (v := .agg #[.int .u8 eKind, .int .i64 eNum, .int .i64 eView, .int .i64 eClient, .int .i64 eSerial, .int .u8 eOpKind, .int .i64 eOpAt, .int .i64 eOpN, .slice eOpDataA eOpDatan eOpDatac, .slice eOpOldA eOpOldn eOpOldc, .int .i64 eGroupEpoch, .slice eGroupMembersA eGroupMembersn eGroupMembersc]) rfl (by kernel_rfl) (by kernel_rfl) (by kernel_rfl) (fun _ _ _ h => h) (Or.inl ⟨by rfl, fun Z hZ => ?_⟩) hS0 ?_
        · obtain ⟨z1, z2, z3, z4, z5, z6, z7, z8, z9, z10, z11, z12, z13⟩ := hZ
          go_simp
        refine wpAnyH_take (fuel := 6) (i := 1) (v := .pointer (some ⟨b, 0, none⟩)) rfl (by kernel_rfl) (by kernel_rfl) (by kernel_rfl) (fun _ _ _ h => h) (Or.inl ⟨by rfl, fun Z hZ => ?_⟩) hS0 ?_
        · obtain ⟨z1, z2, z3, z4, z5, z6, z7, z8, z9, z10, z11, z12, z13⟩ := hZ
          go_simp
        refine wpAnyH_take (fuel := 5) (i := 2) (v := .pointer (some ⟨b, 0, none⟩)) rfl (by kernel_rfl) (by kernel_rfl) (by kernel_rfl) (fun _ _ _ h => h) (Or.inl ⟨by rfl, fun Z hZ => ?_⟩) hS0 ?_
        · obtain ⟨z1, z2, z3, z4, z5, z6, z7, z8, z9, z10, z11, z12, z13⟩ := hZ
          go_simp
        refine wpAnyH_take (fuel := 4) (i := 3) (v := .pointer (some ⟨b, 1, none⟩)) rfl (by kernel_rfl) (by kernel_rfl) (by kernel_rfl) (fun _ _ _ h => h) (Or.inl ⟨by rfl, fun Z hZ => ?_⟩) hS0 ?_
        · obtain ⟨z1, z2, z3, z4, z5, z6, z7, z8, z9, z10, z11, z12, z13⟩ := hZ
          go_simp
        refine wpAnyH_take (fuel := 3) (i := 4) (v := .int .i64 T0) rfl (by kernel_rfl) (by kernel_rfl) (by kernel_rfl) (fun _ _ _ h => h) (Or.inl ⟨by rfl, fun Z hZ => ?_⟩) hS0 ?_
        · obtain ⟨z1, z2, z3, z4, z5, z6, z7, z8, z9, z10, z11, z12, z13⟩ := hZ
          go_simp
        have hX0 := HX0p.out
        have hB0 : Below w13.heap.size w13 X0 := by rw [← hX0]; exact (Below.refl _ _).drew
        rw [hX0] at hS0
        have hw0' := hB0.size
        have HX0 := hide hX0
        rw [hX0]
        clear hX0
        refine all_one (fuel := 2) (i := 5) (by kernel_rfl) rfl rfl (fun Kk hK => ?_)
        have y0 := hRx.cell (j := 0) rfl; have f0 := hRx.frozen 0; have y1 := hRx.cell (j := 1) rfl; have f1 := hRx.frozen 1; have y2 := hRx.cell (j := 2) rfl; have f2 := hRx.frozen 2; have y3 := hRx.cell (j := 3) rfl; have f3 := hRx.frozen 3; have y4 := hRx.cell (j := 4) rfl; have f4 := hRx.frozen 4; have y5 := hRx.cell (j := 5) rfl; have f5 := hRx.frozen 5; have y6 := hRx.cell (j := 6) rfl; have f6 := hRx.frozen 6; have y7 := hRx.cell (j := 7) rfl; have f7 := hRx.frozen 7; have y8 := hRx.cell (j := 8) rfl; have f8 := hRx.frozen 8; have y9 := hRx.cell (j := 9) rfl; have f9 := hRx.frozen 9; have y10 := hRx.cell (j := 10) rfl; have f10 := hRx.frozen 10; have y11 := hRx.cell (j := 11) rfl; have f11 := hRx.frozen 11
        go_simp
        rw [HY.out]
        clear y0 f0 y1 f1 y2 f2 y3 f3 y4 f4 y5 f5 y6 f6 y7 f7 y8 f8 y9 f9 y10 f10 y11 f11
        refine hK _ _ ⟨hS1, ?_⟩
        clear hK Kk
        refine wpAnyH_take (fuel := 1) (i := 6) (v := .int .i64 T0) rfl (by kernel_rfl) (by kernel_rfl) (by kernel_rfl) (fun _ _ _ h => h) (Or.inl ⟨by rfl, fun Z hZ => ?_⟩) hS1 ?_
        · obtain ⟨z1, z2, z3, z4, z5, z6, z7, z8, z9, z10, z11, z12, z13⟩ := hZ
          go_simp
        refine wpAnyH_take (fuel := 0) (i := 7) (v := .int .i64 0) rfl (by kernel_rfl) (by kernel_rfl) (by kernel_rfl) (fun _ _ _ h => h) (Or.inl ⟨by rfl, fun Z hZ => ?_⟩) hS1 ?_
        · obtain ⟨z1, z2, z3, z4, z5, z6, z7, z8, z9, z10, z11, z12, z13⟩ := hZ
          go_simp
        refine wpAnyH_done (by kernel_rfl) ?_ _
        try simp only [Act.put, List.setIfInBounds_toArray, List.set_cons_zero, List.set_cons_succ, List.getElem_toArray, List.getElem_cons_zero, List.getElem_cons_succ]
        go_wp2_with fail
        refine bodyPost_ret (results_cell3 rfl rfl hRy Tryz.underlying49 rfl (by kernel_rfl)) rfl ?_
        refine ⟨_, by rw [Hx.out.1, Hx.out.2.2]; rfl, ?_, by rw [hg]; exact fW⟩
        rw [Hx.out.2.1]
        exact HIy.out.mono (fun k hk => by have hk : x < k := hk; omega)
    · have hx : deE7 rI7 bs = Ev := by unfold deE7; rw [if_pos (by rw [hE0]; exact hne), hE0]
      have Hx := hide hx
      have Hne := hide hne
      have q0 : (Ev == 0) = false := by simpa using hne
      have q1 : (Ev != 0) = true := by simpa using hne
      have b2 := hB.cell (j := 2) rfl
      clear hx hE0 hne
      go_wp2_with fail
      clear b2 q0 q1
      rw [hg] at hbw
      have hbX := hbw.drew
      have HS := hide (show ∀ Z, Below wc.heap.size wc Z → Z.cell? ⟨b, 2, none⟩ = some (.int .i64 Ev) from fun Z hZ => (hB.below hZ).cell (j := 2) rfl)
      obtain ⟨X0, hX0⟩ : ∃ y, wc.drew = y := ⟨_, rfl⟩
      have hRx : Blk X0 g [.int .u8 0, .int .i64 0, .int .i64 0, .int .i64 0, .int .i64 0, .int .u8 0, .int .i64 0, .int .i64 0, .slice none 0 0, .slice none 0 0, .int .i64 0, .slice none 0 0] 49 := by rw [← hX0]; exact hR.drew
      have hBx := hB.drew
      rw [hX0] at hBx hbX
      obtain ⟨X1, hY⟩ : ∃ y, ((((((((((((X0.setCell ⟨g, 0, none⟩ (.int .u8 0)).setCell ⟨g, 1, none⟩ (.int .i64 0)).setCell ⟨g, 2, none⟩ (.int .i64 0)).setCell ⟨g, 3, none⟩ (.int .i64 0)).setCell ⟨g, 4, none⟩ (.int .i64 0)).setCell ⟨g, 5, none⟩ (.int .u8 0)).setCell ⟨g, 6, none⟩ (.int .i64 0)).setCell ⟨g, 7, none⟩ (.int .i64 0)).setCell ⟨g, 8, none⟩ (.slice none 0 0)).setCell ⟨g, 9, none⟩ (.slice none 0 0)).setCell ⟨g, 10, none⟩ (.int .i64 0)).setCell ⟨g, 11, none⟩ (.slice none 0 0)) = y := ⟨_, rfl⟩
      have hRy : Blk X1 g [.int .u8 0, .int .i64 0, .int .i64 0, .int .i64 0, .int .i64 0, .int .u8 0, .int .i64 0, .int .i64 0, .slice none 0 0, .slice none 0 0, .int .i64 0, .slice none 0 0] 49 := by rw [← hY]; exact ((((((((((((hRx.set 0 (.int .u8 0)).set 1 (.int .i64 0)).set 2 (.int .i64 0)).set 3 (.int .i64 0)).set 4 (.int .i64 0)).set 5 (.int .u8 0)).set 6 (.int .i64 0)).set 7 (.int .i64 0)).set 8 (.slice none 0 0)).set 9 (.slice none 0 0)).set 10 (.int .i64 0)).set 11 (.slice none 0 0))
      have hfS : Fr (fun k => k = g) X0 X1 := by rw [← hY]; exact ((((((((((((Fr.set (X := fun k => k = g) X0 ⟨g, 0, none⟩ (.int .u8 0) rfl).trans (Fr.set (X := fun k => k = g) _ ⟨g, 1, none⟩ (.int .i64 0) rfl)).trans (Fr.set (X := fun k => k = g) _ ⟨g, 2, none⟩ (.int .i64 0) rfl)).trans (Fr.set (X := fun k => k = g) _ ⟨g, 3, none⟩ (.int .i64 0) rfl)).trans (Fr.set (X := fun k => k = g) _ ⟨g, 4, none⟩ (.int .i64 0) rfl)).trans (Fr.set (X := fun k => k = g) _ ⟨g, 5, none⟩ (.int .u8 0) rfl)).trans (Fr.set (X := fun k => k = g) _ ⟨g, 6, none⟩ (.int .i64 0) rfl)).trans (Fr.set (X := fun k => k = g) _ ⟨g, 7, none⟩ (.int .i64 0) rfl)).trans (Fr.set (X := fun k => k = g) _ ⟨g, 8, none⟩ (.slice none 0 0) rfl)).trans (Fr.set (X := fun k => k = g) _ ⟨g, 9, none⟩ (.slice none 0 0) rfl)).trans (Fr.set (X := fun k => k = g) _ ⟨g, 10, none⟩ (.int .i64 0) rfl)).trans (Fr.set (X := fun k => k = g) _ ⟨g, 11, none⟩ (.slice none 0 0) rfl))
      have fW : Below g w X1 := by rw [← hY]; exact ((((((((((((hbX.setCell (le_blk (B := g) (g := g) (j := 0) (Nat.le_refl _)) (.int .u8 0)).setCell (le_blk (B := g) (g := g) (j := 1) (Nat.le_refl _)) (.int .i64 0)).setCell (le_blk (B := g) (g := g) (j := 2) (Nat.le_refl _)) (.int .i64 0)).setCell (le_blk (B := g) (g := g) (j := 3) (Nat.le_refl _)) (.int .i64 0)).setCell (le_blk (B := g) (g := g) (j := 4) (Nat.le_refl _)) (.int .i64 0)).setCell (le_blk (B := g) (g := g) (j := 5) (Nat.le_refl _)) (.int .u8 0)).setCell (le_blk (B := g) (g := g) (j := 6) (Nat.le_refl _)) (.int .i64 0)).setCell (le_blk (B := g) (g := g) (j := 7) (Nat.le_refl _)) (.int .i64 0)).setCell (le_blk (B := g) (g := g) (j := 8) (Nat.le_refl _)) (.slice none 0 0)).setCell (le_blk (B := g) (g := g) (j := 9) (Nat.le_refl _)) (.slice none 0 0)).setCell (le_blk (B := g) (g := g) (j := 10) (Nat.le_refl _)) (.int .i64 0)).setCell (le_blk (B := g) (g := g) (j := 11) (Nat.le_refl _)) (.slice none 0 0))
      have hBy := hBx.fr hfS (fun h => by have h : b = g := h; omega)
      have hS1 := hBy.cell (j := 2) rfl
      have HY := hide hY
      have HX0p := hide hX0
      clear hY hX0
      refine wp_region_held_drew (S := fun Z => Z.cell? ⟨b, 2, none⟩ = some (.int .i64 Ev)) (by kernel_rfl) (HS.out wc.drew (Below.refl _ _).drew) (fun hS0 => ?_)
      refine wpAnyH_take (fuel := 7) (i := 0) (v := .agg #[.int .u8 0, .int .i64 0, .int .i64 0, .int .i64 0, .int .i64 0, .int .u8 0, .int .i64 0, .int .i64 0, .slice none 0 0, .slice none 0 0, .int .i64 0, .slice none 0 0]) rfl (by kernel_rfl) (by kernel_rfl) (by kernel_rfl) (fun _ _ _ h => h) (Or.inl ⟨by rfl, fun Z hZ => ?_⟩) hS0 ?_
      · have z1 := hZ
        go_simp
      refine wpAnyH_take (fuel := 6) (i := 1) (v := .pointer (some ⟨b, 0, none⟩)) rfl (by kernel_rfl) (by kernel_rfl) (by kernel_rfl) (fun _ _ _ h => h) (Or.inl ⟨by rfl, fun Z hZ => ?_⟩) hS0 ?_
      · have z1 := hZ
        go_simp
      refine wpAnyH_take (fuel := 5) (i := 2) (v := .pointer (some ⟨b, 0, none⟩)) rfl (by kernel_rfl) (by kernel_rfl) (by kernel_rfl) (fun _ _ _ h => h) (Or.inl ⟨by rfl, fun Z hZ => ?_⟩) hS0 ?_
      · have z1 := hZ
        go_simp
      refine wpAnyH_take (fuel := 4) (i := 3) (v := .pointer (some ⟨b, 2, none⟩)) rfl (by kernel_rfl) (by kernel_rfl) (by kernel_rfl) (fun _ _ _ h => h) (Or.inl ⟨by rfl, fun Z hZ => ?_⟩) hS0 ?_
      · have z1 := hZ
        go_simp
      refine wpAnyH_take (fuel := 3) (i := 4) (v := .int .i64 Ev) rfl (by kernel_rfl) (by kernel_rfl) (by kernel_rfl) (fun _ _ _ h => h) (Or.inl ⟨by rfl, fun Z hZ => ?_⟩) hS0 ?_
      · have z1 := hZ
        go_simp
      have hX0 := HX0p.out
      have hB0 : Below wc.heap.size wc X0 := by rw [← hX0]; exact (Below.refl _ _).drew
      rw [hX0] at hS0
      have hw0' := hB0.size
      have HX0 := hide hX0
      rw [hX0]
      clear hX0
      refine all_one (fuel := 2) (i := 5) (by kernel_rfl) rfl rfl (fun Kk hK => ?_)
      have y0 := hRx.cell (j := 0) rfl; have f0 := hRx.frozen 0; have y1 := hRx.cell (j := 1) rfl; have f1 := hRx.frozen 1; have y2 := hRx.cell (j := 2) rfl; have f2 := hRx.frozen 2; have y3 := hRx.cell (j := 3) rfl; have f3 := hRx.frozen 3; have y4 := hRx.cell (j := 4) rfl; have f4 := hRx.frozen 4; have y5 := hRx.cell (j := 5) rfl; have f5 := hRx.frozen 5; have y6 := hRx.cell (j := 6) rfl; have f6 := hRx.frozen 6; have y7 := hRx.cell (j := 7) rfl; have f7 := hRx.frozen 7; have y8 := hRx.cell (j := 8) rfl; have f8 := hRx.frozen 8; have y9 := hRx.cell (j := 9) rfl; have f9 := hRx.frozen 9; have y10 := hRx.cell (j := 10) rfl; have f10 := hRx.frozen 10; have y11 := hRx.cell (j := 11) rfl; have f11 := hRx.frozen 11
      go_simp
      rw [HY.out]
      clear y0 f0 y1 f1 y2 f2 y3 f3 y4 f4 y5 f5 y6 f6 y7 f7 y8 f8 y9 f9 y10 f10 y11 f11
      refine hK _ _ ⟨hS1, ?_⟩
      clear hK Kk
      refine wpAnyH_take (fuel := 1) (i := 6) (v := .int .i64 0) rfl (by kernel_rfl) (by kernel_rfl) (by kernel_rfl) (fun _ _ _ h => h) (Or.inl ⟨by rfl, fun Z hZ => ?_⟩) hS1 ?_
      · have z1 := hZ
        go_simp
      refine wpAnyH_take (fuel := 0) (i := 7) (v := .int .i64 Ev) rfl (by kernel_rfl) (by kernel_rfl) (by kernel_rfl) (fun _ _ _ h => h) (Or.inl ⟨by rfl, fun Z hZ => ?_⟩) hS1 ?_
      · have z1 := hZ
        go_simp
      refine wpAnyH_done (by kernel_rfl) ?_ _
      try simp only [Act.put, List.setIfInBounds_toArray, List.set_cons_zero, List.set_cons_succ, List.getElem_toArray, List.getElem_cons_zero, List.getElem_cons_succ]
      go_wp2_with fail
      refine bodyPost_ret (results_cell3 rfl rfl hRy Tryz.underlying49 rfl (by kernel_rfl)) rfl ?_
      refine decE_bad Hx.out Hne.out ?_
      rw [hg]
      exact fW
end Go.Proofs.YtkknkdjdneldlaaGreat
namespace Go.Proofs.YtkknkdjdneldlaaGreat
set_option maxRecDepth 20000
open Go.RowKit Go.Px Go.Maps
set_option linter.unusedVariables false
set_option linter.unusedSimpArgs false
theorem rdV7_num {num num' : Nat → Int} {bs : List UInt8} (hn : ∀ v, v < 18446744073709551616 → 0 ≤ num v → num v ≤ 4611686018427387904 → num' v = num v) (h : entryB (rdV7 num bs) = true) : rdV7 num' bs = rdV7 num bs := by
  obtain ⟨⟨a1, a2⟩, ⟨b1, b2⟩, ⟨c1, c2⟩, ⟨d1, d2⟩, hk⟩ := entB_bd h
  have hb : ∀ i, getV bs i 8 < 18446744073709551616 := fun i => by have := getV_lt bs i 8; simpa using this
  have e1 : num' (getV bs 1 8) = num (getV bs 1 8) := hn _ (hb _) (by have : 1 ≤ num (getV bs 1 8) := a1; omega) a2
  have e2 : num' (getV bs 9 8) = num (getV bs 9 8) := hn _ (hb _) b1 b2
  have e3 : num' (getV bs 17 8) = num (getV bs 17 8) := hn _ (hb _) (by have : 1 ≤ num (getV bs 17 8) := c1; omega) c2
  have e4 : num' (getV bs 25 8) = num (getV bs 25 8) := hn _ (hb _) (by have : 1 ≤ num (getV bs 25 8) := d1; omega) d2
  have e5 : (if getV bs 0 1 = 2 then (num' (getV bs 33 8), memB bs 42 (getV bs 41 1)) else ((0 : Int), ([] : List Int))) = (if getV bs 0 1 = 2 then (num (getV bs 33 8), memB bs 42 (getV bs 41 1)) else ((0 : Int), ([] : List Int))) := by
    by_cases h2 : getV bs 0 1 = 2
    · rw [if_pos h2, if_pos h2]
      obtain ⟨_, hg⟩ := kindB_conf hk (show getV bs 0 1 ≠ 1 by omega)
      have e : (rdV7 num bs).2.2.2.2.2.2 = (num (getV bs 33 8), memB bs 42 (getV bs 41 1)) := if_pos h2
      rw [e] at hg
      obtain ⟨g1, g2, _⟩ := grpOk_bd hg
      rw [hn _ (hb _) g1 g2]
    · rw [if_neg h2, if_neg h2]
  unfold rdV7
  rw [e1, e2, e3, e4, e5]
theorem rI7_iw7 (v : Nat) (hv : v < 18446744073709551616) (h0 : 0 ≤ iw7 v) (h1 : iw7 v ≤ 4611686018427387904) : rI7 v = iw7 v := by
  unfold iw7 wrap64 at *
  unfold rI7
  split <;> omega
theorem iw7_rI7 (v : Nat) (hv : v < 18446744073709551616) (h0 : 0 ≤ rI7 v) (h1 : rI7 v ≤ 4611686018427387904) : iw7 v = rI7 v := by
  unfold rI7 at *
  unfold iw7 wrap64
  split at h0 <;> omega
theorem rdV7_two {bs : List UInt8} (h : entryB (rdV7 iw7 bs) = true) : rdV7 rI7 bs = rdV7 iw7 bs := rdV7_num rI7_iw7 h
theorem entryB_two (bs : List UInt8) : entryB (rdV7 iw7 bs) = entryB (rdV7 rI7 bs) := by
  cases h : entryB (rdV7 iw7 bs) with
  | true => rw [rdV7_num rI7_iw7 h, h]
  | false =>
    cases h' : entryB (rdV7 rI7 bs) with
    | false => rfl
    | true => rw [rdV7_num iw7_rI7 h', h'] at h; cases h
theorem deE7_two (bs : List UInt8) : deE7 iw7 bs = deE7 rI7 bs := by unfold deE7; rw [entryB_two]
theorem deT7_two (bs : List UInt8) : deT7 iw7 bs = deT7 rI7 bs := by unfold deT7; rw [deE7_two]
theorem deV7_two (bs : List UInt8) : deV7 iw7 bs = deV7 rI7 bs := by
  unfold deV7
  rw [deE7_two]
  by_cases h : deE7 rI7 bs = 0
  · rw [if_pos h, if_pos h]
    rw [← deE7_two] at h
    unfold deE7 at h
    split at h
    · exact absurd h (by assumption)
    · split at h
      · exact (rdV7_two (by assumption)).symm
      · cases h
  · rw [if_neg h, if_neg h]
end Go.Proofs.YtkknkdjdneldlaaGreat
