/- The law FrameReads, walked. -/
import Derived.Test.YtaenoonadodbnaaDoorF03r
import Derived.Test.YtaenoonadodbnaaDoorF03s
import Derived.Deep.DeepFit
namespace Go.Proofs.YtaenoonadodbnaaDoor
open Go.RowKit Go.Px
set_option linter.unusedVariables false

theorem sameF_self (k s : Nat) (bd : List UInt8) : sameF k s bd k s bd = true := by unfold sameF; simp

set_option maxHeartbeats 800000 in
theorem frameReads_walk (A : Option Addr) (m c : Nat) (bs : List UInt8) (i : Int) (w : World) (hm : bs.length = m) (hmc : m ≤ c) (hc : c ≤ 9223372036854775807) (hr : Rd w A (bys bs)) (hi : -9223372036854775808 ≤ i) (hi2 : i ≤ 9223372036854775807) (ht : Tab w) :
    Calls Tryd.prog 4 #[.slice A m c, .int .i64 i] w fun e w' => e = .returned (.bool true) ∧ Below w.heap.size w w' := by
  obtain ⟨hl1, hl2⟩ := lcut_le m
  have Hl := hide (show (bs.take 16384).length = lcut m by rw [lcut_len, hm])
  have hr' := lcut_rd hr
  obtain ⟨q, hq⟩ : ∃ q, lcut m = q := ⟨_, rfl⟩
  rw [hq] at hl1 hl2 Hl
  have Hq := hide hq
  clear hq hm hr
  generalize bs.take 16384 = b at *
  obtain ⟨K, hK⟩ : ∃ z, rdK b i = z := ⟨_, rfl⟩
  obtain ⟨S, hS⟩ : ∃ z, rdS b i = z := ⟨_, rfl⟩
  obtain ⟨B, hB⟩ : ∃ z, rdB b i = z := ⟨_, rfl⟩
  obtain ⟨N, hN⟩ : ∃ z, rdN b i = z := ⟨_, rfl⟩
  obtain ⟨E, hE⟩ : ∃ z, rdE b i = z := ⟨_, rfl⟩
  have HK := hide hK
  have HS := hide hS
  have HB := hide hB
  have HN := hide hN
  have HE := hide hE
  clear hK hS hB hN hE
  go_enter Tryd.func4, Tryd.ntmps4
  go_wp2_with fail
  refine (cut_any _ _ _ _ hmc hc).mono ?_
  rw [Hq.out]
  rintro e w0 ⟨rfl, rfl⟩
  go_wp2_with fail
  go_fit (fread_any A q c b i _ Hl.out (by omega) (by omega) (by omega) hr' hi hi2 ht)
  rw [HK.out, HS.out, HN.out, HE.out, HB.out]
  rintro e w1 ⟨v1, rfl, ho1, hb1⟩
  obtain ⟨A1, c1, rfl, hx1, hc1, hcm1, hr1, ha1⟩ := own_out ho1
  have hF := Blk.new w1 [.int .u8 K, .int .u64 S, .slice A1 B.length c1] 25
  have hb1' := hb1.alloc hb1.size (.cells #[.int .u8 K, .int .u64 S, .slice A1 B.length c1] 25)
  go_wp2_with fail
  go_fit (rread_any A q c b i _ Hl.out (by omega) (by omega) (by omega) (hr'.below hb1') hi hi2)
  rw [HK.out, HS.out, HN.out, HE.out, HB.out]
  rintro e w2 ⟨v2, rfl, ho2, hb2⟩
  obtain ⟨A2, c2, rfl, hx2, hc2, hcm2, hr2, ha2⟩ := own_out ho2
  have hF2 := (hF.below hb2).alloc (.cells #[.int .u8 K, .int .u64 S, .slice A2 B.length c2] 25)
  have hG2 := Blk.new w2 [.int .u8 K, .int .u64 S, .slice A2 B.length c2] 25
  have hb2' := (hb1'.trans (hb2.mono hb1'.size)).alloc (hb1'.trans (hb2.mono hb1'.size)).size (.cells #[.int .u8 K, .int .u64 S, .slice A2 B.length c2] 25)
  have f0 := hF2.cell (j := 0) rfl
  have f1 := hF2.cell (j := 1) rfl
  have f2 := hF2.cell (j := 2) rfl
  have g0 := hG2.cell (j := 0) rfl
  have g1 := hG2.cell (j := 1) rfl
  have g2 := hG2.cell (j := 2) rfl
  have hr1' := ((hr1.alloc (.cells #[.int .u8 K, .int .u64 S, .slice A1 B.length c1] 25)).below hb2).alloc (.cells #[.int .u8 K, .int .u64 S, .slice A2 B.length c2] 25)
  have hr2' := hr2.alloc (.cells #[.int .u8 K, .int .u64 S, .slice A2 B.length c2] 25)
  go_wp2_with fail
  go_fit (rsame_any K S A1 B.length c1 B K S A2 B.length c2 B _ rfl hr1' rfl hr2')
  rw [sameF_self]
  rintro e w3 ⟨rfl, hb3⟩
  have hb3' := hb2'.trans (hb3.mono hb2'.size)
  go_wp2_with fail
  refine (awake03_any _ (Rd.below ht hb3')).mono ?_
  rintro e w4 ⟨rfl, hb4⟩
  go_wp2
  go_ret
  exact ⟨by simp, hb3'.trans (hb4.mono hb3'.size)⟩
end Go.Proofs.YtaenoonadodbnaaDoor
