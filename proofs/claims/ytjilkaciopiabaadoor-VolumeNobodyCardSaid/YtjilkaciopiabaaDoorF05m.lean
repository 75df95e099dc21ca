/- The law VolumeNobody, walked. -/
import Derived.Test.YtjilkaciopiabaaDoorF05i
import Derived.Test.YtjilkaciopiabaaDoorF05k
import Derived.Deep.RegionHeldLaw
namespace Go.Proofs.YtjilkaciopiabaaDoor
open Go.RowKit Go.Px
set_option linter.unusedVariables false
set_option maxHeartbeats 3200000 in
theorem volumeNobody_walk (k : Nat) (q n : Int) (D : Option Addr) (d dc : Nat) (O : Option Addr) (o oc : Nat) (i : Int) (w : World) :
    Calls Tryd.prog 4 #[opv k q n D d dc O o oc, .int .i64 i] w fun x w' => x = .returned (.bool true) ∧ Below w.heap.size w w' := by
  obtain ⟨g, hg⟩ : ∃ g, w.heap.size = g := ⟨_, rfl⟩
  obtain ⟨w0, hw0⟩ : ∃ w0, ((w.alloc (.cells #[.int .u8 k, .int .i64 q, .int .i64 n, .slice D d dc, .slice O o oc] 38)).alloc (.cells #[.int .i64 0, .int .i64 0, .slice none 0 0, .slice none 0 0, .int .i64 0] 45)).alloc (.cells #[.pointer none, .pointer (some ⟨g + 1, 0, none⟩)] 30) = w0 := ⟨_, rfl⟩
  have hO0 : Blk w0 g [.int .u8 k, .int .i64 q, .int .i64 n, .slice D d dc, .slice O o oc] 38 := by
    rw [← hw0, ← hg]; exact ((Blk.new w [.int .u8 k, .int .i64 q, .int .i64 n, .slice D d dc, .slice O o oc] _).alloc _).alloc _
  have hV0 : Blk w0 (g + 1) [.int .i64 0, .int .i64 0, .slice none 0 0, .slice none 0 0, .int .i64 0] 45 := by
    rw [← hw0, ← hg]
    have := (Blk.new (w.alloc (.cells #[.int .u8 k, .int .i64 q, .int .i64 n, .slice D d dc, .slice O o oc] 38)) [.int .i64 0, .int .i64 0, .slice none 0 0, .slice none 0 0, .int .i64 0] 45).alloc (.cells #[.pointer none, .pointer (some ⟨w.heap.size + 1, 0, none⟩)] 30)
    rwa [World.size_alloc] at this
  have hP0 : Blk w0 (g + 1 + 1) [.pointer none, .pointer (some ⟨g + 1, 0, none⟩)] 30 := by
    rw [← hw0, ← hg]
    have := Blk.new ((w.alloc (.cells #[.int .u8 k, .int .i64 q, .int .i64 n, .slice D d dc, .slice O o oc] 38)).alloc (.cells #[.int .i64 0, .int .i64 0, .slice none 0 0, .slice none 0 0, .int .i64 0] 45)) [.pointer none, .pointer (some ⟨w.heap.size + 1, 0, none⟩)] 30
    rwa [World.size_alloc, World.size_alloc] at this
  have hb0 : Below w.heap.size w w0 := by rw [← hw0]; exact (((Below.refl _ _).alloc (Nat.le_refl _) _).alloc (by simp) _).alloc (by simp; omega) _
  have hwm : w = w := rfl
  go_enter Tryd.func4, Tryd.ntmps4
  go_wp2_with fail
  clear hw0
  go_loopw [18] (fun i wr => ∃ (k : Nat), k ≤ 2 ∧ i = .int .i64 k ∧ Below w0.heap.size w0 wr) (fun i _ => 2 - (intOf i).toNat)
  case atStart => exact ⟨0, by omega, rfl, Below.refl _ _⟩
  case round =>
    obtain ⟨j, hj, rfl, hB⟩ := hrel
    by_cases hlt : j < 2
    · obtain ⟨p, hpc, hnob⟩ : ∃ p, wr.cell? ⟨g + 1 + 1, j, none⟩ = some (.pointer p) ∧ Nob wr p := by
        have hPr := hP0.below hB
        obtain rfl | rfl : j = 0 ∨ j = 1 := by omega
        · exact ⟨none, hPr.cell (j := 0) rfl, .inl rfl⟩
        · exact ⟨some ⟨g + 1, 0, none⟩, hPr.cell (j := 1) rfl, .inr ⟨g + 1, rfl, hV0.below hB⟩⟩
      have hOr := hO0.below hB
      have k0 := hOr.cell (j := 0) rfl
      have k1 := hOr.cell (j := 1) rfl
      have k2 := hOr.cell (j := 2) rfl
      have k3 := hOr.cell (j := 3) rfl
      have k4 := hOr.cell (j := 4) rfl
      go_wp2_with fail
      go_fit (do_nob wr p k q n D d dc O o oc 1 hnob)
      rintro x w1 ⟨rfl, hb1⟩
      have hn1 := hnob.below hb1
      have hB1 := hB.trans (hb1.mono hB.size)
      obtain ⟨g1, hg1⟩ : ∃ g, w1.heap.size = g := ⟨_, rfl⟩
      obtain ⟨w2, hw2⟩ : ∃ w2, w1.alloc (.cells #[.int .u8 0, .slice none 0 0] 49) = w2 := ⟨_, rfl⟩
      have hR2 : Blk w2 g1 [.int .u8 0, .slice none 0 0] 49 := by rw [← hw2, ← hg1]; exact Blk.new w1 [.int .u8 0, .slice none 0 0] _
      have hb12 : Below w1.heap.size w1 w2 := by rw [← hw2]; exact (Below.refl _ _).alloc (Nat.le_refl _) _
      have hn2 := hn1.below hb12
      have hB2 := hB1.trans (hb12.mono hB1.size)
      have Hw2 := hide hw2
      clear hw2
      go_wp2_with fail
      rw [Hw2.out]
      go_fit (block_nob w2 p i hn2)
      rintro x w3 ⟨rfl, rfl⟩
      have mk : ∀ X, Below w2.heap.size w2 X → (Below w2.heap.size w2 X ∧ X.cell? ⟨g1, 0, none⟩ = some (.int .u8 0) ∧ X.cell? ⟨g1, 1, none⟩ = some (.slice none 0 0)) := fun X hX =>
        ⟨hX, (hR2.below hX).cell (j := 0) rfl, (hR2.below hX).cell (j := 1) rfl⟩
      have hNX : ∀ X, Below w2.heap.size w2 X → Nob X p := fun X hX => hn2.below hX
      have hBX : ∀ X, Below w2.heap.size w2 X → Below w0.heap.size w0 X := fun X hX => hB2.trans (hX.mono hB2.size)
      have S0 := mk w2.drew (Below.refl _ _).drew
      have Mk := hide mk
      have HN := hide hNX
      have HB := hide hBX
      clear mk hNX hBX k0 k1 k2 k3 k4
      go_wp2
      go_region_held_law (fun W => Below w2.heap.size w2 W ∧ W.cell? ⟨g1, 0, none⟩ = some (.int .u8 0) ∧ W.cell? ⟨g1, 1, none⟩ = some (.slice none 0 0)) (assumption) (first
        | (go_at_call 13; refine (patch_nob _ p _ (HN.out _ (And.left (by assumption)))).mono ?_; rintro x wa ⟨rfl, rfl⟩)
        | (go_at_call 14; refine (bytes_nob _ p (HN.out _ (And.left (by assumption)))).mono ?_; rintro x wa ⟨rfl, rfl⟩)
        | (go_at_call 15; refine (pages_nob _ p _ (HN.out _ (And.left (by assumption)))).mono ?_; rintro x wa ⟨rfl, rfl⟩)
        | (go_at_call 16; refine (sum_nob _ p (HN.out _ (And.left (by assumption)))).mono ?_; rintro x wa ⟨rfl, rfl⟩)
        | (go_at_call 17; refine (shape_nob _ p (HN.out _ (And.left (by assumption)))).mono ?_; rintro x wb ⟨rfl, hbb⟩; have hsb := Mk.out _ ((And.left S0).trans (hbb.mono (And.left S0).size))))
      all_goals
        go_wp2
        go_roundw
        case rel => exact ⟨j + 1, by omega, by go_num, HB.out _ (And.left hsb)⟩
        case measure => simp [intOf]; omega
    · obtain rfl : j = 2 := by omega
      go_wp2_with fail
      go_fit (awake05_any wr)
      rintro x w5 ⟨rfl, hb5⟩
      go_wp2
      go_ret
      have := hB.trans (hb5.mono hB.size)
      exact ⟨rfl, hb0.trans (this.mono hb0.size)⟩
end Go.Proofs.YtjilkaciopiabaaDoor
