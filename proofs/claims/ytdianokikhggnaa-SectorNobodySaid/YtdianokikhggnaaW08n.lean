/- Laws 8: SectorNobody: the walk. -/
import Derived.Test.YtdianokikhggnaaF08o
namespace Go.Proofs.Ytdianokikhggnaa
set_option maxRecDepth 20000
open Go.RowKit Go.Px Go.Maps
set_option linter.unusedVariables false
set_option maxRecDepth 20000 in
set_option maxHeartbeats 3200000 in
theorem sectorNobody_walk (kd i n : Int) (B : Option Addr) (bn bc : Nat) (K : Option Addr) (kn kc : Nat) (torn cut : Int) (w : World) :
    Calls Try.prog 7 #[.agg #[.int .i64 kd, .int .i64 i, .int .i64 n, .slice B bn bc, .slice K kn kc, .int .i64 torn, .int .i64 cut]] w fun e w' => e = .returned (.bool true) ∧ Below w.heap.size w w' := by
  obtain ⟨g, hg⟩ : ∃ g, w.heap.size = g := ⟨_, rfl⟩
  obtain ⟨w0, hw0⟩ : ∃ y, ((w.alloc (.cells #[.int .i64 kd, .int .i64 i, .int .i64 n, .slice B bn bc, .slice K kn kc, .int .i64 torn, .int .i64 cut] 34)).alloc (.cells #[.int .i64 0, .slice none 0 0, .map none, .map none, .int .i64 0] 59)).alloc (.cells #[.pointer none, .pointer (some ⟨g + 1, 0, none⟩)] 24) = y := ⟨_, rfl⟩
  have hb0 : Below w.heap.size w w0 := by rw [← hw0]; exact (((Below.refl _ _).alloc (Nat.le_refl _) _).alloc (by simp) _).alloc (by simp; omega) _
  have hO : Blk w0 g [.int .i64 kd, .int .i64 i, .int .i64 n, .slice B bn bc, .slice K kn kc, .int .i64 torn, .int .i64 cut] 34 := by
    rw [← hw0, ← hg]; exact ((Blk.new w _ _).alloc _).alloc _
  have hZ : Blk w0 (g + 1) [.int .i64 0, .slice none 0 0, .map none, .map none, .int .i64 0] 59 := by
    rw [← hw0, ← hg]
    have := (Blk.new (w.alloc (.cells #[.int .i64 kd, .int .i64 i, .int .i64 n, .slice B bn bc, .slice K kn kc, .int .i64 torn, .int .i64 cut] 34)) [.int .i64 0, .slice none 0 0, .map none, .map none, .int .i64 0] 59).alloc (.cells #[.pointer none, .pointer (some ⟨w.heap.size + 1, 0, none⟩)] 24)
    rwa [World.size_alloc] at this
  have hL : Blk w0 (g + 1 + 1) [.pointer none, .pointer (some ⟨g + 1, 0, none⟩)] 24 := by
    rw [← hw0, ← hg]
    have := Blk.new ((w.alloc (.cells #[.int .i64 kd, .int .i64 i, .int .i64 n, .slice B bn bc, .slice K kn kc, .int .i64 torn, .int .i64 cut] 34)).alloc (.cells #[.int .i64 0, .slice none 0 0, .map none, .map none, .int .i64 0] 59)) [.pointer none, .pointer (some ⟨w.heap.size + 1, 0, none⟩)] 24
    rwa [World.size_alloc, World.size_alloc] at this
  have hnd : ∀ k, k < 2 → ∃ p, [Value.pointer none, Value.pointer (some ⟨g + 1, 0, none⟩)][k]? = some p ∧ (p = .pointer none ∨ p = .pointer (some ⟨g + 1, 0, none⟩)) ∧ ∀ W, Below w0.heap.size w0 W → NoDk p W := fun k hk => by
    rcases (show k = 0 ∨ k = 1 by omega) with rfl | rfl
    · exact ⟨_, rfl, .inl rfl, fun W hW => made08_nil W⟩
    · exact ⟨_, rfl, .inr rfl, fun W hW => made08_zero (hZ.below hW)⟩
  have Hnd := hide hnd
  have Hw0 := hide hw0
  have Hg := hide hg
  clear hnd hw0 hg hZ
  go_enter Try.func7, Try.ntmps7
  go_wp2_with fail
  rw [Hg.out, Hw0.out]
  go_loopw [15] (fun s W => ∃ k : Nat, s = .int .i64 (k : Int) ∧ k ≤ 2 ∧ Below w0.heap.size w0 W) (fun s _ => 2 - (RowKit.intOf s).toNat)
  case atStart => exact ⟨0, rfl, by omega, Below.refl _ _⟩
  case round =>
    obtain ⟨k, rfl, hk2, hbw⟩ := hrel
    by_cases hlt : k < 2
    · have q0 : decide ((k : Int) < 2) = true := decide_eq_true (by omega)
      obtain ⟨p, hp, hpp, hno⟩ := Hnd.out k hlt
      have hcp := (hL.below hbw).cell hp
      have hOw := hO.below hbw
      have o1 := hOw.cell (j := 1) rfl
      have o2 := hOw.cell (j := 2) rfl
      have o3 := hOw.cell (j := 3) rfl
      have o4 := hOw.cell (j := 4) rfl
      have o5 := hOw.cell (j := 5) rfl
      have o6 := hOw.cell (j := 6) rfl
      have HNO := hide hno
      have h1 := hide (no_read (hno wr hbw) i n)
      have h2 := hide (no_shape (hno wr hbw))
      have h3 := hide (no_write (hno wr hbw) i B bn bc)
      have h4 := hide (no_barrier (hno wr hbw))
      have h5 := hide (no_crash (fun W hW => hno W (hbw.trans (hW.mono hbw.size))) K kn kc torn cut)
      clear hp hpp hno
      go_wp2_with fail
      go_fit h1.out
      rintro x w1 ⟨rfl, rfl⟩
      go_wp2_with fail
      go_fit h2.out
      rintro x w2 ⟨rfl, rfl⟩
      go_wp2_with fail
      go_fit h3.out
      rintro x w3 ⟨rfl, rfl⟩
      go_wp2_with fail
      go_fit h4.out
      rintro x w4 ⟨rfl, rfl⟩
      go_wp2_with fail
      go_fit h5.out
      rintro x w5 ⟨rfl, hb5⟩
      have hb05 := hbw.trans (hb5.mono hbw.size)
      have hO5 := hOw.below hb5
      have p1 := hO5.cell (j := 1) rfl
      have p2 := hO5.cell (j := 2) rfl
      have p3 := hO5.cell (j := 3) rfl
      have hn5 := HNO.out w5 hb05
      have h6 := hide (no_spoil hn5 i B bn bc)
      have h7 := hide (no_bad hn5 i)
      have h8 := hide (no_copy hn5)
      have h9 := hide (no_fuse hn5 n)
      have h10 := hide (no_loose hn5)
      clear h1 h2 h3 h4 h5 o1 o2 o3 o4 o5 o6 hOw hb5 hn5 hcp
      go_wp2_with fail
      go_fit h6.out
      rintro x w6 ⟨rfl, rfl⟩
      go_wp2_with fail
      go_fit h7.out
      rintro x w7 ⟨rfl, rfl⟩
      go_wp2_with fail
      go_fit h8.out
      rintro x w8 ⟨rfl, rfl⟩
      go_wp2_with fail
      go_fit h9.out
      rintro x w9 ⟨rfl, rfl⟩
      go_wp2_with fail
      go_fit h10.out
      rintro x w10 ⟨rfl, rfl⟩
      go_wp2
      go_roundw
      case rel => exact ⟨k + 1, by go_num, by omega, hb05⟩
      case measure => simp [RowKit.intOf]; omega
    · have q0 : decide ((k : Int) < 2) = false := decide_eq_false (by omega)
      have HAW := hide (awake08_any wr)
      go_wp2_with fail
      go_fit HAW.out
      rintro x w9 ⟨rfl, hb9⟩
      go_wp2
      go_ret
      exact ⟨rfl, (hb0.trans (hbw.mono hb0.size)).trans (hb9.mono (by have := hb0.size; have := hbw.size; omega))⟩
end Go.Proofs.Ytdianokikhggnaa
