/- Texts joined (shake.py). -/
import Derived.Test.YtoaodmidegkolaaGreatDoorChecked
import Derived.Deep.QuietTactic
import Derived.WalkSpells
import Derived.Deep.DeepFit
import Derived.Deep.RegionHeld3
import Derived.Deep.RegionHeldLaw
import Derived.Test.YtoaodmidegkolaaGreatDoorCards
import Derived.Test.YtoaodmidegkolaaGreatDoorTie
import Derived.Deep.DeepHandedRow
import Derived.Lib.LaidTab
import Derived.Test.YtoaodmidegkolaaGreatDoorK91
namespace Go.Proofs.YtoaodmidegkolaaGreatDoor
set_option maxRecDepth 20000
open Go.RowKit Go.Px
theorem own : ownKnob Tryz.prog.godebug = none := by kernel_rfl
theorem tInts : SlT Tryz.prog 43 3 1 8 := slT_mk Tryz.underlying43 (z := .int .i64 0) (by kernel_rfl) rfl (by decide)
theorem tByteRows : SlT Tryz.prog 44 51 1 24 := slT_mk Tryz.underlying44 (z := .slice none 0 0) (by kernel_rfl) rfl (by decide)
theorem tBytes : SlT Tryz.prog 51 5 1 1 := slT_mk Tryz.underlying51 (z := .int .u8 0) (by kernel_rfl) rfl (by decide)
@[go_sem] theorem eqnil_bytes (w : World) (A : Option Addr) (n c n' c' : Nat) : (binOp .eql 51 (.slice A n c) (.slice none n' c')).run Tryz.prog w = .ok (.bool A.isNone) w := Lib.run_eql_slice_nil w _ _ A n c n' c' Tryz.underlying51
theorem convB {w : World} {A : Option Addr} {n : Nat} (c : Nat) {bs : List UInt8} (hn : bs.length = n) (h : Rd w A (bys bs)) : (convert 51 9 (.slice A n c)).run Tryz.prog w = .ok (.string (strOf bs)) w := conv_bytes Tryz.underlying51 Tryz.underlying5 Tryz.underlying9 hn h
@[go_sem] theorem convConst (w : World) (C : Array Value) (n c g : Nat) (hg : g = w.heap.size) : (convert 51 51 (.slice (some ⟨g, 0, none⟩) n c)).run Tryz.prog (w.alloc (.cells C 5)) = .ok (.slice (some ⟨g, 0, none⟩) n c) (w.alloc (.cells C 5 (C.size, C.size + 1))) := by
  subst hg; exact Lib.run_convert_bytes_const w _ _ C n c Tryz.underlying51 Tryz.underlying5
theorem bool_two (b : Bool) : b = true ∨ b = false := by cases b <;> simp
end Go.Proofs.YtoaodmidegkolaaGreatDoor
namespace Go.Proofs.YtoaodmidegkolaaGreatDoor
set_option maxRecDepth 20000
open Go.RowKit Go.Px
set_option linter.unusedVariables false
def numOk (x : Int) : Prop := 0 ≤ x ∧ x ≤ 4611686018427387904
instance (x : Int) : Decidable (numOk x) := by unfold numOk; exact inferInstance
/-- A superblock. -/
structure Sup where
  ser : Nat
  ep : Int
  vw : Int
  nm : Int
  tp : Int
  bs : Int
  ar : Int
  st : Int
  ch : Nat
deriving DecidableEq
def Sup.Ok (s : Sup) : Prop := numOk s.ep ∧ numOk s.vw ∧ numOk s.nm ∧ numOk s.tp ∧ numOk s.bs ∧ 0 ≤ s.ar ∧ s.ar ≤ 1 ∧ 0 ≤ s.st ∧ s.st ≤ 65536
instance (s : Sup) : Decidable s.Ok := by unfold Sup.Ok; exact inferInstance
def Sup.E (s : Sup) : Int := if s.Ok then 0 else 90
def Sup.row (s : Sup) : List Int := [s.ep, s.vw, s.nm, s.tp, s.bs]
theorem Sup.E_bad {s : Sup} {k : Nat} (hk : k < 5) (h : ¬ numOk (s.row.getD k 0)) : s.E = 90 := by
  unfold Sup.E
  rw [if_neg]
  rintro ⟨h1, h2, h3, h4, h5, _⟩
  rcases (show k = 0 ∨ k = 1 ∨ k = 2 ∨ k = 3 ∨ k = 4 by omega) with rfl | rfl | rfl | rfl | rfl
  · exact h h1
  · exact h h2
  · exact h h3
  · exact h h4
  · exact h h5
abbrev Sup.cells (s : Sup) : List Value := [.int .u64 (s.ser : Int), .int .i64 s.ep, .int .i64 s.vw, .int .i64 s.nm, .int .i64 s.tp, .int .i64 s.bs, .int .i64 s.ar, .int .i64 s.st, .int .u32 (s.ch : Int)]
theorem idx09 (vs : List Value) (h5 : vs.length = 5) (k : Nat) (hk : k < 5) (w : World) : ∃ x, vs[k]? = some x ∧ (Instr.index 97 (.agg vs.toArray) (.int .i64 (k : Int))).run Tryz.prog w = .ok x w := by
  match vs, h5 with
  | [a, b, c, d, e], _ =>
    rcases (show k = 0 ∨ k = 1 ∨ k = 2 ∨ k = 3 ∨ k = 4 by omega) with rfl | rfl | rfl | rfl | rfl
    · exact ⟨a, rfl, by kernel_rfl⟩
    · exact ⟨b, rfl, by kernel_rfl⟩
    · exact ⟨c, rfl, by kernel_rfl⟩
    · exact ⟨d, rfl, by kernel_rfl⟩
    · exact ⟨e, rfl, by kernel_rfl⟩
set_option maxHeartbeats 1600000 in
theorem schk_any (s : Sup) (w : World) : Calls Tryz.prog 32 #[.agg s.cells.toArray] w fun e w' => e = .returned (.int .i64 s.E) ∧ Below w.heap.size w w' := by
  have hbad := fun k hk h => Sup.E_bad (s := s) (k := k) hk h
  have hE : s.E = if s.Ok then 0 else 90 := rfl
  obtain ⟨ser, ep, vw, nm, tp, bs, ar, st, ch⟩ := s
  obtain ⟨er, her⟩ : ∃ y, Sup.E ⟨ser, ep, vw, nm, tp, bs, ar, st, ch⟩ = y := ⟨_, rfl⟩
  rw [her] at hE ⊢
  simp only [her] at hbad
  obtain ⟨w0, hw0⟩ : ∃ y, w.alloc (.cells #[.int .u64 (ser : Int), .int .i64 ep, .int .i64 vw, .int .i64 nm, .int .i64 tp, .int .i64 bs, .int .i64 ar, .int .i64 st, .int .u32 (ch : Int)] 25) = y := ⟨_, rfl⟩
  obtain ⟨g, hg⟩ : ∃ g, w.heap.size = g := ⟨_, rfl⟩
  have hG : Blk w0 g [.int .u64 (ser : Int), .int .i64 ep, .int .i64 vw, .int .i64 nm, .int .i64 tp, .int .i64 bs, .int .i64 ar, .int .i64 st, .int .u32 (ch : Int)] 25 := by rw [← hw0, ← hg]; exact Blk.new w _ _
  have hb0 : Below w.heap.size w w0 := by rw [← hw0]; exact (Below.refl _ _).alloc (Nat.le_refl _) _
  have y0 := Blk.cell hG (j := 0) rfl; have y1 := Blk.cell hG (j := 1) rfl; have y2 := Blk.cell hG (j := 2) rfl; have y3 := Blk.cell hG (j := 3) rfl; have y4 := Blk.cell hG (j := 4) rfl; have y5 := Blk.cell hG (j := 5) rfl; have y6 := Blk.cell hG (j := 6) rfl; have y7 := Blk.cell hG (j := 7) rfl; have y8 := Blk.cell hG (j := 8) rfl
  have Hbad := hide hbad
  have HE := hide hE
  have Hw0 := hide hw0
  have Hg := hide hg
  clear hbad hE her hw0 hg
  go_enter Tryz.func32, Tryz.ntmps32
  go_wp2_with fail
  rw [Hw0.out, Hg.out]
  go_wp2_with fail
  go_loopw [16] (fun v W => ∃ k : Nat, v = .int .i64 (k : Int) ∧ k ≤ 5 ∧ W = w0 ∧ Hid (∀ j, j < k → numOk ([ep, vw, nm, tp, bs].getD j 0))) (fun v _ => 5 - (RowKit.intOf v).toNat)
  case atStart => exact ⟨0, rfl, by omega, rfl, hide (fun j hj => absurd hj (by omega))⟩
  case round =>
    obtain ⟨k, rfl, hk, rfl, HJ⟩ := hrel
    by_cases hlt : k < 5
    · have hb := Hbad.out k hlt
      obtain ⟨x, hx⟩ : ∃ x, [ep, vw, nm, tp, bs].getD k 0 = x := ⟨_, rfl⟩
      have hix : (Instr.index 97 (.agg #[.int .i64 ep, .int .i64 vw, .int .i64 nm, .int .i64 tp, .int .i64 bs]) (.int .i64 (k : Int))).run Tryz.prog wr = .ok (.int .i64 x) wr := by
        obtain ⟨y, hy, he⟩ := idx09 [.int .i64 ep, .int .i64 vw, .int .i64 nm, .int .i64 tp, .int .i64 bs] rfl k hlt wr
        have : y = .int .i64 x := by
          rw [← hx]
          rcases (show k = 0 ∨ k = 1 ∨ k = 2 ∨ k = 3 ∨ k = 4 by omega) with rfl | rfl | rfl | rfl | rfl <;> (injection hy with hy; rw [← hy]; rfl)
        rw [← this]; exact he
      have hbx : ¬ numOk x → er = 90 := fun h => hb (by rw [← hx] at h; exact h)
      clear hb
      by_cases hok : numOk x
      · have q1 : decide (x < 0) = false := decide_eq_false (by have := hok.1; omega)
        have q2 : decide ((4611686018427387904 : Int) < x) = false := decide_eq_false (by have := hok.2; omega)
        have HN : Hid (∀ j, j < k + 1 → numOk ([ep, vw, nm, tp, bs].getD j 0)) := hide (fun j hj => by
          rcases (show j < k ∨ j = k by omega) with h | rfl
          · exact HJ.out j h
          · rw [hx]; exact hok)
        clear hbx hok HJ
        clear hx
        go_wp2
        go_roundw
        case rel => first | exact ⟨k + 1, by go_num, by omega, rfl, HN⟩ | exact ⟨k + 1, by go_num, by omega, trivial, HN⟩
        case measure => simp [RowKit.intOf]; omega
      · have he := hbx hok
        have hcs : x < 0 ∨ (0 ≤ x ∧ 4611686018427387904 < x) := by unfold numOk at hok; omega
        clear hbx hok HJ
        subst he
        rcases hcs with h | ⟨h, h'⟩
        all_goals
          first
            | have q1 : decide (x < 0) = true := decide_eq_true h
            | (have q1 : decide (x < 0) = false := decide_eq_false (by omega); have q2 : decide ((4611686018427387904 : Int) < x) = true := decide_eq_true h')
          clear hx
          go_wp2
          go_ret
          first | exact ⟨rfl, hb0⟩ | exact ⟨trivial, hb0⟩
    · obtain rfl : k = 5 := by omega
      have hj := HJ.out
      have h0 := hj 0 (by omega)
      have h1 := hj 1 (by omega)
      have h2 := hj 2 (by omega)
      have h3 := hj 3 (by omega)
      have h4 := hj 4 (by omega)
      simp only [List.getD_cons_zero, List.getD_cons_succ] at h0 h1 h2 h3 h4
      have hE := HE.out
      clear hj
      by_cases a1 : ar < 0
      · have qa : decide (ar < 0) = true := decide_eq_true a1
        rw [if_neg (fun h => by have := h.2.2.2.2.2.1; simp only at this; omega)] at hE
        subst hE
        clear h0 h1 h2 h3 h4
        go_wp2
        go_ret
        first | exact ⟨rfl, hb0⟩ | exact ⟨trivial, hb0⟩
      · have qa : decide (ar < 0) = false := decide_eq_false a1
        by_cases a2 : 1 < ar
        · have qb : decide (1 < ar) = true := decide_eq_true a2
          rw [if_neg (fun h => by have := h.2.2.2.2.2.2.1; simp only at this; omega)] at hE
          subst hE
          clear h0 h1 h2 h3 h4
          go_wp2
          go_ret
          first | exact ⟨rfl, hb0⟩ | exact ⟨trivial, hb0⟩
        · have qb : decide (1 < ar) = false := decide_eq_false a2
          by_cases a3 : st < 0
          · have qc : decide (st < 0) = true := decide_eq_true a3
            rw [if_neg (fun h => by have := h.2.2.2.2.2.2.2.1; simp only at this; omega)] at hE
            subst hE
            clear h0 h1 h2 h3 h4
            go_wp2
            go_ret
            first | exact ⟨rfl, hb0⟩ | exact ⟨trivial, hb0⟩
          · have qc : decide (st < 0) = false := decide_eq_false a3
            by_cases a4 : 65536 < st
            · have qd : decide (65536 < st) = true := decide_eq_true a4
              rw [if_neg (fun h => by have := h.2.2.2.2.2.2.2.2; simp only at this; omega)] at hE
              subst hE
              clear h0 h1 h2 h3 h4
              go_wp2
              go_ret
              first | exact ⟨rfl, hb0⟩ | exact ⟨trivial, hb0⟩
            · have qd : decide (65536 < st) = false := decide_eq_false a4
              rw [if_pos ⟨h0, h1, h2, h3, h4, by show 0 ≤ ar; omega, by show ar ≤ 1; omega, by show 0 ≤ st; omega, by show st ≤ 65536; omega⟩] at hE
              subst hE
              clear h0 h1 h2 h3 h4
              go_wp2
              go_ret
              first | exact ⟨rfl, hb0⟩ | exact ⟨trivial, hb0⟩
set_option maxHeartbeats 1600000 in
theorem rschk_any (s : Sup) (w : World) : Calls Tryz.prog 5 #[.agg s.cells.toArray] w fun e w' => e = .returned (.int .i64 s.E) ∧ Below w.heap.size w w' := by
  have hbad := fun k hk h => Sup.E_bad (s := s) (k := k) hk h
  have hE : s.E = if s.Ok then 0 else 90 := rfl
  obtain ⟨ser, ep, vw, nm, tp, bs, ar, st, ch⟩ := s
  obtain ⟨er, her⟩ : ∃ y, Sup.E ⟨ser, ep, vw, nm, tp, bs, ar, st, ch⟩ = y := ⟨_, rfl⟩
  rw [her] at hE ⊢
  simp only [her] at hbad
  obtain ⟨w0, hw0⟩ : ∃ y, w.alloc (.cells #[.int .u64 (ser : Int), .int .i64 ep, .int .i64 vw, .int .i64 nm, .int .i64 tp, .int .i64 bs, .int .i64 ar, .int .i64 st, .int .u32 (ch : Int)] 25) = y := ⟨_, rfl⟩
  obtain ⟨g, hg⟩ : ∃ g, w.heap.size = g := ⟨_, rfl⟩
  have hG : Blk w0 g [.int .u64 (ser : Int), .int .i64 ep, .int .i64 vw, .int .i64 nm, .int .i64 tp, .int .i64 bs, .int .i64 ar, .int .i64 st, .int .u32 (ch : Int)] 25 := by rw [← hw0, ← hg]; exact Blk.new w _ _
  have hb0 : Below w.heap.size w w0 := by rw [← hw0]; exact (Below.refl _ _).alloc (Nat.le_refl _) _
  have y0 := Blk.cell hG (j := 0) rfl; have y1 := Blk.cell hG (j := 1) rfl; have y2 := Blk.cell hG (j := 2) rfl; have y3 := Blk.cell hG (j := 3) rfl; have y4 := Blk.cell hG (j := 4) rfl; have y5 := Blk.cell hG (j := 5) rfl; have y6 := Blk.cell hG (j := 6) rfl; have y7 := Blk.cell hG (j := 7) rfl; have y8 := Blk.cell hG (j := 8) rfl
  obtain ⟨w1, hw1⟩ : ∃ y, w0.alloc (.cells #[.int .i64 ep, .int .i64 vw, .int .i64 nm, .int .i64 tp, .int .i64 bs] 3) = y := ⟨_, rfl⟩
  have hR : Blk w1 (g + 1) [.int .i64 ep, .int .i64 vw, .int .i64 nm, .int .i64 tp, .int .i64 bs] 3 := by
    rw [← hw1, show g + 1 = w0.heap.size by rw [← hw0, ← hg]; simp]; exact Blk.new w0 _ _
  have hz0 : w0.heap.size = g + 1 := by rw [← hw0, ← hg]; simp
  have hb1 : Below w.heap.size w w1 := by rw [← hw1]; exact hb0.alloc (by omega) _
  have hG1 : Blk w1 g [.int .u64 (ser : Int), .int .i64 ep, .int .i64 vw, .int .i64 nm, .int .i64 tp, .int .i64 bs, .int .i64 ar, .int .i64 st, .int .u32 (ch : Int)] 25 := by rw [← hw1]; exact hG.alloc _
  have Hbad := hide hbad
  have Hw1 := hide hw1
  have Hz0 := hide hz0
  have HE := hide hE
  have Hw0 := hide hw0
  have Hg := hide hg
  clear hbad hE her hw0 hg hw1 hz0
  go_enter Tryz.func5, Tryz.ntmps5
  go_wp2_with fail
  rw [Hw0.out, Hg.out]
  go_wp2_with fail
  rw [Hw1.out]
  try rw [Hz0.out]
  clear y0 y1 y2 y3 y4 y5 y6 y7 y8
  have y0 := Blk.cell hG1 (j := 0) rfl; have y1 := Blk.cell hG1 (j := 1) rfl; have y2 := Blk.cell hG1 (j := 2) rfl; have y3 := Blk.cell hG1 (j := 3) rfl; have y4 := Blk.cell hG1 (j := 4) rfl; have y5 := Blk.cell hG1 (j := 5) rfl; have y6 := Blk.cell hG1 (j := 6) rfl; have y7 := Blk.cell hG1 (j := 7) rfl; have y8 := Blk.cell hG1 (j := 8) rfl
  go_loopw [17] (fun v W => ∃ k : Nat, v = .int .i64 (k : Int) ∧ k ≤ 5 ∧ W = w1 ∧ Hid (∀ j, j < k → numOk ([ep, vw, nm, tp, bs].getD j 0))) (fun v _ => 5 - (RowKit.intOf v).toNat)
  case atStart => exact ⟨0, rfl, by omega, rfl, hide (fun j hj => absurd hj (by omega))⟩
  case round =>
    obtain ⟨k, rfl, hk, rfl, HJ⟩ := hrel
    by_cases hlt : k < 5
    · have hb := Hbad.out k hlt
      obtain ⟨x, hx⟩ : ∃ x, [ep, vw, nm, tp, bs].getD k 0 = x := ⟨_, rfl⟩
      have hix := hR.cell (j := k) (v := .int .i64 x) (by rw [← hx]; rcases (show k = 0 ∨ k = 1 ∨ k = 2 ∨ k = 3 ∨ k = 4 by omega) with rfl | rfl | rfl | rfl | rfl <;> rfl)
      have hbx : ¬ numOk x → er = 90 := fun h => hb (by rw [← hx] at h; exact h)
      clear hb
      by_cases hok : numOk x
      · have q1 : decide (x < 0) = false := decide_eq_false (by have := hok.1; omega)
        have q2 : decide ((4611686018427387904 : Int) < x) = false := decide_eq_false (by have := hok.2; omega)
        have HN : Hid (∀ j, j < k + 1 → numOk ([ep, vw, nm, tp, bs].getD j 0)) := hide (fun j hj => by
          rcases (show j < k ∨ j = k by omega) with h | rfl
          · exact HJ.out j h
          · rw [hx]; exact hok)
        clear hbx hok HJ
        clear hx
        go_wp2
        go_roundw
        case rel => first | exact ⟨k + 1, by go_num, by omega, rfl, HN⟩ | exact ⟨k + 1, by go_num, by omega, trivial, HN⟩
        case measure => simp [RowKit.intOf]; omega
      · have he := hbx hok
        have hcs : x < 0 ∨ (0 ≤ x ∧ 4611686018427387904 < x) := by unfold numOk at hok; omega
        clear hbx hok HJ
        subst he
        rcases hcs with h | ⟨h, h'⟩
        all_goals
          first
            | have q1 : decide (x < 0) = true := decide_eq_true h
            | (have q1 : decide (x < 0) = false := decide_eq_false (by omega); have q2 : decide ((4611686018427387904 : Int) < x) = true := decide_eq_true h')
          clear hx
          go_wp2
          go_ret
          first | exact ⟨rfl, hb1⟩ | exact ⟨trivial, hb1⟩
    · obtain rfl : k = 5 := by omega
      have hj := HJ.out
      have h0 := hj 0 (by omega)
      have h1 := hj 1 (by omega)
      have h2 := hj 2 (by omega)
      have h3 := hj 3 (by omega)
      have h4 := hj 4 (by omega)
      simp only [List.getD_cons_zero, List.getD_cons_succ] at h0 h1 h2 h3 h4
      have hE := HE.out
      clear hj
      by_cases a1 : ar < 0
      · have qa : decide (ar < 0) = true := decide_eq_true a1
        rw [if_neg (fun h => by have := h.2.2.2.2.2.1; simp only at this; omega)] at hE
        subst hE
        clear h0 h1 h2 h3 h4
        go_wp2
        go_ret
        first | exact ⟨rfl, hb1⟩ | exact ⟨trivial, hb1⟩
      · have qa : decide (ar < 0) = false := decide_eq_false a1
        by_cases a2 : 1 < ar
        · have qb : decide (1 < ar) = true := decide_eq_true a2
          rw [if_neg (fun h => by have := h.2.2.2.2.2.2.1; simp only at this; omega)] at hE
          subst hE
          clear h0 h1 h2 h3 h4
          go_wp2
          go_ret
          first | exact ⟨rfl, hb1⟩ | exact ⟨trivial, hb1⟩
        · have qb : decide (1 < ar) = false := decide_eq_false a2
          by_cases a3 : st < 0
          · have qc : decide (st < 0) = true := decide_eq_true a3
            rw [if_neg (fun h => by have := h.2.2.2.2.2.2.2.1; simp only at this; omega)] at hE
            subst hE
            clear h0 h1 h2 h3 h4
            go_wp2
            go_ret
            first | exact ⟨rfl, hb1⟩ | exact ⟨trivial, hb1⟩
          · have qc : decide (st < 0) = false := decide_eq_false a3
            by_cases a4 : 65536 < st
            · have qd : decide (65536 < st) = true := decide_eq_true a4
              rw [if_neg (fun h => by have := h.2.2.2.2.2.2.2.2; simp only at this; omega)] at hE
              subst hE
              clear h0 h1 h2 h3 h4
              go_wp2
              go_ret
              first | exact ⟨rfl, hb1⟩ | exact ⟨trivial, hb1⟩
            · have qd : decide (65536 < st) = false := decide_eq_false a4
              rw [if_pos ⟨h0, h1, h2, h3, h4, by show 0 ≤ ar; omega, by show ar ≤ 1; omega, by show 0 ≤ st; omega, by show st ≤ 65536; omega⟩] at hE
              subst hE
              clear h0 h1 h2 h3 h4
              go_wp2
              go_ret
              first | exact ⟨rfl, hb1⟩ | exact ⟨trivial, hb1⟩
end Go.Proofs.YtoaodmidegkolaaGreatDoor
namespace Go.Proofs.YtoaodmidegkolaaGreatDoor
set_option maxRecDepth 20000
open Go.RowKit Go.Px
set_option linter.unusedVariables false

theorem isSize_any (n : Int) (w : World) : Calls Tryz.prog 72 #[.int .i64 n] w fun e w' => e = .returned (.bool (decide (1 ≤ n ∧ n ≤ 8))) ∧ w = w' := by
  by_cases h1 : 1 ≤ n <;> by_cases h2 : n ≤ 8
  all_goals
    go_enter Tryz.func72, Tryz.ntmps72
    go_wp2
    go_ret
    exact ⟨by simp; omega, rfl⟩

theorem shr_zero (v k : Nat) : ((v : Int) / 2 ^ (8 * k) != 0) = !decide (v < 256 ^ k) := by
  have h2 : ((v : Int) / 2 ^ (8 * k)) = ((v / 256 ^ k : Nat) : Int) := by
    rw [pow256_two, Int.natCast_ediv, Int.natCast_pow]; rfl
  rw [h2]
  have h3 : 0 < 256 ^ k := Nat.pow_pos (by decide)
  rw [Bool.eq_iff_iff]
  simp only [bne_iff_ne, ne_eq, Bool.not_eq_true', decide_eq_false_iff_not, Int.natCast_eq_zero, Nat.div_eq_zero_iff]
  omega

set_option maxHeartbeats 400000 in
theorem fits_any (v : Nat) (n : Int) (w : World) (hv : v < 18446744073709551616) : Calls Tryz.prog 65 #[.int .u64 v, .int .i64 n] w fun e w' => e = .returned (.int .i64 (fitsE v n)) ∧ w = w' := by
  by_cases hs : 1 ≤ n ∧ n ≤ 8
  · have Hz := hide (show decide (1 ≤ n ∧ n ≤ 8) = true by simp [hs])
    obtain ⟨h1, h2⟩ := hs
    obtain ⟨k, rfl⟩ : ∃ k : Nat, n = k := ⟨n.toNat, by omega⟩
    have hq := shr_zero v k
    have Hfin := hide (show fitsE v k = if v < 256 ^ k then 0 else 5 by unfold fitsE; rw [if_pos ⟨h1, h2⟩, Int.toNat_natCast])
    by_cases h8 : (k : Int) < 8
    · by_cases hf : v < 256 ^ k
      all_goals
        simp only [hf, decide_true, decide_false, Bool.not_true, Bool.not_false, if_true, if_false] at hq Hfin
        clear hf
        go_enter Tryz.func65, Tryz.ntmps65
        go_wp2_with (go_at_call 72; refine (isSize_any _ _).mono ?_; rw [Hz.out]; rintro e w' ⟨rfl, rfl⟩)
        go_ret
        exact ⟨by rw [Hfin.out]; rfl, rfl⟩
    · have hk : v < 256 ^ k := by
        have : k = 8 := by omega
        subst this; omega
      clear hq
      go_enter Tryz.func65, Tryz.ntmps65
      go_wp2_with (go_at_call 72; refine (isSize_any _ _).mono ?_; rw [Hz.out]; rintro e w' ⟨rfl, rfl⟩)
      go_ret
      exact ⟨by rw [Hfin.out, if_pos hk]; rfl, rfl⟩
  · have Hz := hide (show decide (1 ≤ n ∧ n ≤ 8) = false by simp; omega)
    have Hfin := hide (show fitsE v n = 1 by unfold fitsE; rw [if_neg hs])
    clear hs
    go_enter Tryz.func65, Tryz.ntmps65
    go_wp2_with (go_at_call 72; refine (isSize_any _ _).mono ?_; rw [Hz.out]; rintro e w' ⟨rfl, rfl⟩)
    go_ret
    exact ⟨by rw [Hfin.out]; rfl, rfl⟩

set_option maxHeartbeats 400000 in
theorem numberO_any (A : Option Addr) (n c : Nat) (bs : List UInt8) (w : World) (hn : bs.length = n) (h8 : n ≤ 8) (hr : Rd w A (bys bs)) :
    Calls Tryz.prog 73 #[.slice A n c] w fun e w' => e = .returned (.int .u64 (numN bs)) ∧ w = w' := by
  have Hn := hide hn
  clear hn
  go_enter Tryz.func73, Tryz.ntmps73
  go_wp2
  go_loop [3, 7] (fun v i => ∃ k : Nat, k ≤ n ∧ i = .int .i64 k ∧ v = .int .u64 (numN (bs.take k))) (fun _ i => n - (intOf i).toNat)
  case atStart => exact ⟨0, Nat.zero_le _, rfl, rfl⟩
  case round =>
    obtain ⟨k, hk, rfl, rfl⟩ := hrel
    by_cases hlt : k < n
    · have hkb : k < bs.length := by rw [Hn.out]; exact hlt
      obtain ⟨a, rfl, hc⟩ := hr k _ (bys_get hkb)
      have HS := hide (numN_take_succ bs k hkb)
      have HL := hide (numN_lt (bs.take k))
      go_wp2
      go_round
      case rel =>
        refine ⟨k + 1, by omega, by go_num, ?_⟩
        have hl := HL.out
        rw [List.length_take, Nat.min_eq_left (by omega)] at hl
        rw [HS.out, or_shift_u64 _ _ k hl (UInt8.toNat_lt _) (by omega)]
      case measure => simp [intOf]; omega
    · go_wp2
      go_ret
      have : k = n := by omega
      subst this
      exact ⟨by rw [List.take_of_length_le (by rw [Hn.out]; exact Nat.le_refl _)]; rfl, rfl⟩

set_option maxHeartbeats 800000 in
theorem get_any (A : Option Addr) (m c : Nat) (bs : List UInt8) (i n : Int) (w : World) (hm : bs.length = m) (hmc : m ≤ c) (hc63 : c ≤ 9223372036854775807) (hr : Rd w A (bys bs)) (hi : -9223372036854775808 ≤ i) (hi2 : i ≤ 9223372036854775807) :
    Calls Tryz.prog 60 #[.slice A m c, .int .i64 i, .int .i64 n] w fun e w' => e = .returned (.tuple #[.int .u64 (getV bs i n), .int .i64 (getI bs i n), .int .i64 (getE bs i n)]) ∧ w = w' := by
  by_cases hs : 1 ≤ n ∧ n ≤ 8
  · have Hz := hide (show decide (1 ≤ n ∧ n ≤ 8) = true by simp [hs])
    obtain ⟨h1, h2⟩ := hs
    by_cases h0 : 0 ≤ i
    · by_cases h3 : i ≤ m
      · by_cases h4 : m - i < n
        · have He := hide (show getE bs i n = 10 by unfold getE; rw [if_pos ⟨h1, h2⟩, if_pos ⟨h0, by omega⟩, if_pos (by omega)])
          clear hm
          go_enter Tryz.func60, Tryz.ntmps60
          go_wp2_with (go_at_call 72; refine (isSize_any _ _).mono ?_; rw [Hz.out]; rintro e w' ⟨rfl, rfl⟩)
          go_ret3
          exact ⟨by simp [getV, getI, He.out], rfl⟩
        · have He := hide (show getE bs i n = 0 by unfold getE; rw [if_pos ⟨h1, h2⟩, if_pos ⟨h0, by omega⟩, if_neg (by omega)])
          obtain ⟨k, rfl⟩ : ∃ k : Nat, n = k := ⟨n.toNat, by omega⟩
          obtain ⟨j, rfl⟩ : ∃ j : Nat, i = j := ⟨i.toNat, by omega⟩
          have Hm := hide hm
          have Hl := hide (show ((bs.drop j).take k).length = k by rw [List.length_take, List.length_drop]; omega)
          clear hm
          go_enter Tryz.func60, Tryz.ntmps60
          go_wp2_with (go_at_call 72; refine (isSize_any _ _).mono ?_; rw [Hz.out]; rintro e w' ⟨rfl, rfl⟩)
          refine (numberO_any _ _ _ ((bs.drop j).take k) _ Hl.out (by omega) (by rw [bys_take, bys_drop]; exact (hr.cutA (n := m) (k := j) (by rw [bys_length, Hm.out]; exact Nat.le_refl _) (by omega) hmc).take _)).mono ?_
          rintro e w' ⟨rfl, rfl⟩
          go_wp2
          go_ret3
          exact ⟨by simp [getV, getI, He.out], rfl⟩
      · have He := hide (show getE bs i n = 5 by unfold getE; rw [if_pos ⟨h1, h2⟩, if_neg (by omega)])
        clear hm
        go_enter Tryz.func60, Tryz.ntmps60
        go_wp2_with (go_at_call 72; refine (isSize_any _ _).mono ?_; rw [Hz.out]; rintro e w' ⟨rfl, rfl⟩)
        go_ret3
        exact ⟨by simp [getV, getI, He.out], rfl⟩
    · have He := hide (show getE bs i n = 5 by unfold getE; rw [if_pos ⟨h1, h2⟩, if_neg (by omega)])
      clear hm
      go_enter Tryz.func60, Tryz.ntmps60
      go_wp2_with (go_at_call 72; refine (isSize_any _ _).mono ?_; rw [Hz.out]; rintro e w' ⟨rfl, rfl⟩)
      go_ret3
      exact ⟨by simp [getV, getI, He.out], rfl⟩
  · have Hz := hide (show decide (1 ≤ n ∧ n ≤ 8) = false by simp; omega)
    have He := hide (show getE bs i n = 1 by unfold getE; rw [if_neg hs])
    clear hm hs
    go_enter Tryz.func60, Tryz.ntmps60
    go_wp2_with (go_at_call 72; refine (isSize_any _ _).mono ?_; rw [Hz.out]; rintro e w' ⟨rfl, rfl⟩)
    go_ret3
    exact ⟨by simp [getV, getI, He.out], rfl⟩

/-- Bytes behind a row of the call's own. -/
theorem appendNumber_any (base : Nat) (v : Value) (n : Nat) (xs : List Value) (x k : Nat) (w : World) (hown : w.ownsRow base 5 1 v n xs) (hx : x < 18446744073709551616) (hk : k ≤ 8) (hn : n ≤ 1099511627776) (hb : base ≤ w.heap.size) :
    Calls Tryz.prog 66 #[v, .int .u64 x, .int .i64 k] w fun e w' => ∃ v', e = .returned v' ∧ Grow w v base 5 1 w' v' (n + k) (xs ++ bys (leB k x)) := by
  go_enter Tryz.func66, Tryz.ntmps66
  go_wp2
  go_loopw [0, 9] (fun u i wr => ∃ j : Nat, j ≤ k ∧ i = .int .i64 j ∧ Grow w v base 5 1 wr u (n + j) (xs ++ bys (leB j x))) (fun _ i _ => k - (intOf i).toNat)
  case atStart => exact ⟨0, Nat.zero_le _, rfl, by simpa [leB, bys] using Grow.start hown hb⟩
  case round =>
    obtain ⟨j, hj, rfl, hG⟩ := hrel
    by_cases hlt : j < k
    · go_wp2_with (first | (with_reducible refine stop_append rfl ?_) | (with_reducible refine stop_copy rfl ?_) | (with_reducible refine stop_make rfl ?_))
      refine hG.push rfl rfl rfl tBytes rfl rfl rfl (by omega) (by omega) ?_
      intro u' w1 hG1 _
      go_wp2
      go_roundw
      case rel =>
        refine ⟨j + 1, by omega, by go_num, ?_⟩
        rw [leB_snoc, bys_append, ← List.append_assoc]
        have e : (x : Int) / 2 ^ (8 * j) % 256 = ((UInt8.ofNat (x / 256 ^ j % 256)).toNat : Int) := by
          rw [toNat_ofNat_mod, pow256_two, Int.natCast_emod, Int.natCast_ediv, Int.natCast_pow]; rfl
        rw [e] at hG1
        exact hG1
      case measure => simp [intOf]; omega
    · go_wp2
      go_ret
      have : j = k := by omega
      subst this
      exact ⟨_, rfl, hG⟩
end Go.Proofs.YtoaodmidegkolaaGreatDoor
namespace Go.Proofs.YtoaodmidegkolaaGreatDoor
set_option maxRecDepth 20000
open Go.RowKit Go.Px
set_option linter.unusedVariables false
theorem clone_any (A : Option Addr) (n c : Nat) (bs : List UInt8) (w : World) (hn : bs.length = n) (h8 : n ≤ 1099511627776) (hc : Rd w A (bys bs)) :
    Calls Tryz.prog 36 #[.slice A n c] w fun e w' => ∃ v, e = .returned v ∧ w'.ownsRow w.heap.size 5 1 v n (bys bs) ∧ Below w.heap.size w w' := by
  have Hn := hide hn
  clear hn
  rcases A with _ | a
  · have hb : bs = [] := by
      rcases bs with _ | ⟨b, r⟩
      · rfl
      · obtain ⟨a, ha, _⟩ := hc 0 _ rfl; cases ha
    subst hb
    have h0 := Hn.out
    simp only [List.length_nil] at h0
    subst h0
    go_enter Tryz.func36, Tryz.ntmps36
    go_wp2_with fail
    go_ret
    exact ⟨_, rfl, World.ownsRow_nil _ _ _ _, Below.refl _ _⟩
  · go_enter Tryz.func36, Tryz.ntmps36
    go_wp2_with (first | (with_reducible refine stop_append rfl ?_) | (with_reducible refine stop_copy rfl ?_) | (with_reducible refine stop_make rfl ?_))
    have hg : Grow (w.alloc (.cells #[] 5)) (.slice (some ⟨w.heap.size, 0, none⟩) 0 0) w.heap.size 5 1 (w.alloc (.cells #[] 5)) (.slice (some ⟨w.heap.size, 0, none⟩) 0 0) 0 [] :=
      Grow.start (World.ownsRow_made w #[] 0 (Nat.le_refl _) (by unfold maxLen; omega) rfl) (by simp)
    refine hg.append rfl rfl tBytes rfl rfl (by rw [bys_length, Hn.out]; omega) (hc.alloc _) (bys_one _) (by omega) (by omega) ?_
    intro v' w1 hG _
    go_wp2
    go_ret
    refine ⟨_, rfl, by simpa using hG.owns, hG.allOf ((Below.refl _ _).alloc (Nat.le_refl _) _) (by simp) (fun g hg => by simp [Value.ownBlock] at hg; omega)⟩

end Go.Proofs.YtoaodmidegkolaaGreatDoor
namespace Go.Proofs.YtoaodmidegkolaaGreatDoor
set_option maxRecDepth 20000
open Go.RowKit Go.Px
set_option linter.unusedVariables false

def u64s (l : List Nat) : List Value := l.map fun v : Nat => Value.int .u64 (v : Int)
theorem u64s_get {l : List Nat} {k : Nat} (h : k < l.length) : (u64s l)[k]? = some (.int .u64 (l[k] : Int)) := by simp [u64s, List.getElem?_eq_getElem h]
set_option maxHeartbeats 1000000 in
theorem putAll_any (A : Option Addr) (m c : Nat) (bs : List UInt8) (n : Int) (B : Option Addr) (k d : Nat) (l : List Nat) (w : World)
    (hm : bs.length = m) (hm8 : m ≤ 549755813888) (hA : Rd w A (bys bs)) (hk : l.length = k) (hk8 : k ≤ 34359738368) (hB : Rd w B (u64s l)) (hl : ∀ v ∈ l, v < 18446744073709551616) :
    Calls Tryz.prog 51 #[.slice A m c, .int .i64 n, .slice B k d] w fun e w' => ∃ v, e = .returned (.tuple #[v, .int .i64 (allE n l)]) ∧ w'.ownsRow w.heap.size 5 1 v (putAllB bs l n).length (bys (putAllB bs l n)) ∧ Below w.heap.size w w' := by
  have Hm := hide hm
  have Hk := hide hk
  clear hm hk
  go_enter Tryz.func51, Tryz.ntmps51
  go_wp2_with fail
  go_loop [16] (fun i => ∃ j : Nat, j ≤ k ∧ i = .int .i64 j ∧ Hid (allE n (l.take j) = 0)) (fun i => k - (intOf i).toNat)
  case atStart => exact ⟨0, Nat.zero_le _, rfl, hide (by simp [allE])⟩
  case round =>
    obtain ⟨j, hj, rfl, hz⟩ := hrel
    by_cases hlt : j < k
    · have hjl : j < l.length := by rw [Hk.out]; exact hlt
      obtain ⟨b, rfl, hcell⟩ := hB j _ (u64s_get hjl)
      have hlv := hl _ (List.getElem_mem hjl)
      have Hat := hide (allE_at n l j hjl hz.out)
      have Hsn := hide (allE_snoc n l j hjl hz.out)
      rcases fitsE_cases l[j] n with hf | hf | hf
      · have Hf := hide hf
        clear hf
        go_wp2_with (go_at_call 65; refine (fits_any _ _ _ hlv).mono ?_; rw [Hf.out]; rintro e w' ⟨rfl, rfl⟩)
        go_round
        case rel => exact ⟨j + 1, by omega, by go_num, hide (Hsn.out Hf.out)⟩
        case measure => simp [intOf]; omega
      · have Hf := hide hf
        clear hf
        go_wp2_with (go_at_call 65; refine (fits_any _ _ _ hlv).mono ?_; rw [Hf.out]; rintro e w' ⟨rfl, rfl⟩)
        go_ret2
        have e1 := (Hat.out (by rw [Hf.out]; decide)).trans Hf.out
        rw [e1, show putAllB bs l n = [] by unfold putAllB; rw [if_neg (by rw [e1]; decide)]]
        exact ⟨_, rfl, World.ownsRow_nil _ _ _ _, Below.refl _ _⟩
      · have Hf := hide hf
        clear hf
        go_wp2_with (go_at_call 65; refine (fits_any _ _ _ hlv).mono ?_; rw [Hf.out]; rintro e w' ⟨rfl, rfl⟩)
        go_ret2
        have e1 := (Hat.out (by rw [Hf.out]; decide)).trans Hf.out
        rw [e1, show putAllB bs l n = [] by unfold putAllB; rw [if_neg (by rw [e1]; decide)]]
        exact ⟨_, rfl, World.ownsRow_nil _ _ _ _, Below.refl _ _⟩
    · have hjk : j = k := by omega
      subst hjk
      have hz0 := hide (show allE n l = 0 by have := hz.out; rwa [List.take_of_length_le (by rw [Hk.out]; exact Nat.le_refl _)] at this)
      clear hz
      by_cases hk0 : j = 0
      · subst hk0
        have hl0 : l = [] := List.eq_nil_of_length_eq_zero Hk.out
        subst hl0
        go_wp2_with (go_at_call 36; refine (clone_any _ _ _ bs _ Hm.out (by omega) hA).mono ?_; rintro e w' ⟨v, rfl, ho, hb⟩)
        go_ret2
        refine ⟨_, rfl, ?_, hb⟩
        simpa [putAllB, allE, flatB, Hm.out] using ho
      · have hl0 : 0 < l.length := by rw [Hk.out]; omega
        have hf0 := fitsE_zero (allE_mem hz0.out _ (List.getElem_mem hl0))
        obtain ⟨q, rfl⟩ : ∃ q : Nat, n = q := ⟨n.toNat, by omega⟩
        have h1 := hf0.1
        have h2 := hf0.2.1
        clear hf0
        have hqj : 0 ≤ (q : Int) * j ∧ (q : Int) * j ≤ 274877906944 := by
          refine ⟨Int.mul_nonneg (by omega) (by omega), ?_⟩
          have := Int.mul_le_mul_of_nonneg_right h2 (show (0 : Int) ≤ j by omega)
          omega
        obtain ⟨hq0, hq1⟩ := hqj
        have Hqn := hide (show ((q * j : Nat) : Int) = (q : Int) * j from Int.natCast_mul _ _)
        go_wp2_with (first | (with_reducible refine stop_append rfl ?_) | (with_reducible refine stop_copy rfl ?_) | (with_reducible refine stop_make rfl ?_))
        refine go_make rfl rfl tBytes rfl rfl (n := m) (m := m + q * j) rfl (by have := Hqn.out; omega) (by omega) (by have := Hqn.out; omega) (by have := Hqn.out; omega) (Nat.le_refl _) ?_
        intro z w1 hz1 hz2 hw1 ho1 hg1
        have Hw1 := hide hw1
        clear hw1
        go_wp2_with (first | (with_reducible refine stop_append rfl ?_) | (with_reducible refine stop_copy rfl ?_) | (with_reducible refine stop_make rfl ?_))
        refine go_copy rfl rfl tBytes ho1 rfl (off := 0) (by omega) rfl (by rw [bys_length]; exact Hm.out) (hA.below (grown_below (Below.refl _ _) hg1 (Nat.le_refl _) (fun g hg => by cases hg))) (bys_one _) ?_
        intro w2 ho2 hg2
        simp only [List.take_zero, List.nil_append, Nat.min_self, Nat.zero_add] at ho2
        rw [List.take_of_length_le (by rw [bys_length, Hm.out]; exact Nat.le_refl _), List.drop_eq_nil_of_le (by rw [List.length_take]; omega), List.append_nil] at ho2
        go_wp2
        go_loopw [11, 47] (fun u i wr => ∃ j' : Nat, j' ≤ j ∧ i = .int .i64 j' ∧ Grow w2 (.slice (some ⟨w.heap.size, 0, none⟩) m (m + q * j)) w.heap.size 5 1 wr u (m + j' * q) (bys (bs ++ flatB q (l.take j')))) (fun _ i _ => j - (intOf i).toNat)
        case atStart => exact ⟨0, Nat.zero_le _, rfl, by simpa [flatB] using Grow.start ho2 (Nat.le_trans hg1.size hg2.size)⟩
        case round =>
          obtain ⟨j', hj', rfl, hG⟩ := hrel
          have hb1 : Below w.heap.size w w1 := grown_below (Below.refl _ _) hg1 (Nat.le_refl _) (fun g hg => by cases hg)
          have hb2 : Below w.heap.size w w2 := hb1.grown hg2 hg1.size (fun g hg => by injection hg with hg; omega)
          have hb3 : Below w.heap.size w wr := hG.allOf hb2 (Nat.le_trans hg1.size hg2.size) (fun g hg => by simp [Value.ownBlock] at hg; omega)
          by_cases hlt' : j' < j
          · have hjl : j' < l.length := by rw [Hk.out]; exact hlt'
            obtain ⟨b, rfl, hcell⟩ := (hB.below hb3) j' _ (u64s_get hjl)
            have hlv := hl _ (List.getElem_mem hjl)
            have hmj : j' * q ≤ 274877906944 := by
              have : j' * q ≤ j' * 8 := Nat.mul_le_mul_left _ (by omega)
              omega
            go_wp2_with fail
            refine (appendNumber_any w.heap.size _ (m + j' * q) _ l[j'] q _ hG.owns hlv (by omega) (by omega) hG.le).mono ?_
            rintro e w3 ⟨v3, rfl, hG3⟩
            go_wp2
            go_roundw
            case rel =>
              refine ⟨j' + 1, by omega, by go_num, ?_⟩
              have := hG.trans hG3
              rw [← bys_append, List.append_assoc, ← flatB_snoc q l j' hjl] at this
              rw [Nat.succ_mul, ← Nat.add_assoc]
              exact this
            case measure => simp [intOf]; omega
          · have : j' = j := by omega
            subst this
            go_wp2
            go_ret2
            rw [hz0.out]
            refine ⟨_, rfl, ?_, hb3⟩
            have he : putAllB bs l (q : Int) = bs ++ flatB q l := by unfold putAllB; rw [if_pos hz0.out, Int.toNat_natCast]
            have ho := hG.owns
            rw [List.take_of_length_le (by rw [Hk.out]; exact Nat.le_refl _)] at ho
            rw [he, List.length_append, Hm.out, flatB_length, Hk.out]
            exact ho
end Go.Proofs.YtoaodmidegkolaaGreatDoor
namespace Go.Proofs.YtoaodmidegkolaaGreatDoor
set_option maxRecDepth 20000
open Go.RowKit Go.Px
set_option linter.unusedVariables false

theorem put_any (A : Option Addr) (m c : Nat) (bs : List UInt8) (v : Nat) (n : Int) (w : World)
    (hm : bs.length = m) (hm8 : m ≤ 549755813888) (hA : Rd w A (bys bs)) (hv : v < 18446744073709551616) :
    Calls Tryz.prog 34 #[.slice A m c, .int .u64 v, .int .i64 n] w fun e w' => ∃ u, e = .returned (.tuple #[u, .int .i64 (fitsE v n)]) ∧ w'.ownsRow w.heap.size 5 1 u (putB bs v n).length (bys (putB bs v n)) ∧ Below w.heap.size w w' := by
  go_enter Tryz.func34, Tryz.ntmps34
  go_wp2_with fail
  refine (putAll_any _ _ _ bs n _ 1 1 [v] _ hm hm8 (hA.alloc _) rfl (by omega) (Rd.new1 _ _ _) (by simpa using hv)).mono ?_
  rintro e w' ⟨u, rfl, ho, hb⟩
  rw [(putAll_one bs v n).2]
  rw [(putAll_one bs v n).1] at ho
  go_wp2
  go_ret2
  refine ⟨_, rfl, own_weak ho (by simp), ?_⟩
  exact ((Below.refl _ _).alloc (Nat.le_refl _) _).trans (hb.mono (by simp))

end Go.Proofs.YtoaodmidegkolaaGreatDoor
namespace Go.Proofs.YtoaodmidegkolaaGreatDoor
set_option maxRecDepth 20000
open Go.RowKit Go.Px
set_option linter.unusedVariables false

theorem div_pow_succ (v j : Nat) : v / 256 ^ j / 256 = v / 256 ^ (j + 1) := by rw [Nat.div_div_eq_div_mul, Nat.pow_succ]
theorem rfits_any (v k : Nat) (w : World) (hv : v < 18446744073709551616) (hk : k ≤ 8) :
    Calls Tryz.prog 74 #[.int .u64 v, .int .i64 k] w fun e w' => e = .returned (.bool (decide (v < 256 ^ k))) ∧ w = w' := by
  go_enter Tryz.func74, Tryz.ntmps74
  go_wp2
  go_loop [0, 5] (fun u i => ∃ j : Nat, j ≤ k ∧ i = .int .i64 j ∧ u = .int .u64 ((v / 256 ^ j : Nat) : Int)) (fun _ i => k - (intOf i).toNat)
  case atStart => exact ⟨0, Nat.zero_le _, rfl, by simp⟩
  case round =>
    obtain ⟨j, hj, rfl, rfl⟩ := hrel
    have hle : v / 256 ^ j ≤ v := Nat.div_le_self _ _
    have Hs := hide (div_pow_succ v j)
    obtain ⟨q, hq⟩ : ∃ q, v / 256 ^ j = q := ⟨_, rfl⟩
    rw [hq] at hle ⊢
    have Hq := hide hq
    clear hq
    by_cases hlt : j < k
    · go_wp2
      go_round
      case rel =>
        refine ⟨j + 1, by omega, by go_num, ?_⟩
        rw [← Hs.out, Hq.out]; simp
      case measure => simp [intOf]; omega
    · go_wp2
      go_ret
      have : j = k := by omega
      subst this
      refine ⟨?_, rfl⟩
      have h3 : 0 < 256 ^ j := Nat.pow_pos (by decide)
      have : ((q : Int) == 0) = decide (v < 256 ^ j) := by
        rw [← Hq.out, Bool.eq_iff_iff]
        simp only [beq_iff_eq, Int.natCast_eq_zero, Nat.div_eq_zero_iff, decide_eq_true_eq]
        omega
      simp [this]

set_option maxHeartbeats 400000 in
theorem rput_any (A : Option Addr) (m c : Nat) (bs : List UInt8) (v : Nat) (n : Int) (w : World)
    (hm : bs.length = m) (hm8 : m ≤ 549755813888) (hA : Rd w A (bys bs)) (hv : v < 18446744073709551616) :
    Calls Tryz.prog 75 #[.slice A m c, .int .u64 v, .int .i64 n] w fun e w' => ∃ u, e = .returned (.tuple #[u, .int .i64 (fitsE v n)]) ∧ w'.ownsRow w.heap.size 5 1 u (putB bs v n).length (bys (putB bs v n)) ∧ Below w.heap.size w w' := by
  have Hm := hide hm
  clear hm
  by_cases hs : 1 ≤ n ∧ n ≤ 8
  · obtain ⟨h1, h2⟩ := hs
    obtain ⟨k, rfl⟩ : ∃ k : Nat, n = k := ⟨n.toNat, by omega⟩
    by_cases hf : v < 256 ^ k
    · have HF := hide (show fitsE v k = 0 by unfold fitsE; rw [if_pos ⟨h1, h2⟩, Int.toNat_natCast, if_pos hf])
      have HP := hide (show putB bs v k = bs ++ leB k v by unfold putB; rw [if_pos HF.out, Int.toNat_natCast])
      have Hd := hide (show decide (v < 256 ^ k) = true by simpa using hf)
      clear hf
      go_enter Tryz.func75, Tryz.ntmps75
      go_wp2_with fail
      refine (rfits_any v k _ hv (by omega)).mono ?_
      rw [Hd.out]
      rintro e w' ⟨rfl, rfl⟩
      go_wp2_with (first | (with_reducible refine stop_append rfl ?_) | (with_reducible refine stop_copy rfl ?_) | (with_reducible refine stop_make rfl ?_))
      refine (Grow.empty w _ _).append rfl rfl tBytes rfl rfl (by rw [bys_length, Hm.out]; omega) (hA.alloc _) (bys_one _) (by omega) (by omega) ?_
      intro v1 w1 hG1 _
      go_wp2
      go_loopw [1, 8, 9] (fun x u i wr => ∃ j : Nat, j ≤ k ∧ i = .int .i64 j ∧ x = .int .u64 ((v / 256 ^ j : Nat) : Int) ∧ Grow (w.alloc (.cells #[] 5)) (.slice (some ⟨w.heap.size, 0, none⟩) 0 0) w.heap.size 5 1 wr u (m + j) (bys (bs ++ leB j v))) (fun _ _ i _ => k - (intOf i).toNat)
      case atStart => exact ⟨0, Nat.zero_le _, rfl, by simp, by simpa [leB] using hG1⟩
      case round =>
        obtain ⟨j, hj, rfl, rfl, hG⟩ := hrel
        have hle : v / 256 ^ j ≤ v := Nat.div_le_self _ _
        have Hs := hide (div_pow_succ v j)
        have Hb := hide (leB_snoc j v)
        obtain ⟨q, hq⟩ : ∃ q, v / 256 ^ j = q := ⟨_, rfl⟩
        rw [hq] at hle ⊢
        have Hq := hide hq
        clear hq
        by_cases hlt : j < k
        · go_wp2_with (first | (with_reducible refine stop_append rfl ?_) | (with_reducible refine stop_copy rfl ?_) | (with_reducible refine stop_make rfl ?_))
          refine hG.push rfl rfl rfl tBytes rfl rfl rfl (by omega) (by omega) ?_
          intro u' w2 hG2 _
          go_wp2
          go_roundw
          case rel =>
            refine ⟨j + 1, by omega, by go_num, ?_, ?_⟩
            · rw [← Hs.out, Hq.out]; simp
            · rw [Hb.out, ← List.append_assoc, bys_append, Hq.out]
              have e : (q : Int) % 256 = ((UInt8.ofNat (q % 256)).toNat : Int) := by rw [toNat_ofNat_mod]; simp
              rw [e] at hG2
              exact hG2
          case measure => simp [intOf]; omega
        · have : j = k := by omega
          subst this
          go_wp2
          go_ret2
          rw [HF.out, HP.out, List.length_append, leB_length, Hm.out]
          exact ⟨_, rfl, hG.owns, hG.emptyAll⟩
    · have HF := hide (show fitsE v k = 5 by unfold fitsE; rw [if_pos ⟨h1, h2⟩, Int.toNat_natCast, if_neg hf])
      have HP := hide (show putB bs v k = [] by unfold putB; rw [if_neg (by rw [HF.out]; decide)])
      have Hd := hide (show decide (v < 256 ^ k) = false by simpa using hf)
      clear hf
      go_enter Tryz.func75, Tryz.ntmps75
      go_wp2_with fail
      refine (rfits_any v k _ hv (by omega)).mono ?_
      rw [Hd.out]
      rintro e w' ⟨rfl, rfl⟩
      go_wp2
      go_ret2
      rw [HF.out, HP.out]
      exact ⟨_, rfl, World.ownsRow_nil _ _ _ _, Below.refl _ _⟩
  · have HF := hide (show fitsE v n = 1 by unfold fitsE; rw [if_neg hs])
    have HP := hide (show putB bs v n = [] by unfold putB; rw [if_neg (by rw [HF.out]; decide)])
    by_cases h1 : 1 ≤ n
    · have h2 : 8 < n := by omega
      clear hs
      go_enter Tryz.func75, Tryz.ntmps75
      go_wp2
      go_ret2
      rw [HF.out, HP.out]
      exact ⟨_, rfl, World.ownsRow_nil _ _ _ _, Below.refl _ _⟩
    · clear hs
      go_enter Tryz.func75, Tryz.ntmps75
      go_wp2
      go_ret2
      rw [HF.out, HP.out]
      exact ⟨_, rfl, World.ownsRow_nil _ _ _ _, Below.refl _ _⟩

set_option maxHeartbeats 800000 in
theorem rget_any (A : Option Addr) (m c : Nat) (bs : List UInt8) (i n : Int) (w : World) (hm : bs.length = m) (hmc : m ≤ c) (hc63 : c ≤ 9223372036854775807) (hr : Rd w A (bys bs)) (hi : -9223372036854775808 ≤ i) (hi2 : i ≤ 9223372036854775807) :
    Calls Tryz.prog 92 #[.slice A m c, .int .i64 i, .int .i64 n] w fun e w' => e = .returned (.tuple #[.int .u64 (getV bs i n), .int .i64 (getI bs i n), .int .i64 (getE bs i n)]) ∧ w = w' := by
  by_cases h1 : 1 ≤ n
  · by_cases h2 : n ≤ 8
    · by_cases h0 : 0 ≤ i
      · by_cases h3 : i ≤ m
        · by_cases h4 : m - i < n
          · have He := hide (show getE bs i n = 10 by unfold getE; rw [if_pos ⟨h1, h2⟩, if_pos ⟨h0, by omega⟩, if_pos (by omega)])
            clear hm
            go_enter Tryz.func92, Tryz.ntmps92
            go_wp2
            go_ret3
            exact ⟨by simp [getV, getI, He.out], rfl⟩
          · have He := hide (show getE bs i n = 0 by unfold getE; rw [if_pos ⟨h1, h2⟩, if_pos ⟨h0, by omega⟩, if_neg (by omega)])
            obtain ⟨k, rfl⟩ : ∃ k : Nat, n = k := ⟨n.toNat, by omega⟩
            obtain ⟨p, rfl⟩ : ∃ p : Nat, i = p := ⟨i.toNat, by omega⟩
            have Hm := hide hm
            have Hl := hide (show ((bs.drop p).take k).length = k by rw [List.length_take, List.length_drop]; omega)
            clear hm
            go_enter Tryz.func92, Tryz.ntmps92
            go_wp2
            go_loop [9, 10] (fun u x => ∃ j : Nat, j ≤ k ∧ x = .int .i64 ((j : Int) - 1) ∧ u = .int .u64 ((numN (((bs.drop p).take k).drop j) : Nat) : Int)) (fun _ x => (intOf x + 1).toNat)
            case atStart => exact ⟨k, Nat.le_refl _, rfl, by rw [List.drop_eq_nil_of_le (by rw [Hl.out]; exact Nat.le_refl _)]; rfl⟩
            case round =>
              obtain ⟨j, hj, rfl, rfl⟩ := hrel
              rcases j with _ | t
              · rw [show (((0 : Nat) : Int) - 1) = -1 from rfl]
                go_wp2
                go_ret3
                exact ⟨by simp [getV, getI, He.out], rfl⟩
              · rw [show (((t + 1 : Nat) : Int) - 1) = t from by omega]
                have htl : t < ((bs.drop p).take k).length := by rw [Hl.out]; omega
                have hpt : p + t < bs.length := by rw [Hm.out]; omega
                have Hn := hide (numN_drop _ t htl)
                have hq := numN_drop_lt ((bs.drop p).take k) t (by rw [Hl.out]; omega)
                obtain ⟨q, hqq⟩ : ∃ q, numN (((bs.drop p).take k).drop (t + 1)) = q := ⟨_, rfl⟩
                rw [hqq] at hq ⊢
                have Hq := hide hqq
                clear hqq
                obtain ⟨a, rfl, hc⟩ := hr _ _ (bys_get hpt)
                have hb := (bs[p + t]).toNat_lt
                go_wp2
                go_round
                case rel =>
                  refine ⟨t, by omega, by simp, ?_⟩
                  rw [Hn.out, Hq.out]
                  simp only [List.getElem_take, List.getElem_drop]
                  simp
                case measure => simp [intOf]
        · have He := hide (show getE bs i n = 5 by unfold getE; rw [if_pos ⟨h1, h2⟩, if_neg (by omega)])
          clear hm
          go_enter Tryz.func92, Tryz.ntmps92
          go_wp2
          go_ret3
          exact ⟨by simp [getV, getI, He.out], rfl⟩
      · have He := hide (show getE bs i n = 5 by unfold getE; rw [if_pos ⟨h1, h2⟩, if_neg (by omega)])
        clear hm
        go_enter Tryz.func92, Tryz.ntmps92
        go_wp2
        go_ret3
        exact ⟨by simp [getV, getI, He.out], rfl⟩
    · have He := hide (show getE bs i n = 1 by unfold getE; rw [if_neg (by omega)])
      clear hm
      go_enter Tryz.func92, Tryz.ntmps92
      go_wp2
      go_ret3
      exact ⟨by simp [getV, getI, He.out], rfl⟩
  · have He := hide (show getE bs i n = 1 by unfold getE; rw [if_neg (by omega)])
    clear hm
    go_enter Tryz.func92, Tryz.ntmps92
    go_wp2
    go_ret3
    exact ⟨by simp [getV, getI, He.out], rfl⟩

set_option maxHeartbeats 400000 in
theorem rputText_any (A : Option Addr) (m c : Nat) (bs : List UInt8) (B : Option Addr) (k d : Nat) (s : List UInt8) (w : World)
    (hm : bs.length = m) (hm8 : m ≤ 549755813888) (hA : Rd w A (bys bs)) (hk : s.length = k) (hB : Rd w B (bys s)) :
    Calls Tryz.prog 76 #[.slice A m c, .slice B k d] w fun e w' => ∃ u, e = .returned (.tuple #[u, .int .i64 (putTextE s)]) ∧ w'.ownsRow w.heap.size 5 1 u (putTextB bs s).length (bys (putTextB bs s)) ∧ Below w.heap.size w w' := by
  have Hm := hide hm
  have Hk := hide hk
  clear hm hk
  by_cases hl : k ≤ 16777216
  · have HP := hide (show putB bs k 4 = bs ++ leB 4 k by
      unfold putB; rw [if_pos]; · rfl
      unfold fitsE; rw [if_pos (by decide), if_pos (by show k < 256 ^ 4; omega)])
    have HE := hide (show putTextE s = 0 by unfold putTextE; rw [if_pos (by rw [Hk.out]; exact hl)])
    have HT := hide (show putTextB bs s = (bs ++ leB 4 k) ++ s by unfold putTextB; rw [if_pos (by rw [Hk.out]; exact hl), textB, Hk.out, List.append_assoc])
    go_enter Tryz.func76, Tryz.ntmps76
    go_wp2_with fail
    refine (rput_any _ _ _ bs k 4 _ Hm.out hm8 hA (by omega)).mono ?_
    rw [HP.out]
    rintro e w1 ⟨u1, rfl, ho1, hb1⟩
    rw [List.length_append, leB_length, Hm.out] at ho1
    go_wp2_with (first | (with_reducible refine stop_append rfl ?_) | (with_reducible refine stop_copy rfl ?_) | (with_reducible refine stop_make rfl ?_))
    refine (Grow.start ho1 hb1.size).append rfl rfl tBytes rfl rfl (by rw [bys_length, Hk.out]; omega) (hB.below hb1) (bys_one _) (by omega) (by omega) ?_
    intro v2 w2 hG _
    go_wp2
    go_ret2
    rw [HE.out, HT.out]
    refine ⟨_, rfl, ?_, hG.allOf hb1 hb1.size (fun g hg => (ho1.lt g hg).1)⟩
    have := hG.owns
    rw [← bys_append] at this
    rw [List.length_append, List.length_append, leB_length, Hm.out, Hk.out]
    exact this
  · go_enter Tryz.func76, Tryz.ntmps76
    go_wp2
    go_ret2
    rw [show putTextE s = 2 by unfold putTextE; rw [if_neg (by rw [Hk.out]; exact hl)], show putTextB bs s = [] by unfold putTextB; rw [if_neg (by rw [Hk.out]; exact hl)]]
    exact ⟨_, rfl, World.ownsRow_nil _ _ _ _, Below.refl _ _⟩

end Go.Proofs.YtoaodmidegkolaaGreatDoor
namespace Go.Proofs.YtoaodmidegkolaaGreatDoor
set_option maxRecDepth 20000
open Go.RowKit Go.Px
set_option linter.unusedVariables false

def tabV : List Value := tabN.map fun v : Nat => Value.int .u32 (v : Int)
/-- The package's table holds what its text lays. -/
def Tab (w : World) : Prop := Rd w (some ⟨0, 0, none⟩) tabV
theorem Tab.at_ {w : World} (h : Tab w) {r : Nat} (hr : r < 16) : w.cell? ⟨0, r, none⟩ = some (.int .u32 ((stp4 r : Nat) : Int)) := by
  have h1 : tabV[r]? = some (.int .u32 ((stp4 r : Nat) : Int)) := by simp [tabV, tab_stp4 r hr]
  have := Rd.at_ h h1
  unfold Addr.add at this
  split at this
  · rename_i h0; subst h0; exact this
  · simpa using this

theorem nib_facts {w : World} (ht : Tab w) (c : Nat) (hc : c < 4294967296) : ∃ r t d : Nat, bits .and .u32 (c : Int) 15 = (r : Int) ∧ r < 16 ∧ w.cell? ⟨0, r, none⟩ = some (.int .u32 (t : Int)) ∧
    bits .xor .u32 (t : Int) ((c : Int) / 16) = (d : Int) ∧ d < 4294967296 ∧ Hid (stp4 c = d) := by
  refine ⟨c % 16, stp4 (c % 16), stp4 c, ?_, Nat.mod_lt _ (by decide), ht.at_ (Nat.mod_lt _ (by decide)), ?_, stp4_lt hc, rfl⟩
  · rw [show (15 : Int) = ((15 : Nat) : Int) from rfl, u32_and_nat _ _ hc (by decide)]
    congr 1
    exact Nat.and_two_pow_sub_one_eq_mod c 4
  · rw [show (c : Int) / 16 = ((c / 16 : Nat) : Int) from by rw [Int.natCast_ediv]; rfl, u32_xor_nat _ _ (stp4_lt (by omega)) (by omega), nib_step]

set_option maxHeartbeats 1000000 in
theorem more_any (s : Nat) (A : Option Addr) (n c : Nat) (bs : List UInt8) (w : World) (hs : s < 4294967296) (hn : bs.length = n) (hn8 : n ≤ 1099511627776) (hr : Rd w A (bys bs)) (ht : Tab w) :
    Calls Tryz.prog 67 #[.int .u32 s, .slice A n c] w fun e w' => e = .returned (.int .u32 (moreN s bs)) ∧ w = w' := by
  have Hn := hide hn
  clear hn
  go_enter Tryz.func67, Tryz.ntmps67
  have hx : bits .xor .u32 4294967295 (s : Int) = ((4294967295 - s : Nat) : Int) := by
    rw [show (4294967295 : Int) = ((4294967295 : Nat) : Int) from rfl, u32_xor_nat _ _ (by decide) hs, Nat.xor_comm, not_u32 s hs]
  go_wp2
  go_loop [5, 12] (fun u i => ∃ k : Nat, k ≤ n ∧ i = .int .i64 k ∧ u = .int .u32 ((rawN (4294967295 - s) (bs.take k) : Nat) : Int)) (fun _ i => n - (intOf i).toNat)
  case atStart => exact ⟨0, Nat.zero_le _, rfl, by simp [rawN]⟩
  case round =>
    obtain ⟨k, hk, rfl, rfl⟩ := hrel
    clear hx
    have hq := rawN_lt (bs.take k) (4294967295 - s) (by omega)
    by_cases hlt : k < n
    · have hkb : k < bs.length := by rw [Hn.out]; exact hlt
      have HS := hide (show rawN (4294967295 - s) (bs.take (k + 1)) = stp4 (stp4 (rawN (4294967295 - s) (bs.take k) ^^^ (bs[k]).toNat)) by
        rw [List.take_succ_eq_append_getElem hkb, rawN_append]; rfl)
      obtain ⟨a, rfl, hc⟩ := hr k _ (bys_get hkb)
      obtain ⟨b, hb⟩ : ∃ b, (bs[k]).toNat = b := ⟨_, rfl⟩
      have hb8 : b < 256 := by rw [← hb]; exact (bs[k]).toNat_lt
      rw [hb] at hc HS
      clear hb
      obtain ⟨q, hqq⟩ : ∃ q, rawN (4294967295 - s) (bs.take k) = q := ⟨_, rfl⟩
      rw [hqq] at hq HS ⊢
      clear hqq
      have e0 : IntKind.u32.wrap (b : Int) = b := IntWalk.u32_in _ (by omega)
      have e1 := u32_xor_nat q b hq (by omega)
      have hc1 : q ^^^ b < 4294967296 := xor_lt hq (by omega)
      obtain ⟨c1, hcc1⟩ : ∃ x, q ^^^ b = x := ⟨_, rfl⟩
      rw [hcc1] at e1 hc1 HS
      clear hcc1
      obtain ⟨r1, t1, c2, e2, hr1, g1, e3, hc2, S1⟩ := nib_facts ht c1 hc1
      obtain ⟨r2, t2, c3, e4, hr2, g2, e5, hc3, S2⟩ := nib_facts ht c2 hc2
      go_wp2
      go_round
      case rel => exact ⟨k + 1, by omega, by go_num, by rw [HS.out, S1.out, S2.out]⟩
      case measure => simp [intOf]; omega
    · have hx : bits .xor .u32 4294967295 ((rawN (4294967295 - s) (bs.take k) : Nat) : Int) = ((4294967295 - rawN (4294967295 - s) (bs.take k) : Nat) : Int) := by
        rw [show (4294967295 : Int) = ((4294967295 : Nat) : Int) from rfl, u32_xor_nat _ _ (by decide) hq, Nat.xor_comm, not_u32 _ hq]
      go_wp2
      go_ret
      have : k = n := by omega
      subst this
      exact ⟨by rw [List.take_of_length_le (by rw [Hn.out]; exact Nat.le_refl _)]; rfl, rfl⟩

theorem rstep_any (s : Nat) (w : World) (hs : s < 4294967296) : Calls Tryz.prog 102 #[.int .u32 s] w fun e w' => e = .returned (.int .u32 ((stp s : Nat) : Int)) ∧ w = w' := by
  by_cases h : s % 2 = 1
  · have HS := hide (show stp s = s / 2 ^^^ 2197175160 by unfold stp; rw [if_pos h])
    have e1 : bits .xor .u32 ((s : Int) / 2) 2197175160 = ((s / 2 ^^^ 2197175160 : Nat) : Int) := by
      rw [show (s : Int) / 2 = ((s / 2 : Nat) : Int) from by rw [Int.natCast_ediv]; rfl, show (2197175160 : Int) = ((2197175160 : Nat) : Int) from rfl, u32_xor_nat _ _ (by omega) (by decide)]
    have e2 : (((s : Int) % 2) == 1) = true := by rw [beq_iff_eq]; omega
    have e3 : (s : Int) % 2 = 1 := by omega
    go_enter Tryz.func102, Tryz.ntmps102
    go_wp2
    all_goals go_ret
    all_goals exact ⟨by rw [HS.out]; rfl, rfl⟩
  · have HS := hide (show stp s = s / 2 by unfold stp; rw [if_neg h])
    have e2 : (((s : Int) % 2) == 1) = false := by rw [beq_eq_false_iff_ne]; omega
    go_enter Tryz.func102, Tryz.ntmps102
    go_wp2
    all_goals go_ret
    all_goals exact ⟨by rw [HS.out, Int.natCast_ediv]; rfl, rfl⟩

def itS : Nat → Nat → Nat
  | 0, x => x
  | n + 1, x => stp (itS n x)
theorem itS_lt (n : Nat) {x : Nat} (h : x < 4294967296) : itS n x < 4294967296 := by
  induction n with
  | zero => exact h
  | succ n ih => exact stp_lt ih
theorem itS_eight (x : Nat) : itS 8 x = stp8 x := rfl

set_option maxHeartbeats 1000000 in
theorem rmore_any (s : Nat) (A : Option Addr) (n c : Nat) (bs : List UInt8) (w : World) (hs : s < 4294967296) (hn : bs.length = n) (hn8 : n ≤ 1099511627776) (hr : Rd w A (bys bs)) :
    Calls Tryz.prog 100 #[.int .u32 s, .slice A n c] w fun e w' => e = .returned (.int .u32 (moreN s bs)) ∧ w = w' := by
  have Hn := hide hn
  clear hn
  go_enter Tryz.func100, Tryz.ntmps100
  have hx : bits .xor .u32 4294967295 (s : Int) = ((4294967295 - s : Nat) : Int) := by
    rw [show (4294967295 : Int) = ((4294967295 : Nat) : Int) from rfl, u32_xor_nat _ _ (by decide) hs, Nat.xor_comm, not_u32 s hs]
  go_wp2
  go_loop [5, 6] (fun u i => ∃ k : Nat, k ≤ n ∧ i = .int .i64 k ∧ u = .int .u32 ((rawN (4294967295 - s) (bs.take k) : Nat) : Int)) (fun _ i => n - (intOf i).toNat)
  case atStart => exact ⟨0, Nat.zero_le _, rfl, by simp [rawN]⟩
  case round =>
    obtain ⟨k, hk, rfl, rfl⟩ := hrel
    clear hx
    have hq := rawN_lt (bs.take k) (4294967295 - s) (by omega)
    by_cases hlt : k < n
    · have hkb : k < bs.length := by rw [Hn.out]; exact hlt
      have HS := hide (show rawN (4294967295 - s) (bs.take (k + 1)) = stp8 (rawN (4294967295 - s) (bs.take k) ^^^ (bs[k]).toNat) by
        rw [List.take_succ_eq_append_getElem hkb, rawN_append]; rfl)
      obtain ⟨a, rfl, hc⟩ := hr k _ (bys_get hkb)
      obtain ⟨b, hb⟩ : ∃ b, (bs[k]).toNat = b := ⟨_, rfl⟩
      have hb8 : b < 256 := by rw [← hb]; exact (bs[k]).toNat_lt
      rw [hb] at hc HS
      clear hb
      obtain ⟨q, hqq⟩ : ∃ q, rawN (4294967295 - s) (bs.take k) = q := ⟨_, rfl⟩
      rw [hqq] at hq HS ⊢
      clear hqq
      have e0 : IntKind.u32.wrap (b : Int) = b := IntWalk.u32_in _ (by omega)
      have e1 := u32_xor_nat q b hq (by omega)
      have hc1 : q ^^^ b < 4294967296 := xor_lt hq (by omega)
      obtain ⟨c1, hcc1⟩ : ∃ x, q ^^^ b = x := ⟨_, rfl⟩
      rw [hcc1] at e1 hc1 HS
      clear hcc1
      go_wp2
      go_loop [5, 7] (fun u i => ∃ j : Nat, j ≤ 8 ∧ i = .int .i64 j ∧ u = .int .u32 ((itS j c1 : Nat) : Int)) (fun _ i => 8 - (intOf i).toNat)
      case atStart => exact ⟨0, Nat.zero_le _, rfl, rfl⟩
      case round =>
        obtain ⟨j, hj, rfl, rfl⟩ := hrel
        have hj2 := itS_lt j hc1
        by_cases hlt' : j < 8
        · go_wp2_with fail
          refine (rstep_any _ _ hj2).mono ?_
          rintro e w' ⟨rfl, rfl⟩
          go_wp2
          go_round
          case rel => exact ⟨j + 1, by omega, by go_num, rfl⟩
          case measure => simp [intOf]; omega
        · have : j = 8 := by omega
          subst this
          rw [itS_eight]
          go_wp2
          go_round
          case rel => exact ⟨k + 1, by omega, by go_num, by rw [HS.out]⟩
          case measure => simp [intOf]; omega
    · have hx : bits .xor .u32 4294967295 ((rawN (4294967295 - s) (bs.take k) : Nat) : Int) = ((4294967295 - rawN (4294967295 - s) (bs.take k) : Nat) : Int) := by
        rw [show (4294967295 : Int) = ((4294967295 : Nat) : Int) from rfl, u32_xor_nat _ _ (by decide) hq, Nat.xor_comm, not_u32 _ hq]
      go_wp2
      go_ret
      have : k = n := by omega
      subst this
      exact ⟨by rw [List.take_of_length_le (by rw [Hn.out]; exact Nat.le_refl _)]; rfl, rfl⟩
end Go.Proofs.YtoaodmidegkolaaGreatDoor
namespace Go.Proofs.YtoaodmidegkolaaGreatDoor
set_option maxRecDepth 20000
open Go.RowKit Go.Px
set_option linter.unusedVariables false

theorem sumN_snoc (l : List (List UInt8)) (k : Nat) (h : k < l.length) : sumN (l.take (k + 1)) = moreN (sumN (l.take k)) l[k] := by
  rw [List.take_succ_eq_append_getElem h, sumN, List.foldl_append]; rfl
theorem sumN_lt (l : List (List UInt8)) : sumN l < 4294967296 := by
  unfold sumN
  rw [sumN_flat l 0 (by decide)]; exact moreN_lt _ _

set_option maxHeartbeats 400000 in
theorem sum_any (L : Option Addr) (k d : Nat) (vs : List Value) (bss : List (List UInt8)) (w : World) (hk : bss.length = k) (hk8 : k ≤ 1099511627776) (hL : Rd w L vs) (hv : BRows w vs bss) (ht : Tab w) :
    Calls Tryz.prog 53 #[.slice L k d] w fun e w' => e = .returned (.int .u32 ((sumN bss : Nat) : Int)) ∧ w = w' := by
  have Hk := hide hk
  clear hk
  go_enter Tryz.func53, Tryz.ntmps53
  go_wp2_with fail
  go_loop [3, 8] (fun u i => ∃ j : Nat, j ≤ k ∧ i = .int .i64 j ∧ u = .int .u32 ((sumN (bss.take j) : Nat) : Int)) (fun _ i => k - (intOf i).toNat)
  case atStart => exact ⟨0, Nat.zero_le _, rfl, by simp [sumN]⟩
  case round =>
    obtain ⟨j, hj, rfl, rfl⟩ := hrel
    have hq := sumN_lt (bss.take j)
    by_cases hlt : j < k
    · have hjl : j < bss.length := by rw [Hk.out]; exact hlt
      have HS := hide (sumN_snoc bss j hjl)
      obtain ⟨A, n, c, h1, h2, h3, h4, h5, h6⟩ := hv.get hjl
      obtain ⟨a, rfl, hc⟩ := hL j _ h1
      have H2 := hide h2
      clear h1 h2
      go_wp2_with fail
      refine (more_any _ _ _ _ bss[j] _ hq H2.out h4 h6 ht).mono ?_
      rw [← HS.out]
      rintro e w' ⟨rfl, rfl⟩
      go_wp2
      go_round
      case rel => exact ⟨j + 1, by omega, by go_num, rfl⟩
      case measure => simp [intOf]; omega
    · go_wp2
      go_ret
      have : j = k := by omega
      subst this
      exact ⟨by rw [List.take_of_length_le (by rw [Hk.out]; exact Nat.le_refl _)]; rfl, rfl⟩

theorem rof_any (A : Option Addr) (n c : Nat) (bs : List UInt8) (w : World) (hn : bs.length = n) (hn8 : n ≤ 1099511627776) (hr : Rd w A (bys bs)) : Calls Tryz.prog 91 #[.slice A n c] w fun e w' => e = .returned (.int .u32 ((moreN 0 bs : Nat) : Int)) ∧ w = w' := by
  have Hn := hide hn
  clear hn
  go_enter Tryz.func91, Tryz.ntmps91
  go_wp2_with fail
  refine (rmore_any 0 _ _ _ bs _ (by decide) Hn.out hn8 hr).mono ?_
  rintro e w' ⟨rfl, rfl⟩
  go_wp2
  go_ret
  exact ⟨rfl, rfl⟩

end Go.Proofs.YtoaodmidegkolaaGreatDoor
namespace Go.Proofs.YtoaodmidegkolaaGreatDoor
set_option maxRecDepth 20000
open Go.RowKit Go.Px
set_option linter.unusedVariables false

theorem leB4 (s : Nat) (hs : s < 4294967296) : bys (leB 4 s) = [.int .u8 ((s : Int) % 256), .int .u8 ((s : Int) / 256 % 256), .int .u8 ((s : Int) / 65536 % 256), .int .u8 ((s : Int) / 16777216)] := by
  have e1 : s / 256 / 256 = s / 65536 := by omega
  have e2 : s / 65536 / 256 = s / 16777216 := by omega
  have e3 : s / 16777216 % 256 = s / 16777216 := by omega
  simp only [leB, bys, List.map_cons, List.map_nil, toNat_ofNat_mod, e1, e2, e3]
  simp
  omega

theorem conv_app (bs : List UInt8) (s : Nat) (hs : s < 4294967296) : bys (bs ++ leB 4 s) = bys bs ++ [.int .u8 ((s : Int) % 256), .int .u8 ((s : Int) / 256 % 256), .int .u8 ((s : Int) / 65536 % 256), .int .u8 ((s : Int) / 16777216)] := by rw [bys_append, leB4 s hs]

set_option maxHeartbeats 800000 in
theorem rseal_any (A : Option Addr) (m c : Nat) (bs : List UInt8) (w : World) (hm : bs.length = m) (hm8 : m ≤ 549755813888) (hr : Rd w A (bys bs)) :
    Calls Tryz.prog 77 #[.slice A m c] w fun e w' => ∃ v, e = .returned v ∧ w'.ownsRow w.heap.size 5 1 v (m + 4) (bys (bs ++ leB 4 (moreN 0 bs))) ∧ Below w.heap.size w w' := by
  have Hm := hide hm
  clear hm
  have hq := moreN_lt 0 bs
  have HC := hide (conv_app bs _ hq)
  go_enter Tryz.func77, Tryz.ntmps77
  go_wp2_with fail
  refine (rof_any _ _ _ bs _ Hm.out (by omega) hr).mono ?_
  rintro e w1 ⟨rfl, rfl⟩
  obtain ⟨s, hs⟩ : ∃ s, moreN 0 bs = s := ⟨_, rfl⟩
  rw [hs] at hq HC ⊢
  have Hs := hide hs
  clear hs
  go_wp2_with (first | (with_reducible refine stop_append rfl ?_) | (with_reducible refine stop_copy rfl ?_) | (with_reducible refine stop_make rfl ?_))
  refine (Grow.empty w _ _).append rfl rfl tBytes rfl rfl (by rw [bys_length, Hm.out]; omega) (hr.alloc _) (bys_one _) (by omega) (by omega) ?_
  intro v1 w1 hG1 _
  go_wp2_with (first | (with_reducible refine stop_append rfl ?_) | (with_reducible refine stop_copy rfl ?_) | (with_reducible refine stop_make rfl ?_))
  refine (hG1.alloc _).append rfl rfl tBytes rfl rfl (m := 4) (news := [.int .u8 ((s : Int) % 256), .int .u8 ((s : Int) / 256 % 256), .int .u8 ((s : Int) / 65536 % 256), .int .u8 ((s : Int) / 16777216)]) rfl (Rd.newG rfl) (fun u hu => by simp at hu; rcases hu with h | h | h | h <;> subst h <;> rfl) (by omega) (by omega) ?_
  intro v5 w5 hG5 _
  go_wp2
  go_ret
  refine ⟨_, rfl, ?_, hG5.emptyAll⟩
  have := hG5.owns
  rw [Hs.out, HC.out]
  rw [Nat.zero_add] at this
  exact this

/-- What Open tells: the error, and the row. -/
def openE (bs : List UInt8) : Int := if bs.length < 4 then 10 else if numN (bs.drop (bs.length - 4)) = moreN 0 (bs.take (bs.length - 4)) then 0 else 31
def openB (bs : List UInt8) : List UInt8 := if openE bs = 0 then bs.take (bs.length - 4) else []

end Go.Proofs.YtoaodmidegkolaaGreatDoor
namespace Go.Proofs.YtoaodmidegkolaaGreatDoor
set_option maxRecDepth 20000
open Go.RowKit Go.Px
set_option linter.unusedVariables false

theorem seal_eq (bs : List UInt8) (h4 : 4 ≤ bs.length) : (bs.take (bs.length - 4) ++ leB 4 (moreN 0 (bs.take (bs.length - 4))) = bs) ↔ numN (bs.drop (bs.length - 4)) = moreN 0 (bs.take (bs.length - 4)) := by
  have hl : (bs.drop (bs.length - 4)).length = 4 := by rw [List.length_drop]; omega
  have hb := List.take_append_drop (bs.length - 4) bs
  constructor
  · intro h
    have : leB 4 (moreN 0 (bs.take (bs.length - 4))) = bs.drop (bs.length - 4) := by
      conv at h => rhs; rw [← hb]
      exact List.append_cancel_left h
    rw [← this]; exact numN_leB 4 _ (moreN_lt _ _)
  · intro h
    have h2 := leB_numN (bs.drop (bs.length - 4))
    rw [hl] at h2
    rw [← h, h2]; exact hb

set_option maxHeartbeats 800000 in
theorem ropen_any (A : Option Addr) (m c : Nat) (bs : List UInt8) (w : World) (hm : bs.length = m) (hm8 : m ≤ 549755813888) (hmc : m ≤ c) (hc : c ≤ 9223372036854775807) (hr : Rd w A (bys bs)) :
    Calls Tryz.prog 93 #[.slice A m c] w fun e w' => ∃ v, e = .returned (.tuple #[v, .int .i64 (openE bs)]) ∧ w'.ownsRow w.heap.size 5 1 v (openB bs).length (bys (openB bs)) ∧ Below w.heap.size w w' := by
  have Hm := hide hm
  clear hm
  by_cases h4 : m < 4
  · have HE := hide (show openE bs = 10 by unfold openE; rw [if_pos (by rw [Hm.out]; exact h4)])
    have HB := hide (show openB bs = [] by unfold openB; rw [if_neg (by rw [HE.out]; decide)])
    go_enter Tryz.func93, Tryz.ntmps93
    go_wp2
    go_ret2
    rw [HE.out, HB.out]
    exact ⟨_, rfl, World.ownsRow_nil _ _ _ _, Below.refl _ _⟩
  · obtain ⟨n, hn⟩ : ∃ n : Nat, m = n + 4 := ⟨m - 4, by omega⟩
    subst hn
    have hrp : Rd w A (bys (bs.take n)) := by rw [bys_take]; exact hr.take n
    have Hp := hide (show (bs.take n).length = n by rw [List.length_take, Hm.out]; omega)
    have HE := hide (show openE bs = if bs.take n ++ leB 4 (moreN 0 (bs.take n)) = bs then 0 else 31 by
      have := seal_eq bs (by rw [Hm.out]; omega)
      rw [Hm.out, show n + 4 - 4 = n by omega] at this
      unfold openE; rw [if_neg (by rw [Hm.out]; exact h4), Hm.out, show n + 4 - 4 = n by omega]
      by_cases hx : numN (bs.drop n) = moreN 0 (bs.take n)
      · rw [if_pos hx, if_pos (this.2 hx)]
      · rw [if_neg hx, if_neg (fun hh => hx (this.1 hh))])
    have HB := hide (show openB bs = if openE bs = 0 then bs.take n else [] by unfold openB; rw [Hm.out]; rfl)
    generalize bs.take n = pre at *
    have k0 : (0 : Int) ≤ (n : Int) := Int.natCast_nonneg _
    have k1 : (n : Int) ≤ (n : Int) + 4 := by omega
    have k2 : (n : Int) ≤ (c : Int) := by omega
    obtain ⟨sp, hsp⟩ : ∃ x, pre ++ leB 4 (moreN 0 pre) = x := ⟨_, rfl⟩
    rw [hsp] at HE
    have Hsp := hide hsp
    clear hsp
    by_cases hx : sp = bs
    rotate_left
    have q1 : (sp == bs) = false := by simpa using hx
    rotate_left
    have q1 : (sp == bs) = true := by simpa using hx
    all_goals have HX := hide hx
    all_goals clear hx
    all_goals
      go_enter Tryz.func93, Tryz.ntmps93
      go_wp2_with (first | (with_reducible refine stop_append rfl ?_) | (with_reducible refine stop_copy rfl ?_) | (with_reducible refine stop_make rfl ?_))
      refine (Grow.empty w _ _).append rfl rfl tBytes rfl rfl (by rw [bys_length, Hp.out]; omega) (hrp.alloc _) (bys_one _) (by omega) (by omega) ?_
      intro v1 w1 hG1 _
      have hb1 := hG1.emptyAll
      have ho1 := hG1.owns
      rw [Nat.zero_add, List.nil_append] at ho1
      obtain ⟨A1, c1, rfl, _, hc1, hcm1, hr1, ha1⟩ := own_out ho1
      clear hG1
      have hconv : ∀ W, Below w.heap.size w W → (convert 51 9 (.slice A (n + 4) c)).run Tryz.prog W = .ok (.string (strOf bs)) W := fun W hb => convB c Hm.out (hr.below hb)
      have hcv1 := hconv _ hb1.drew
      have Hcv := hide hconv
      clear hconv
      go_wp2
      go_region_with (first | (go_at_call 77; refine (rseal_any _ _ _ pre _ Hp.out (by omega) hr1.drew).mono ?_; rintro e w4 ⟨v4, rfl, ho4, hb4⟩; obtain ⟨A4, c4, rfl, _, hc4, hcm4, hr4, ha4⟩ := own_out ho4; have hcv2 := Hcv.out _ ((hb1.drew).trans (hb4.mono (by have := hb1.size; simpa using this))); have hcv4 := convB c4 (by rw [List.length_append, leB_length, Hp.out]) hr4; rw [Hsp.out] at hcv4))
      all_goals
        go_wp2
        go_ret2
        have hbw := (hb1.drew).trans (hb4.mono (by have := hb1.size; simpa using this))
        first
          | (have HE2 := hide (show openE bs = 0 by rw [HE.out, if_pos HX.out])
             rw [show openB bs = pre by rw [HB.out, if_pos HE2.out], HE2.out, Hp.out]
             exact ⟨_, rfl, own_below (own_below ho1 (Below.refl _ _).drew) hb4, hbw⟩)
          | (have HE2 := hide (show openE bs = 31 by rw [HE.out, if_neg HX.out])
             rw [show openB bs = [] by rw [HB.out, if_neg (by rw [HE2.out]; decide)], HE2.out]
             exact ⟨_, rfl, World.ownsRow_nil _ _ _ _, hbw⟩)
end Go.Proofs.YtoaodmidegkolaaGreatDoor
namespace Go.Proofs.YtoaodmidegkolaaGreatDoor
set_option maxRecDepth 20000
open Go.RowKit Go.Px
set_option linter.unusedVariables false

def frmH (k s : Nat) (bd : List UInt8) : List UInt8 := [80, 76, UInt8.ofNat k, 0] ++ leB 8 s ++ leB 4 bd.length ++ bd
def frmB (k s : Nat) (bd : List UInt8) : List UInt8 := frmH k s bd ++ leB 4 (moreN 0 (frmH k s bd))
theorem frmH_length (k s : Nat) (bd : List UInt8) : (frmH k s bd).length = bd.length + 16 := by simp [frmH, leB_length]; omega
theorem frmB_length (k s : Nat) (bd : List UInt8) : (frmB k s bd).length = bd.length + 20 := by rw [frmB, List.length_append, frmH_length, leB_length]
theorem three_cells {w : World} {g : Nat} {x y z : Value} (h : Rd w (some ⟨g, 0, none⟩) [x, y, z]) : w.cell? ⟨g, 0, none⟩ = some x ∧ w.cell? ⟨g, 1, none⟩ = some y ∧ w.cell? ⟨g, 2, none⟩ = some z :=
  ⟨by simpa [Addr.add] using h.at_ (j := 0) rfl, by simpa [Addr.add] using h.at_ (j := 1) rfl, by simpa [Addr.add] using h.at_ (j := 2) rfl⟩
theorem fits_zero {x k : Nat} (h1 : 1 ≤ k) (h8 : k ≤ 8) (h : x < 256 ^ k) : fitsE x (k : Int) = 0 := by
  unfold fitsE
  rw [if_pos (by omega)]
  simp [h]
theorem put_zero {x k : Nat} (h1 : 1 ≤ k) (h8 : k ≤ 8) (h : x < 256 ^ k) (bs : List UInt8) : putB bs x (k : Int) = bs ++ leB k x := by
  unfold putB
  rw [if_pos (fits_zero h1 h8 h)]; rfl

set_option maxHeartbeats 400000 in
theorem fappend_any (base : Nat) (v : Value) (n : Nat) (xs : List Value) (x k : Nat) (w : World) (hown : w.ownsRow base 5 1 v n xs) (hx : x < 18446744073709551616) (hk1 : 1 ≤ k) (hk : k ≤ 8) (hxk : x < 256 ^ k) (hn : n ≤ 1099511627776) (hb : base ≤ w.heap.size) :
    Calls Tryz.prog 52 #[v, .int .u64 x, .int .i64 k] w fun e w' => ∃ v', e = .returned v' ∧ Grow w v base 5 1 w' v' (n + k) (xs ++ bys (leB k x)) := by
  have hP := put_any none 0 0 [] x k w rfl (by omega) Rd.nil hx
  rw [fits_zero hk1 hk hxk, put_zero hk1 hk hxk, List.nil_append] at hP
  have HP := hide hP
  have Hk := hide hk
  have Hlen := hide (leB_length k x)
  clear hP
  go_enter Tryz.func52, Tryz.ntmps52
  go_wp2_with fail
  refine HP.out.mono ?_
  rintro e w1 ⟨u, rfl, ho1, hb1⟩
  obtain ⟨A1, c1, rfl, hl1, hc1, hcm1, hr1, ha1⟩ := own_out ho1
  go_wp2_with (first | (with_reducible refine stop_append rfl ?_) | (with_reducible refine stop_copy rfl ?_) | (with_reducible refine stop_make rfl ?_))
  refine (((Grow.start hown hb).below hb1)).append rfl rfl tBytes rfl rfl (by rw [bys_length]; omega) hr1 (bys_one _) (by have := Hlen.out; omega) (by have := Hlen.out; omega) ?_
  intro v2 w2 hG2 _
  go_wp2
  go_ret
  rw [Hlen.out] at hG2
  exact ⟨_, rfl, hG2⟩

set_option maxHeartbeats 1600000 in
theorem fwrite_any (k s : Nat) (A : Option Addr) (n c : Nat) (bd : List UInt8) (w : World) (hn : bd.length = n) (hn14 : n ≤ 16384) (hnc : n ≤ c) (hc : c ≤ 9223372036854775807) (hr : Rd w A (bys bd)) (hk : k < 256) (hs : s < 18446744073709551616) (ht : Tab w) :
    Calls Tryz.prog 35 #[.agg #[.int .u8 k, .int .u64 s, .slice A n c]] w fun e w' => ∃ v, e = .returned (.tuple #[v, .int .i64 0]) ∧ w'.ownsRow w.heap.size 5 1 v (n + 20) (bys (frmB k s bd)) ∧ Below w.heap.size w w' := by
  have Hn := hide hn
  clear hn
  have hF : Rd (w.alloc (.cells #[.int .u8 k, .int .u64 s, .slice A n c] 80)) (some ⟨w.heap.size, 0, none⟩) [.int .u8 k, .int .u64 s, .slice A n c] := Rd.newN _ _ _ (0, 0)
  have hb0 : Below w.heap.size w (w.alloc (.cells #[.int .u8 k, .int .u64 s, .slice A n c] 80)) := (Below.refl _ _).alloc (Nat.le_refl _) _
  obtain ⟨g, hg⟩ : ∃ g, w.heap.size = g := ⟨_, rfl⟩
  rw [hg] at hF
  have hm1 := moreN_lt 0 (frmH k s bd)
  have Hk4 := hide (show bys [80, 76, UInt8.ofNat k, 0] = [.int .u8 80, .int .u8 76, .int .u8 (k : Int), .int .u8 0] by
    simp [bys, Nat.mod_eq_of_lt hk])
  go_enter Tryz.func35, Tryz.ntmps35
  obtain ⟨w0, hw0⟩ : ∃ w0, w.alloc (.cells #[.int .u8 k, .int .u64 s, .slice A n c] 80) = w0 := ⟨_, rfl⟩
  rw [hw0] at hF hb0
  obtain ⟨hc0, hc1, hc2⟩ := three_cells hF
  have hr0 := hr.below hb0
  have ht0 : Tab w0 := Rd.below ht hb0
  rw [hg] at hb0
  go_wp2_with (first | (with_reducible refine stop_append rfl ?_) | (with_reducible refine stop_copy rfl ?_) | (with_reducible refine stop_make rfl ?_))
  refine go_make rfl rfl tBytes rfl rfl (n := 0) (m := 16 + n + 4) rfl (by omega) (by omega) (by omega) (by omega) (Nat.le_refl _) ?_
  intro z w1 _ _ hw1 ho1 hg1
  clear hw1
  have hb1 : Below w0.heap.size w0 w1 := grown_below (Below.refl _ _) hg1 (Nat.le_refl _) (fun g hg => by cases hg)
  obtain ⟨d0, d1, d2⟩ := three_cells (hF.below hb1)
  rw [Nat.zero_mul, List.take_zero] at ho1
  go_wp2_with (first | (with_reducible refine stop_append rfl ?_) | (with_reducible refine stop_copy rfl ?_) | (with_reducible refine stop_make rfl ?_))
  refine (((Grow.start ho1 hg1.size).alloc _)).append rfl rfl tBytes rfl rfl (m := 4) (news := bys [80, 76, UInt8.ofNat k, 0]) rfl ?_ (bys_one _) (by omega) (by omega) ?_
  · rw [Hk4.out]; exact Rd.newG rfl
  intro v2 w2 hG2 hs2
  have hb2 : Below w0.heap.size w0 w2 := hG2.allOf hb1 hg1.size (fun g' hg' => by simp [Value.ownBlock] at hg'; omega)
  obtain ⟨e0, e1, e2⟩ := three_cells (hF.below hb2)
  go_wp2_with fail
  refine (fappend_any _ _ _ _ s 8 _ hG2.owns hs (by omega) (by omega) (by omega) (by omega) hG2.le).mono ?_
  rintro e w3 ⟨v3, rfl, hG3⟩
  have hG3' := hG2.trans hG3
  have hb3 : Below w0.heap.size w0 w3 := hG3'.allOf hb1 hg1.size (fun g' hg' => by simp [Value.ownBlock] at hg'; omega)
  obtain ⟨f0, f1, f2⟩ := three_cells (hF.below hb3)
  go_wp2_with fail
  refine (fappend_any _ _ _ _ n 4 _ hG3'.owns (by omega) (by omega) (by omega) (by omega) (by omega) hG3'.le).mono ?_
  rintro e w4 ⟨v4, rfl, hG4⟩
  have hG4' := hG3'.trans hG4
  have hb4 : Below w0.heap.size w0 w4 := hG4'.allOf hb1 hg1.size (fun g' hg' => by simp [Value.ownBlock] at hg'; omega)
  obtain ⟨k0, k1, k2⟩ := three_cells (hF.below hb4)
  go_wp2_with (first | (with_reducible refine stop_append rfl ?_) | (with_reducible refine stop_copy rfl ?_) | (with_reducible refine stop_make rfl ?_))
  refine hG4'.append rfl rfl tBytes rfl rfl (by rw [bys_length, Hn.out]; omega) (hr0.below hb4) (bys_one _) (by omega) (by omega) ?_
  intro v5 w5 hG5 hs5
  have hb5 : Below w0.heap.size w0 w5 := hG5.allOf hb1 hg1.size (fun g' hg' => by simp [Value.ownBlock] at hg'; omega)
  have ho5 := hG5.owns
  rw [show ([] : List Value) ++ bys [80, 76, UInt8.ofNat k, 0] ++ bys (leB 8 s) ++ bys (leB 4 n) ++ bys bd = bys (frmH k s bd) by rw [frmH, Hn.out]; simp [bys], show 0 + 4 + 8 + 4 + n = n + 16 by omega] at ho5
  obtain ⟨A5, c5, rfl, hl5, hc5, hcm5, hr5, ha5⟩ := own_out ho5
  go_wp2_with fail
  refine (sum_any _ 1 1 [.slice A5 (n + 16) c5] [frmH k s bd] _ rfl (by decide) (Rd.newG rfl) (BRows.nil.snoc (c := c5) (by rw [frmH_length, Hn.out]) hc5 (by omega) (by unfold maxLen at hcm5; omega) (hr5.alloc _)) ((Rd.below ht0 hb5).alloc _)).mono ?_
  rw [show sumN [frmH k s bd] = moreN 0 (frmH k s bd) from rfl]
  rintro e w6 ⟨rfl, rfl⟩
  have hG6 := hG5.alloc (.cells #[.slice A5 (n + 16) c5] 51)
  have ho6 := own_below ho5 ((Below.refl _ _).alloc (Nat.le_refl _) (.cells #[.slice A5 (n + 16) c5] 51))
  go_wp2_with fail
  refine (fappend_any _ _ _ _ (moreN 0 (frmH k s bd)) 4 _ ho6 (by omega) (by omega) (by omega) hm1 (by omega) hG6.le).mono ?_
  rintro e w7 ⟨v7, rfl, hG7⟩
  go_wp2
  go_ret2
  have hb6 : Below w0.heap.size w0 (w5.alloc (.cells #[.slice A5 (n + 16) c5] 51)) := hb5.alloc hb5.size _
  have hb7 : Below w0.heap.size w0 w7 := hG7.allOf hb6 hb6.size (fun g' hg' => by cases A5 with
    | none => cases hg'
    | some a => injection hg' with hg'; have := (ha5 a rfl).1; omega)
  have ho7 := hG7.owns
  rw [← bys_append, show n + 16 + 4 = n + 20 by omega] at ho7
  refine ⟨_, rfl, own_weak ho7 (by have := hb0.size; omega), ?_⟩
  rw [hg]
  exact hb0.trans (hb7.mono (by have := hb0.size; omega))

set_option maxHeartbeats 1600000 in
theorem rwrite_any (k s : Nat) (A : Option Addr) (n c : Nat) (bd : List UInt8) (w : World) (hn : bd.length = n) (hn14 : n ≤ 16384) (hnc : n ≤ c) (hc : c ≤ 9223372036854775807) (hr : Rd w A (bys bd)) (hk : k < 256) (hs : s < 18446744073709551616) :
    Calls Tryz.prog 62 #[.agg #[.int .u8 k, .int .u64 s, .slice A n c]] w fun e w' => ∃ v, e = .returned (.tuple #[v, .int .i64 0]) ∧ w'.ownsRow w.heap.size 5 1 v (n + 20) (bys (frmB k s bd)) ∧ Below w.heap.size w w' := by
  have Hn := hide hn
  clear hn
  have hF : Rd (w.alloc (.cells #[.int .u8 k, .int .u64 s, .slice A n c] 80)) (some ⟨w.heap.size, 0, none⟩) [.int .u8 k, .int .u64 s, .slice A n c] := Rd.newN _ _ _ (0, 0)
  have hb0 : Below w.heap.size w (w.alloc (.cells #[.int .u8 k, .int .u64 s, .slice A n c] 80)) := (Below.refl _ _).alloc (Nat.le_refl _) _
  obtain ⟨g, hg⟩ : ∃ g, w.heap.size = g := ⟨_, rfl⟩
  rw [hg] at hF
  have Hk4 := hide (show bys [80, 76, UInt8.ofNat k, 0] = [.int .u8 80, .int .u8 76, .int .u8 (k : Int), .int .u8 0] by
    simp [bys, Nat.mod_eq_of_lt hk])
  have hP1 : fitsE s (8 : Nat) = 0 := fits_zero (by omega) (by omega) (by omega)
  have hP2 := put_zero (x := s) (k := 8) (by omega) (by omega) (by omega) [80, 76, UInt8.ofNat k, 0]
  have hP3 : putTextE bd = 0 := by unfold putTextE; rw [if_pos (by rw [Hn.out]; omega)]
  have hP4 : putTextB ([80, 76, UInt8.ofNat k, 0] ++ leB 8 s) bd = frmH k s bd := by
    unfold putTextB frmH; rw [if_pos (by rw [Hn.out]; omega)]; simp [textB]
  have HP1 := hide hP1
  have HP2 := hide hP2
  have HP3 := hide hP3
  have HP4 := hide hP4
  have HL := hide (show ([80, 76, UInt8.ofNat k, 0] ++ leB 8 s).length = 12 by simp [leB_length])
  clear hP1 hP2 hP3 hP4
  go_enter Tryz.func62, Tryz.ntmps62
  obtain ⟨w0, hw0⟩ : ∃ w0, w.alloc (.cells #[.int .u8 k, .int .u64 s, .slice A n c] 80) = w0 := ⟨_, rfl⟩
  rw [hw0] at hF hb0
  obtain ⟨hc0, hc1, hc2⟩ := three_cells hF
  have hr0 := hr.below hb0
  rw [hg] at hb0
  have hb1 : Below w0.heap.size w0 (w0.alloc (.cells #[.int .u8 80, .int .u8 76, .int .u8 (k : Int), .int .u8 0] 5)) := (Below.refl _ _).alloc (Nat.le_refl _) _
  obtain ⟨d0, d1, d2⟩ := three_cells (hF.below hb1)
  go_wp2_with fail
  refine (rput_any _ 4 _ [80, 76, UInt8.ofNat k, 0] s 8 _ rfl (by omega) (by rw [Hk4.out]; exact Rd.newG rfl) hs).mono ?_
  rw [show ((8 : Int)) = ((8 : Nat) : Int) from rfl, HP1.out, HP2.out]
  rintro e w2 ⟨v2, rfl, ho2, hb2⟩
  have hb02 : Below w0.heap.size w0 w2 := hb1.trans (hb2.mono hb1.size)
  obtain ⟨e0, e1, e2⟩ := three_cells (hF.below hb02)
  rw [HL.out] at ho2
  obtain ⟨A2, c2, rfl, hl2, hc2', hcm2, hr2, ha2⟩ := own_out ho2
  go_wp2_with fail
  refine (rputText_any _ 12 _ _ _ _ _ bd _ HL.out (by omega) hr2 Hn.out (hr0.below hb02)).mono ?_
  rw [HP3.out, HP4.out, frmH_length, Hn.out]
  rintro e w3 ⟨v3, rfl, ho3, hb3⟩
  have hb03 : Below w0.heap.size w0 w3 := hb02.trans (hb3.mono hb02.size)
  obtain ⟨A3, c3, rfl, hl3, hc3, hcm3, hr3, ha3⟩ := own_out ho3
  go_wp2_with fail
  refine (rseal_any _ (n + 16) _ (frmH k s bd) _ (by rw [frmH_length, Hn.out]) (by omega) hr3).mono ?_
  rintro e w4 ⟨v4, rfl, ho4, hb4⟩
  go_wp2
  go_ret2
  have h0 := hb0.size
  refine ⟨_, rfl, own_weak ho4 (by have := hb03.size; omega), ?_⟩
  rw [hg]
  exact (hb0.trans (hb03.mono (by omega))).trans (hb4.mono (by have := hb03.size; omega))
end Go.Proofs.YtoaodmidegkolaaGreatDoor
namespace Go.Proofs.YtoaodmidegkolaaGreatDoor
set_option maxRecDepth 20000
open Go.RowKit Go.Px
set_option linter.unusedVariables false


set_option maxHeartbeats 800000 in
theorem flen_any (A : Option Addr) (m c : Nat) (bs : List UInt8) (w : World) (hm : bs.length = m) (hm8 : m ≤ 140737488355328) (hmc : m ≤ c) (hc : c ≤ 9223372036854775807) (hr : Rd w A (bys bs)) :
    Calls Tryz.prog 71 #[.slice A m c] w fun e w' => e = .returned (.tuple #[.int .i64 (lenR bs), .int .i64 (lenE bs)]) ∧ w = w' := by
  by_cases h16 : m < 16
  · have hE : lenE bs = 10 := by unfold lenE; rw [if_pos (by omega)]
    have HE := hide hE
    have HR := hide (lenR_bad (x := bs) (by rw [hE]; decide))
    clear hm hE
    go_enter Tryz.func71, Tryz.ntmps71
    go_wp2
    go_ret2
    exact ⟨by rw [HE.out, HR.out]; rfl, rfl⟩
  · have hg := get_body (x := bs) (by omega)
    obtain ⟨a, rfl, hc0⟩ := hr 0 _ (bys_get (show 0 < bs.length by omega))
    rw [show a.add 0 = a from rfl] at hc0
    have hc1 := hr.atS (k := 0) (bys_get (show 1 < bs.length by omega))
    have hc3 := hr.atS (k := 2) (bys_get (show 3 < bs.length by omega))
    rw [at_nat] at hc0 hc1 hc3
    have hE := lenE.eq_1 bs
    rw [if_neg (by omega)] at hE
    have hL := bodyN_lt bs
    obtain ⟨x0, h0⟩ : ∃ x, (bs.getD 0 0).toNat = x := ⟨_, rfl⟩
    obtain ⟨x1, h1⟩ : ∃ x, (bs.getD 1 0).toNat = x := ⟨_, rfl⟩
    obtain ⟨x3, h3⟩ : ∃ x, (bs.getD 3 0).toNat = x := ⟨_, rfl⟩
    obtain ⟨L, hLL⟩ : ∃ x, bodyN bs = x := ⟨_, rfl⟩
    rw [h0, h1, h3, hLL, hm] at hE
    rw [h0] at hc0
    rw [h1] at hc1
    rw [h3] at hc3
    rw [hLL] at hL hg
    have HE := hide hE
    have HL := hide hLL
    have Hm := hide hm
    have Hg1 := hide hg.1
    have Hg2 := hide hg.2
    have HI := hide (show getI bs 12 4 = 16 by unfold getI; rw [if_pos hg.1]; rfl)
    clear hE hm hg h0 h1 h3 hLL
    have bad : (x0 ≠ 80 ∨ x1 ≠ 76 ∨ x3 ≠ 0 ∨ 16777216 < L) → Hid (lenE bs = 30 ∧ lenR bs = 0) := fun h => by
      have e : lenE bs = 30 := by rw [HE.out, if_pos h]
      exact hide ⟨e, lenR_bad (by rw [e]; decide)⟩
    have good : (x0 = 80 ∧ x1 = 76 ∧ x3 = 0 ∧ L ≤ 16777216) → m < L + 20 → Hid (lenE bs = 10 ∧ lenR bs = 0) := fun h h2 => by
      have e : lenE bs = 10 := by rw [HE.out, if_neg (by omega), if_pos h2]
      exact hide ⟨e, lenR_bad (by rw [e]; decide)⟩
    have fine : (x0 = 80 ∧ x1 = 76 ∧ x3 = 0 ∧ L ≤ 16777216) → ¬ m < L + 20 → Hid (lenE bs = 0 ∧ lenR bs = ((L + 20 : Nat) : Int)) := fun h h2 => by
      have e : lenE bs = 0 := by rw [HE.out, if_neg (by omega), if_neg h2]
      exact hide ⟨e, by rw [lenR_ok e, HL.out]⟩
    have Bad := hide bad
    have Good := hide good
    have Fine := hide fine
    clear bad good fine
    go_enter Tryz.func71, Tryz.ntmps71
    go_wp2_with fail
    refine (get_any _ _ _ _ 12 4 _ Hm.out hmc hc hr (by decide) (by decide)).mono ?_
    rw [Hg1.out, Hg2.out, HI.out]
    rintro e w1 ⟨rfl, rfl⟩
    rcases bool_two ((x0 : Int) != 80) with q0 | q0
    · have HB := Bad.out (.inl (by simp at q0; omega))
      go_wp2
      go_ret2
      exact ⟨by rw [HB.out.1, HB.out.2]; rfl, rfl⟩
    rcases bool_two ((x1 : Int) != 76) with q1 | q1
    · have HB := Bad.out (.inr (.inl (by simp at q1; omega)))
      go_wp2
      go_ret2
      exact ⟨by rw [HB.out.1, HB.out.2]; rfl, rfl⟩
    rcases bool_two ((x3 : Int) != 0) with q3 | q3
    · have HB := Bad.out (.inr (.inr (.inl (by simp at q3; omega))))
      go_wp2
      go_ret2
      exact ⟨by rw [HB.out.1, HB.out.2]; rfl, rfl⟩
    by_cases hl : 16777216 < L
    · have HB := Bad.out (.inr (.inr (.inr hl)))
      go_wp2
      go_ret2
      exact ⟨by rw [HB.out.1, HB.out.2]; rfl, rfl⟩
    have hall : x0 = 80 ∧ x1 = 76 ∧ x3 = 0 ∧ L ≤ 16777216 := by simp at q0 q1 q3; omega
    by_cases h2 : m < L + 20
    · have HB := Good.out hall h2
      go_wp2
      go_ret2
      exact ⟨by rw [HB.out.1, HB.out.2]; rfl, rfl⟩
    · have HB := Fine.out hall h2
      go_wp2
      go_ret2
      exact ⟨by rw [HB.out.1, HB.out.2]; simp; omega, rfl⟩

set_option maxHeartbeats 1600000 in
theorem fread_any (A : Option Addr) (m c : Nat) (bs : List UInt8) (i : Int) (w : World) (hm : bs.length = m) (hm8 : m ≤ 140737488355328) (hmc : m ≤ c) (hc : c ≤ 9223372036854775807) (hr : Rd w A (bys bs)) (hi : -9223372036854775808 ≤ i) (hi2 : i ≤ 9223372036854775807) (ht : Tab w) :
    Calls Tryz.prog 59 #[.slice A m c, .int .i64 i] w fun e w' => ∃ v, e = .returned (.tuple #[.agg #[.int .u8 (rdK bs i), .int .u64 (rdS bs i), v], .int .i64 (rdN bs i), .int .i64 (rdE bs i)]) ∧
      w'.ownsRow w.heap.size 5 1 v (rdB bs i).length (bys (rdB bs i)) ∧ Below w.heap.size w w' := by
  have Hm := hide hm
  by_cases h0 : 0 ≤ i ∧ i ≤ m
  · obtain ⟨h1, h2⟩ := h0
    obtain ⟨k, rfl⟩ := Int.eq_ofNat_of_zero_le h1
    have hk : k ≤ m := by omega
    have hx : rdE bs (k : Int) = frE (bs.drop k) := by unfold rdE; rw [if_pos (by omega)]; rfl
    have hxl : (bs.drop k).length = m - k := by rw [List.length_drop, hm]
    have hxr : Rd w (cutA A c k 1) (bys (bs.drop k)) := by rw [bys_drop]; exact hr.cutA (n := m) (k := k) (by rw [bys_length, hm]; exact Nat.le_refl _) hk hmc
    obtain ⟨x, hxx⟩ : ∃ x, bs.drop k = x := ⟨_, rfl⟩
    rw [hxx] at hx hxl hxr
    have Hx := hide hx
    have Hxl := hide hxl
    have Hxx := hide hxx
    clear hm hx hxl hxx
    by_cases hE : lenE x = 0
    · obtain ⟨hL1, hL2⟩ := lenE_le hE
      have hR := lenR_ok hE
      have hF : frE x = if numN ((x.drop (bodyN x + 16)).take 4) ≠ moreN 0 (x.take (bodyN x + 16)) then 31 else 0 := by unfold frE; rw [if_neg (by simpa using hE)]
      obtain ⟨L, hL⟩ : ∃ L, bodyN x = L := ⟨_, rfl⟩
      rw [hL] at hL1 hL2 hR hF
      rw [Hxl.out] at hL1
      obtain ⟨n, hn⟩ : ∃ n, L + 20 = n := ⟨_, rfl⟩
      rw [hn] at hR
      have hnm : n ≤ m - k := by omega
      have hn20 : 20 ≤ n := by omega
      have hn25 : n ≤ 16777236 := by omega
      obtain ⟨y, hy⟩ : ∃ y, x.take n = y := ⟨_, rfl⟩
      have hyl : y.length = n := by rw [← hy, List.length_take, Hxl.out]; omega
      have hyr : Rd w (cutA A c k 1) (bys y) := by rw [← hy, bys_take]; exact hxr.take _
      have hg1 : getE y ((n : Int) - 4) 4 = 0 := by unfold getE; rw [if_pos (by decide), if_pos (by omega), if_neg (by omega)]
      have hg2 : getE y 4 8 = 0 := by unfold getE; rw [if_pos (by decide), if_pos (by omega), if_neg (by omega)]
      have hv1 : getV y ((n : Int) - 4) 4 = numN ((x.drop (L + 16)).take 4) := by
        unfold getV; rw [if_pos hg1, show ((n : Int) - 4).toNat = L + 16 by omega, ← hy, List.drop_take, List.take_take, show min ((4 : Int).toNat) (n - (L + 16)) = 4 by show min 4 _ = 4; omega]
      have hv2 : getV y 4 8 = numN ((x.drop 4).take 8) := by
        unfold getV; rw [if_pos hg2, ← hy]; show numN (((x.take n).drop 4).take 8) = _; rw [List.drop_take, List.take_take, show min 8 (n - 4) = 8 by omega]
      have hi1 : getI y ((n : Int) - 4) 4 = n := by unfold getI; rw [if_pos hg1]; omega
      have hi2' : getI y 4 8 = 12 := by unfold getI; rw [if_pos hg2]; rfl
      have hyt : y.take (n - 4) = x.take (L + 16) := by rw [← hy, List.take_take, show min (n - 4) n = L + 16 by omega]
      have hytl : (y.take (n - 4)).length = n - 4 := by rw [List.length_take, hyl]; omega
      have hytr : Rd w (cutA A c k 1) (bys (y.take (n - 4))) := by rw [bys_take]; exact hyr.take _
      obtain ⟨b, hb, hb2⟩ := hyr 2 _ (bys_get (show 2 < y.length by rw [hyl]; omega))
      clear hb2
      rw [hb] at hyr hxr hytr
      obtain ⟨t, htt⟩ : ∃ t, numN ((x.drop (L + 16)).take 4) = t := ⟨_, rfl⟩
      obtain ⟨u, hu⟩ : ∃ u, moreN 0 (x.take (L + 16)) = u := ⟨_, rfl⟩
      have hul : u < 4294967296 := by rw [← hu]; exact moreN_lt _ _
      rw [htt] at hv1 hF
      rw [hu] at hF
      obtain ⟨q, hq⟩ : ∃ q, numN ((x.drop 4).take 8) = q := ⟨_, rfl⟩
      rw [hq] at hv2
      have HSum := hide (show sumN [y.take (n - 4)] = u by rw [hyt]; exact hu)
      have HF := hide hF
      have HR := hide hR
      have HE := hide hE
      have HG1 := hide hg1
      have HG2 := hide hg2
      have HV1 := hide hv1
      have HV2 := hide hv2
      have HI1 := hide hi1
      have HI2 := hide hi2'
      have Hyl := hide hyl
      have Hytl := hide hytl
      have HL := hide hL
      have Hy := hide hy
      have Hq := hide hq
      clear hF hR hE hg1 hg2 hv1 hv2 hi1 hi2' hyl hytl hL hy htt hu hyt hq
      have hnI : (20 : Int) ≤ n := by omega
      have hnk : (k : Int) + (n : Int) ≤ m := by omega
      go_enter Tryz.func59, Tryz.ntmps59
      go_wp2_with fail
      refine (flen_any _ _ _ x _ Hxl.out (by omega) (by omega) (by omega) (hxr.alloc _)).mono ?_
      rw [HR.out, HE.out]
      rintro e w1 ⟨rfl, rfl⟩
      go_wp2_with fail
      refine (get_any _ n _ y ((n : Int) - 4) 4 _ Hyl.out (by omega) (by omega) (hyr.alloc _) (by omega) (by omega)).mono ?_
      rw [HG1.out, HV1.out, HI1.out]
      rintro e w1 ⟨rfl, rfl⟩
      go_wp2_with fail
      refine (sum_any _ 1 1 [.slice (some b) (n - 4) (c - k)] [y.take (n - 4)] _ rfl (by decide) (Rd.newG (by simp)) (BRows.nil.snoc (c := c - k) Hytl.out (by omega) (by omega) (by omega) ((hytr.alloc _).alloc _)) ((ht.alloc _).alloc _)).mono ?_
      rw [HSum.out]
      rintro e w1 ⟨rfl, rfl⟩
      rcases bool_two ((t : Int) != (u : Int)) with qt | qt
      · have hE31 : rdE bs (k : Int) = 31 := by rw [Hx.out, HF.out, if_pos (by simp at qt; omega)]
        have HB := hide (rd_bad hE31 (by decide))
        have HE31 := hide hE31
        clear hE31
        go_wp2
        refine bodyPost_ret (results_cell3 rfl rfl ((Blk.new w [.int .u8 0, .int .u64 0, .slice none 0 0] _).alloc _) Tryz.underlying80 rfl (by kernel_rfl)) rfl ?_
        rw [HB.out.1, HB.out.2.1, HB.out.2.2.1, HB.out.2.2.2, HE31.out]
        exact ⟨_, rfl, World.ownsRow_nil _ _ _ _, ((Below.refl _ _).alloc (Nat.le_refl _) _).alloc (by simp) _⟩
      · have hE0 : rdE bs (k : Int) = 0 := by rw [Hx.out, HF.out, if_neg (by simp at qt; omega)]
        have hK : rdK bs (k : Int) = ((x.getD 2 0).toNat) := by unfold rdK; rw [if_pos hE0]; show ((bs.drop k).getD 2 0).toNat = _; rw [Hxx.out]
        have hS : rdS bs (k : Int) = q := by unfold rdS; rw [if_pos hE0]; show numN (((bs.drop k).drop 4).take 8) = _; rw [Hxx.out]; exact Hq.out
        have hBd : rdB bs (k : Int) = (y.drop 16).take (n - 20) := by
          unfold rdB; rw [if_pos hE0]
          show ((bs.drop k).drop 16).take (bodyN (bs.drop k)) = _
          rw [Hxx.out, HL.out, ← Hy.out, List.drop_take, List.take_take, show min (n - 20) (n - 16) = L by omega]
        have hN : rdN bs (k : Int) = (k : Int) + n := by unfold rdN; rw [if_pos hE0]; show (k : Int) + ((bodyN (bs.drop k) + 20 : Nat) : Int) = _; rw [Hxx.out, HL.out]; omega
        have HK := hide hK
        have HS := hide hS
        have HBd := hide hBd
        have HN := hide hN
        have HE0 := hide hE0
        clear hK hS hBd hN hE0
        have Hbl := hide (show ((y.drop 16).take (n - 20)).length = n - 4 - 16 by rw [List.length_take, List.length_drop, Hyl.out]; omega)
        have hbr : Rd w (cutA (some b) (c - k) 16 1) (bys ((y.drop 16).take (n - 20))) := by
          rw [bys_take, bys_drop]; exact (hyr.cutA (n := n) (k := 16) (by rw [bys_length, Hyl.out]; exact Nat.le_refl _) (by omega) (by omega)).take _
        have hx2 : (y[2]'(by rw [Hyl.out]; omega)).toNat = (x.getD 2 0).toNat := by
          rw [at_nat, ← Hy.out, List.getD_eq_getElem?_getD, List.getElem?_take, if_pos (by omega), List.getD_eq_getElem?_getD]
        obtain ⟨z2, hz2⟩ : ∃ z, (x.getD 2 0).toNat = z := ⟨_, rfl⟩
        rw [hz2] at hx2
        have hcell : ∀ W, Below w.heap.size w W → W.cell? ⟨b.block, b.off + 2, none⟩ = some (.int .u8 (z2 : Int)) := fun W hW => by
          have := (hyr.below hW).atS (k := 1) (bys_get (show 2 < y.length by rw [Hyl.out]; omega))
          rwa [hx2] at this
        have Hz2 := hide hz2
        have Hcell := hide hcell
        clear hcell hx2 hz2
        go_wp2_with fail
        refine (get_any _ n _ y 4 8 _ Hyl.out (by omega) (by omega) ((hyr.alloc _).alloc _) (by omega) (by omega)).mono ?_
        rw [HG2.out, HV2.out, HI2.out]
        rintro e w1 ⟨rfl, rfl⟩
        have dW : Blk ((w.alloc (.cells #[.int .u8 0, .int .u64 0, .slice none 0 0] 80)).alloc (.cells #[.slice (some b) (n - 4) (c - k)] 51)) w.heap.size [.int .u8 0, .int .u64 0, .slice none 0 0] 80 := (Blk.new w [.int .u8 0, .int .u64 0, .slice none 0 0] _).alloc _
        have bW : Below w.heap.size w ((w.alloc (.cells #[.int .u8 0, .int .u64 0, .slice none 0 0] 80)).alloc (.cells #[.slice (some b) (n - 4) (c - k)] 51)) := ((Below.refl _ _).alloc (Nat.le_refl _) _).alloc (by simp) _
        obtain ⟨W, hWe⟩ : ∃ W, ((w.alloc (.cells #[.int .u8 0, .int .u64 0, .slice none 0 0] 80)).alloc (.cells #[.slice (some b) (n - 4) (c - k)] 51)) = W := ⟨_, rfl⟩
        rw [hWe] at dW bW
        have e0 : W.drew.cell? ⟨b.block, b.off + 2, none⟩ = some (.int .u8 (z2 : Int)) := Hcell.out _ bW.drew
        go_wp2
        have hgc : w.heap.size < W.heap.size := dW.lt
        go_region_with (first
          | (go_at_call 36; refine (clone_any _ (n - 4 - 16) _ ((y.drop 16).take (n - 20)) _ Hbl.out (by omega) (Rd.drew (hbr.below bW))).mono ?_; rintro e w5 ⟨v5, rfl, ho5, hb5⟩; obtain ⟨A5, c5, rfl, hl5, hc5, hcm5, hr5, ha5⟩ := own_out ho5; have e1 := Hcell.out _ (bW.drew.trans (hb5.mono (by simpa using bW.size))); have d5 := Blk.below (w := W.drew) dW hb5; have g0 := d5.cell (j := 0) rfl; have g1 := d5.cell (j := 1) rfl; have g2 := d5.cell (j := 2) rfl; have z0 := d5.frozen 0; have z1 := d5.frozen 1; have z2' := d5.frozen 2))
        all_goals
          go_wp2_with fail
          refine bodyPost_ret (results_cell3 rfl rfl (((d5.set 0 _).set 1 _).set 2 _) Tryz.underlying80 rfl (by kernel_rfl)) rfl ?_
          rw [HK.out, HS.out, HBd.out, HN.out, HE0.out, Hz2.out, Hbl.out]
          exact ⟨.slice A5 (n - 4 - 16) c5, rfl, own_weak (ownsRow_setCell_below (ownsRow_setCell_below (ownsRow_setCell_below ho5 hgc _) hgc _) hgc _) bW.size,
            (((bW.drew.trans (hb5.mono (by simpa using bW.size))).setCell (Nat.le_refl _) _).setCell (Nat.le_refl _) _).setCell (Nat.le_refl _) _⟩
    · have hR := lenR_bad hE
      have HF := hide (show frE x = lenE x by unfold frE; rw [if_pos hE])
      obtain ⟨z, hz⟩ : ∃ z, lenE x = z := ⟨_, rfl⟩
      rw [hz] at hE HF
      have Hz := hide hz
      have HR := hide hR
      have HB := hide (rd_bad (Hx.out.trans HF.out) hE)
      have hzb : (z != 0) = true := by simpa using hE
      clear hz hR
      go_enter Tryz.func59, Tryz.ntmps59
      go_wp2_with fail
      refine (flen_any _ _ _ x _ Hxl.out (by omega) (by omega) (by omega) (hxr.alloc _)).mono ?_
      rw [HR.out, Hz.out]
      rintro e w1 ⟨rfl, rfl⟩
      go_wp2
      refine bodyPost_ret (results_cell3 rfl rfl (Blk.new w [.int .u8 0, .int .u64 0, .slice none 0 0] _) Tryz.underlying80 rfl (by kernel_rfl)) rfl ?_
      rw [HB.out.1, HB.out.2.1, HB.out.2.2.1, HB.out.2.2.2, Hx.out, HF.out]
      exact ⟨_, rfl, World.ownsRow_nil _ _ _ _, (Below.refl _ _).alloc (Nat.le_refl _) _⟩
  · have hE : rdE bs i = 5 := by unfold rdE; rw [if_neg (by rw [hm]; exact h0)]
    have HE := hide hE
    have HB := hide (rd_bad hE (by decide))
    have hd : (decide (i < 0) || decide (i > (m : Int))) = true := by
      by_cases h : i < 0
      · simp [h]
      · have : (m : Int) < i := by omega
        simp [this]
    clear hE hm
    by_cases hneg : i < 0
    · go_enter Tryz.func59, Tryz.ntmps59
      go_wp2
      refine bodyPost_ret (results_cell3 rfl rfl (Blk.new w [.int .u8 0, .int .u64 0, .slice none 0 0] _) Tryz.underlying80 rfl (by kernel_rfl)) rfl ?_
      rw [HB.out.1, HB.out.2.1, HB.out.2.2.1, HB.out.2.2.2, HE.out]
      exact ⟨_, rfl, World.ownsRow_nil _ _ _ _, (Below.refl _ _).alloc (Nat.le_refl _) _⟩
    · have hgt : (m : Int) < i := by omega
      go_enter Tryz.func59, Tryz.ntmps59
      go_wp2
      refine bodyPost_ret (results_cell3 rfl rfl (Blk.new w [.int .u8 0, .int .u64 0, .slice none 0 0] _) Tryz.underlying80 rfl (by kernel_rfl)) rfl ?_
      rw [HB.out.1, HB.out.2.1, HB.out.2.2.1, HB.out.2.2.2, HE.out]
      exact ⟨_, rfl, World.ownsRow_nil _ _ _ _, (Below.refl _ _).alloc (Nat.le_refl _) _⟩
end Go.Proofs.YtoaodmidegkolaaGreatDoor
namespace Go.Proofs.YtoaodmidegkolaaGreatDoor
set_option maxRecDepth 20000
open Go.RowKit Go.Px
set_option linter.unusedVariables false

def padN (m n : Nat) : Nat := (m + n - 1) / n * n
theorem padN_le {m n : Nat} (hn : 0 < n) : m ≤ padN m n ∧ padN m n < m + n := by
  unfold padN
  have h1 := Nat.div_add_mod (m + n - 1) n
  have h2 := Nat.mod_lt (m + n - 1) hn
  rw [Nat.mul_comm] at h1
  omega
theorem padN_mod {m n : Nat} : padN m n % n = 0 := by unfold padN; exact Nat.mul_mod_left _ _
theorem pad_not {m n j : Nat} (hn : 0 < n) (h : m ≤ j) (hj : j < padN m n) : j % n ≠ 0 := by
  intro h0
  have h1 := padN_le (m := m) hn
  have h2 := padN_mod (m := m) (n := n)
  obtain ⟨a, ha⟩ := Nat.dvd_of_mod_eq_zero h0
  obtain ⟨b, hb⟩ := Nat.dvd_of_mod_eq_zero h2
  rw [hb] at h1 hj
  rw [ha] at hj h
  have : a < b := Nat.lt_of_mul_lt_mul_left hj
  have h3 : n * (a + 1) ≤ n * b := Nat.mul_le_mul_left n this
  rw [Nat.mul_add] at h3
  omega
def padB (bs : List UInt8) (n : Nat) : List UInt8 := bs ++ List.replicate (padN bs.length n - bs.length) 0

set_option maxHeartbeats 800000 in
theorem fpad_any (A : Option Addr) (m c : Nat) (bs : List UInt8) (n : Nat) (w : World) (hm : bs.length = m) (hm8 : m ≤ 16384) (hmc : m ≤ c) (hr : Rd w A (bys bs)) (hn1 : 1 ≤ n) (hn2 : n ≤ 16384) :
    Calls Tryz.prog 16 #[.slice A m c, .int .i64 n] w fun e w' => ∃ v, e = .returned (.tuple #[v, .int .i64 0]) ∧ w'.ownsRow w.heap.size 5 1 v (padN m n) (bys (padB bs n)) ∧ Below w.heap.size w w' := by
  have hp := padN_le (m := m) (n := n) (by omega)
  obtain ⟨T, hT⟩ : ∃ T, padN m n = T := ⟨_, rfl⟩
  have HB := hide (show padB bs n = bs ++ List.replicate (T - m) 0 by unfold padB; rw [hm, hT])
  rw [hT] at hp
  have hTI : ((m : Int) + (n : Int) - 1) / (n : Int) * (n : Int) = (T : Int) := by
    rw [← hT]; unfold padN
    rw [show (m : Int) + (n : Int) - 1 = ((m + n - 1 : Nat) : Int) by omega]; simp
  have hw : IntKind.i64.wrap (((m : Int) + (n : Int) - 1) / (n : Int) * (n : Int)) = (T : Int) := by rw [hTI]; rw [IntKind.wrap_i64]; omega
  have HT := hide hT
  have Hm := hide hm
  clear hT hm
  go_enter Tryz.func16, Tryz.ntmps16
  go_wp2_with (first | (with_reducible refine stop_append rfl ?_) | (with_reducible refine stop_copy rfl ?_) | (with_reducible refine stop_make rfl ?_))
  refine go_make rfl rfl tBytes rfl rfl (n := T) (m := T) rfl rfl (by omega) (by omega) (by omega) (Nat.le_refl _) ?_
  intro z w1 hz _ hw1 ho1 hg1
  obtain rfl : z = .int .u8 0 := by
    obtain ⟨i, hi1, hi2⟩ := hz
    have h0 : (Tryz.prog.info? 5).map (·.zero) = some (some (.int .u8 0)) := by kernel_rfl
    rw [hi1, Option.map_some, hi2] at h0
    exact Option.some.inj (Option.some.inj h0)
  clear hw1
  rw [show (Value.int .u8 0).cells = #[.int .u8 0] from rfl, Nat.mul_one, toList_madeCells_one, List.take_of_length_le (by simp)] at ho1
  have hb1 : Below w.heap.size w w1 := grown_below (Below.refl _ _) hg1 (Nat.le_refl _) (fun g hg => by cases hg)
  go_wp2_with (first | (with_reducible refine stop_append rfl ?_) | (with_reducible refine stop_copy rfl ?_) | (with_reducible refine stop_make rfl ?_))
  refine go_copy rfl rfl tBytes ho1 rfl (off := 0) (by omega) rfl (by rw [bys_length]; exact Hm.out) (hr.below hb1) (bys_one _) ?_
  intro w2 ho2 hg2
  have hb2 : Below w.heap.size w w2 := hb1.grown hg2 hg1.size (fun g hg => by injection hg with hg; omega)
  go_wp2
  go_ret2
  refine ⟨_, rfl, ?_, hb2⟩
  have hz0 : bys (bs ++ List.replicate (T - m) 0) = List.take 0 (List.replicate T (Value.int .u8 0)) ++ (List.take T (bys bs) ++ List.drop (0 + min m T) (List.replicate T (Value.int .u8 0))) := by
    rw [List.take_zero, List.nil_append, List.take_of_length_le (by rw [bys_length, Hm.out]; omega), List.drop_replicate, show T - (0 + min m T) = T - m by omega, bys_append]
    simp [bys]
  rw [HT.out, HB.out, hz0]
  exact ho2

def lenV : Value → Nat
  | .slice _ n _ => n
  | _ => 0

set_option maxHeartbeats 800000 in
theorem rpad_any (A : Option Addr) (m c : Nat) (bs : List UInt8) (n : Nat) (w : World) (hm : bs.length = m) (hm8 : m ≤ 16384) (hmc : m ≤ c) (hr : Rd w A (bys bs)) (hn1 : 1 ≤ n) (hn2 : n ≤ 16384) :
    Calls Tryz.prog 44 #[.slice A m c, .int .i64 n] w fun e w' => ∃ v, e = .returned (.tuple #[v, .int .i64 0]) ∧ w'.ownsRow w.heap.size 5 1 v (padN m n) (bys (padB bs n)) ∧ Below w.heap.size w w' := by
  have hp := padN_le (m := m) (n := n) (by omega)
  have HB := hide (show padB bs n = bs ++ List.replicate (padN m n - m) 0 by unfold padB; rw [hm])
  have hnot : ∀ j, m ≤ j → j < padN m n → j % n ≠ 0 := fun j h1 h2 => pad_not (by omega) h1 h2
  have hyes := padN_mod (m := m) (n := n)
  obtain ⟨T, hT⟩ : ∃ T, padN m n = T := ⟨_, rfl⟩
  rw [hT] at hp HB hnot hyes ⊢
  have Hnot := hide hnot
  have Hyes := hide hyes
  have Hm := hide hm
  clear hT hm hnot hyes
  go_enter Tryz.func44, Tryz.ntmps44
  go_wp2_with (first | (with_reducible refine stop_append rfl ?_) | (with_reducible refine stop_copy rfl ?_) | (with_reducible refine stop_make rfl ?_))
  refine (Grow.empty w 5 1).append rfl rfl tBytes rfl rfl (by rw [bys_length, Hm.out]; omega) (hr.alloc _) (bys_one _) (by omega) (by omega) ?_
  intro v1 w1 hG1 _
  go_wp2_with fail
  rw [Nat.zero_add, List.nil_append] at hG1
  go_loopw [6] (fun u wr => ∃ l : Nat, m ≤ l ∧ l ≤ T ∧ Grow (w.alloc (.cells #[] 5)) (.slice (some ⟨w.heap.size, 0, none⟩) 0 0) w.heap.size 5 1 wr u l (bys (bs ++ List.replicate (l - m) 0))) (fun u _ => T - lenV u)
  case atStart => exact ⟨m, by omega, by omega, by rw [Nat.sub_self, List.replicate_zero, List.append_nil]; exact hG1⟩
  case round =>
    obtain ⟨l, hl1, hl2, hG⟩ := hrel
    have ho := hG.owns
    obtain ⟨A2, c2, rfl, hl2', hc2, hcm2, hr2, ha2⟩ := own_out ho
    have hnI : (1 : Int) ≤ n := by omega
    by_cases hlt : l < T
    · have hq : ((l : Int) % (n : Int) != 0) = true := by
        have := Hnot.out l hl1 hlt
        have h2 : (l : Int) % (n : Int) = ((l % n : Nat) : Int) := by simp
        rw [h2]; simp; omega
      have HS := hide (show bys (bs ++ List.replicate (l - m) 0) ++ [Value.int .u8 0] = bys (bs ++ List.replicate (l + 1 - m) 0) by
        rw [show l + 1 - m = (l - m) + 1 by omega, List.replicate_succ', ← List.append_assoc, bys_append (bs ++ List.replicate (l - m) 0)]; rfl)
      go_wp2_with (first | (with_reducible refine stop_append rfl ?_) | (with_reducible refine stop_copy rfl ?_) | (with_reducible refine stop_make rfl ?_))
      refine hG.push rfl rfl rfl tBytes rfl rfl rfl (by omega) (by omega) ?_
      intro u2 w2 hG2 _
      rw [HS.out] at hG2
      obtain ⟨A3, c3, rfl, _⟩ := own_out hG2.owns
      go_wp2
      go_roundw
      case rel => exact ⟨l + 1, by omega, by omega, hG2⟩
      case measure => simp [lenV]; omega
    · obtain rfl : l = T := by omega
      have hq : ((l : Int) % (n : Int) != 0) = false := by
        have h2 : (l : Int) % (n : Int) = ((l % n : Nat) : Int) := by simp
        rw [h2, Hyes.out]; rfl
      go_wp2
      go_ret2
      refine ⟨_, rfl, ?_, hG.emptyAll⟩
      rw [HB.out]
      exact ho

end Go.Proofs.YtoaodmidegkolaaGreatDoor
namespace Go.Proofs.YtoaodmidegkolaaGreatDoor
set_option maxRecDepth 20000
open Go.RowKit Go.Px
set_option linter.unusedVariables false

theorem rd_back (k s : Nat) (bd a z : List UInt8) (hk : k < 256) (hs : s < 18446744073709551616) (hb : bd.length ≤ 16384) :
    rdE (a ++ frmB k s bd ++ z) a.length = 0 ∧ rdK (a ++ frmB k s bd ++ z) a.length = k ∧ Px.rdS (a ++ frmB k s bd ++ z) a.length = s ∧ rdB (a ++ frmB k s bd ++ z) a.length = bd ∧ rdN (a ++ frmB k s bd ++ z) a.length = ((a.length + (bd.length + 20) : Nat) : Int) := by
  have hx : (a ++ frmB k s bd ++ z).drop a.length = frmB k s bd ++ z := by rw [List.append_assoc]; exact List.drop_left
  have hlen : (a ++ frmB k s bd ++ z).length = a.length + (bd.length + 20) + z.length := by rw [List.length_append, List.length_append, frmB_length]
  obtain ⟨u, hu⟩ : ∃ u, moreN 0 (frmH k s bd) = u := ⟨_, rfl⟩
  have hul : u < 4294967296 := by rw [← hu]; exact moreN_lt _ _
  have e : frmB k s bd ++ z = ([80, 76, UInt8.ofNat k, 0] ++ Px.leB 8 s) ++ (Px.leB 4 bd.length ++ (bd ++ (Px.leB 4 u ++ z))) := by
    unfold frmB; rw [hu]; simp [frmH]
  have e2 : frmB k s bd ++ z = frmH k s bd ++ (Px.leB 4 u ++ z) := by unfold frmB; rw [hu]; simp
  have e3 : frmB k s bd ++ z = [80, 76, UInt8.ofNat k, 0] ++ (Px.leB 8 s ++ (Px.leB 4 bd.length ++ (bd ++ (Px.leB 4 u ++ z)))) := by rw [e]; simp
  have e4 : frmB k s bd ++ z = ([80, 76, UInt8.ofNat k, 0] ++ Px.leB 8 s ++ Px.leB 4 bd.length) ++ (bd ++ (Px.leB 4 u ++ z)) := by rw [e]; simp
  have hxl : (frmB k s bd ++ z).length = bd.length + 20 + z.length := by rw [List.length_append, frmB_length]
  obtain ⟨x, hxx⟩ : ∃ x, frmB k s bd ++ z = x := ⟨_, rfl⟩
  rw [hxx] at hx e e2 e3 e4 hxl
  have d12 : x.drop 12 = Px.leB 4 bd.length ++ (bd ++ (Px.leB 4 u ++ z)) := by
    rw [e]; exact List.drop_left' (by simp [leB_length])
  have hbn : bodyN x = bd.length := by
    unfold bodyN; rw [d12, List.take_left' (leB_length _ _), numN_leB 4 _ (by omega)]
  have g0 : (x.getD 0 0).toNat = 80 := by rw [e3]; rfl
  have g1 : (x.getD 1 0).toNat = 76 := by rw [e3]; rfl
  have g2 : (x.getD 2 0).toNat = k := by rw [e3]; show (UInt8.ofNat k).toNat = k; exact UInt8.toNat_ofNat_of_lt' hk
  have g3 : (x.getD 3 0).toNat = 0 := by rw [e3]; rfl
  have hle : lenE x = 0 := by
    unfold lenE; rw [if_neg (by omega), if_neg (by rw [g0, g1, g3, hbn]; omega), if_neg (by rw [hbn]; omega)]
  have hfe : frE x = 0 := by
    unfold frE
    rw [if_neg (by simpa using hle), hbn, if_neg]
    rw [e2, List.drop_left' (by rw [frmH_length]), List.take_left' (frmH_length _ _ _), List.take_left' (leB_length _ _), numN_leB 4 u hul, hu]
    simp
  have hE : rdE (a ++ frmB k s bd ++ z) a.length = 0 := by
    unfold rdE; rw [if_pos (by omega)]; show frE ((a ++ frmB k s bd ++ z).drop a.length) = 0; rw [hx]; exact hfe
  refine ⟨hE, ?_, ?_, ?_, ?_⟩
  · unfold rdK; rw [if_pos hE]; show (((a ++ frmB k s bd ++ z).drop a.length).getD 2 0).toNat = k; rw [hx]; exact g2
  · unfold Px.rdS; rw [if_pos hE]; show numN ((((a ++ frmB k s bd ++ z).drop a.length).drop 4).take 8) = s
    rw [hx, e3]
    show numN ((Px.leB 8 s ++ (Px.leB 4 bd.length ++ (bd ++ (Px.leB 4 u ++ z)))).take 8) = s
    rw [List.take_left' (leB_length _ _), numN_leB 8 s (by omega)]
  · unfold rdB; rw [if_pos hE]; show (((a ++ frmB k s bd ++ z).drop a.length).drop 16).take (bodyN ((a ++ frmB k s bd ++ z).drop a.length)) = bd
    rw [hx, hbn, e4, List.drop_left' (by simp [leB_length]), List.take_left' rfl]
  · unfold rdN; rw [if_pos hE]; show (a.length : Int) + ((bodyN ((a ++ frmB k s bd ++ z).drop a.length) + 20 : Nat) : Int) = _
    rw [hx, hbn]; omega

end Go.Proofs.YtoaodmidegkolaaGreatDoor
namespace Go.Proofs.YtoaodmidegkolaaGreatDoor
set_option maxRecDepth 20000
open Go.ChangeShapes Go.WideShapes Go.ChangeAt Go.RowKit Go.Px
theorem gTab : Tryz.prog.globalNamed "plinth/crc.table" = some 0 := by kernel_rfl
theorem gTabType : (Tryz.prog.globals[0]?).map (·.type) = some 125 := by kernel_rfl
theorem cellsTab : Tryz.prog.cellsOf 125 = 16 := by kernel_rfl
theorem cellsU32 : Tryz.prog.cellsOf 23 = 1 := by kernel_rfl
def tabI : List Int := [0, 274646895, 549293790, 820201905, 1098587580, 1361435347, 1640403810, 1905808397, 2197175160, 2460548119, 2722870694, 2987750089, 3280807620, 3553878443, 3811616794, 4084100981]
theorem tab_of_laid {W : World} (h : laidMetH Tryz.prog [("plinth/crc.table", Rows.laid_plinth_crc_table)] W) : Tab W := by
  have hT : Lib.TabIs Tryz.prog W "plinth/crc.table" .u32 tabI := Lib.tabIs_of_head (rest := []) gTab gTabType Tryz.underlying125 Tryz.underlying23 cellsU32 cellsTab h
  have hv : tabV = tabI.map fun z => Value.int .u32 z := rfl
  intro j u hu
  have hj : j < 16 := by
    have := (List.getElem?_eq_some_iff.1 hu).1
    simpa [hv, tabI] using this
  refine ⟨_, rfl, ?_⟩
  have e : (⟨0, 0, none⟩ : Addr).add j = ⟨0, j, none⟩ := by unfold Addr.add; split <;> simp_all
  have hji : j < tabI.length := hj
  rw [e, hT.cell gTab j hji]
  rw [hv, List.getElem?_map, List.getElem?_eq_getElem hji, Option.map_some] at hu
  rw [← hu, List.getD, List.getElem?_eq_getElem hji, Option.getD_some]
/-- A world for the witness: the settled one, the table holding what its initialiser lays. -/
noncomputable def tabWorld (os : Os) : World :=
  { World.holding Tryz.prog os ⟨#[], #[], []⟩ with heap := (World.holding Tryz.prog os ⟨#[], #[], []⟩).heap.modify 0 fun
      | .cells _ t frozen => .cells (tabI.map fun z => Value.int .u32 z).toArray t frozen
      | o => o }
end Go.Proofs.YtoaodmidegkolaaGreatDoor
