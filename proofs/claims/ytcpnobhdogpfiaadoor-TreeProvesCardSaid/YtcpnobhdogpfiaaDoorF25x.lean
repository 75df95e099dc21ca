/- Proofs: Prove where there is none, the program's and the document's. -/
import Derived.Test.YtcpnobhdogpfiaaDoorF25w
import Derived.Test.YtcpnobhdogpfiaaDoorF25t
import Derived.Deep.DeepFit
namespace Go.Proofs.YtcpnobhdogpfiaaDoor
set_option maxRecDepth 20000
open Go.RowKit Go.Px
set_option linter.unusedVariables false
set_option maxHeartbeats 1600000 in
theorem prove_no (A : Option Addr) (n c : Nat) (ls : List (List Nat)) (i : Int) (w : World) {Q : Nat → Prop} (hT : tyTree.Is w Q ls [.slice A n c]) (ht : Tab w) {x : Int} (hx : x = 250 ∨ x = 5) (hp : plE ls i = x) :
    Calls Tryd.prog 33 #[.agg #[.slice A n c], .int .i64 i] w fun e w' => e = .returned (.tuple #[.agg #[.int .i64 0, .slice none 0 0], .int .i64 x]) ∧ Below w.heap.size w w' := by
  refine (callsIn_wide (n := 8)).1 ?_
  refine callsIn_of_wp_marks Tryd.func33 rfl trivial ?_ rfl
  simp only [Tryd.ntmps33, List.size_toArray, List.length_cons, List.length_nil, Nat.reduceAdd, Nat.reduceSub, Array.replicate_succ, Array.replicate_zero, List.push_toArray, List.append_toArray, List.nil_append, List.cons_append]
  obtain ⟨w1, hw1⟩ : ∃ x, (w.alloc (.cells #[.slice A n c] 29)).alloc (.cells #[.int .i64 0, .slice none 0 0] 58) = x := ⟨_, rfl⟩
  have hb1 : Below w.heap.size w w1 := by rw [← hw1]; exact ((Below.refl _ _).alloc (Nat.le_refl _) _).alloc (by simp) _
  have B2 : Blk w1 w.heap.size [.slice A n c] 29 := by rw [← hw1]; exact (Blk.new w [.slice A n c] 29).alloc _
  have B4 : Blk w1 (w.heap.size + 1) [.int .i64 0, .slice none 0 0] 58 := by
    rw [← hw1]
    have := Blk.new (w.alloc (.cells #[.slice A n c] 29)) [.int .i64 0, .slice none 0 0] 58
    rwa [World.size_alloc] at this
  have HP := hide (place_any A n c ls i w1 (hT.below hb1) (Rd.below ht hb1))
  rw [hp] at HP
  have Hw1 := hide hw1
  have q0 : (x == 0) = false := by rw [beq_eq_false_iff_ne]; omega
  have q1 : (x != 0) = true := by rw [bne_iff_ne]; omega
  clear hw1 hT ht hp hx B2
  gi_wp2_with fail
  rw [Hw1.out]
  refine ⟨trivial, (callsIn_wide.2 HP.out).mono ?_⟩
  rintro e w2 ⟨rfl, hb2⟩
  have C4 := B4.below hb2
  have d0 := C4.cell (j := 0) rfl
  have d1 := C4.cell (j := 1) rfl
  have f0 := C4.frozen 0
  have f1 := C4.frozen 1
  have X4 : Blk ((w2.setCell ⟨w.heap.size + 1, 0, none⟩ (.int .i64 0)).setCell ⟨w.heap.size + 1, 1, none⟩ (.slice none 0 0)) (w.heap.size + 1) [.int .i64 0, .slice none 0 0] 58 := (C4.set 0 _).set 1 _
  have hbf : Below w.heap.size w ((w2.setCell ⟨w.heap.size + 1, 0, none⟩ (.int .i64 0)).setCell ⟨w.heap.size + 1, 1, none⟩ (.slice none 0 0)) := ((hb1.trans (hb2.mono hb1.size)).setCell (by show w.heap.size ≤ w.heap.size + 1; omega) _).setCell (by show w.heap.size ≤ w.heap.size + 1; omega) _
  have HX4 := hide X4
  have Hbf := hide hbf
  clear X4 hbf
  gi_wp2
  exact ⟨_, results_cell2 rfl rfl HX4.out Tryd.underlying58 rfl (by kernel_rfl), rfl, Hbf.out⟩
set_option maxHeartbeats 1600000 in
theorem rprove_no (A : Option Addr) (n c : Nat) (ls : List (List Nat)) (i : Int) (w : World) {Q : Nat → Prop} (hT : tyTree.Is w Q ls [.slice A n c]) (hok : okT ls = false) :
    Calls Tryd.prog 34 #[.agg #[.slice A n c], .int .i64 i] w fun e w' => e = .returned (.tuple #[.agg #[.int .i64 0, .slice none 0 0], .int .i64 250]) ∧ Below w.heap.size w w' := by
  obtain ⟨w1, hw1⟩ : ∃ x, (w.alloc (.cells #[.slice A n c] 29)).alloc (.cells #[.int .i64 0, .slice none 0 0] 58) = x := ⟨_, rfl⟩
  have hb1 : Below w.heap.size w w1 := by rw [← hw1]; exact ((Below.refl _ _).alloc (Nat.le_refl _) _).alloc (by simp) _
  have B2 : Blk w1 w.heap.size [.slice A n c] 29 := by rw [← hw1]; exact (Blk.new w [.slice A n c] 29).alloc _
  have B4 : Blk w1 (w.heap.size + 1) [.int .i64 0, .slice none 0 0] 58 := by
    rw [← hw1]
    have := Blk.new (w.alloc (.cells #[.slice A n c] 29)) [.int .i64 0, .slice none 0 0] 58
    rwa [World.size_alloc] at this
  have HC := hide (rcheck_any A n c ls w1 (hT.below hb1))
  rw [show ckE ls = 250 by unfold ckE; rw [hok]; rfl] at HC
  have Hw1 := hide hw1
  clear hw1 hT hok B2
  go_enter Tryd.func34, Tryd.ntmps34
  go_wp2_with fail
  rw [Hw1.out]
  go_fit HC.out
  rintro e w2 ⟨rfl, hb2⟩
  have C4 := B4.below hb2
  have d0 := C4.cell (j := 0) rfl
  have d1 := C4.cell (j := 1) rfl
  have f0 := C4.frozen 0
  have f1 := C4.frozen 1
  have X4 : Blk ((w2.setCell ⟨w.heap.size + 1, 0, none⟩ (.int .i64 0)).setCell ⟨w.heap.size + 1, 1, none⟩ (.slice none 0 0)) (w.heap.size + 1) [.int .i64 0, .slice none 0 0] 58 := (C4.set 0 _).set 1 _
  have hbf : Below w.heap.size w ((w2.setCell ⟨w.heap.size + 1, 0, none⟩ (.int .i64 0)).setCell ⟨w.heap.size + 1, 1, none⟩ (.slice none 0 0)) := ((hb1.trans (hb2.mono hb1.size)).setCell (by show w.heap.size ≤ w.heap.size + 1; omega) _).setCell (by show w.heap.size ≤ w.heap.size + 1; omega) _
  have HX4 := hide X4
  have Hbf := hide hbf
  clear X4 hbf
  go_wp2
  refine bodyPost_ret (results_cell2 rfl rfl HX4.out Tryd.underlying58 rfl (by kernel_rfl)) rfl ?_
  exact ⟨rfl, Hbf.out⟩
end Go.Proofs.YtcpnobhdogpfiaaDoor
