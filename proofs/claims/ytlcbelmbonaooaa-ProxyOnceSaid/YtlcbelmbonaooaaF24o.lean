/- Stage 24: Ask and Move (written by gen_24o.py). -/
import Derived.Test.YtlcbelmbonaooaaF24n
namespace Go.Proofs.Ytlcbelmbonaooaa
set_option maxRecDepth 20000
open Go.RowKit Go.Px Go.Maps Go.Deep
set_option linter.unusedVariables false
set_option linter.unusedSimpArgs false
def zeroO : OpD := (0, 0, 0, [], [])
def zeroG : GroupD := (0, [])
theorem zeroO_is {w : World} {Q : Nat → Prop} : tyOp.Is w Q zeroO [.int .u8 0, .int .i64 0, .int .i64 0, .slice none 0 0, .slice none 0 0] := Op_mk (by decide) (by omega) (by omega) (by omega) (by omega) rfl (by omega) (by omega) Rd.nil (fun hn => absurd rfl hn) rfl (by omega) (by omega) Rd.nil (fun hn => absurd rfl hn)
theorem zeroG_is {w : World} {Q : Nat → Prop} : tyGroup.Is w Q zeroG [.int .i64 0, .slice none 0 0] := Group_mk (by omega) (by omega) rfl (by omega) (by omega) Rd.nil (fun hn => absurd rfl hn) (i64rows_mk (by intro x hx; cases hx))
theorem asks_op (o : OpD) : asksB o zeroG = (opF o == 0) := by
  have h : grpOk zeroG.1 zeroG.2 = false := by decide
  unfold asksB
  rw [h, Bool.and_false, Bool.or_false]
  show ((opF o == 0) && ngB 0 0) = _
  rw [show ngB 0 0 = true from rfl, Bool.and_true]
theorem asks_gr (g : GroupD) : asksB zeroO g = grK g := by
  have h : noB zeroO.1 zeroO.2.1 zeroO.2.2.1 zeroO.2.2.2.1 zeroO.2.2.2.2 = true := by decide
  have h2 : (fmE zeroO.1 zeroO.2.1 zeroO.2.2.1 zeroO.2.2.2.1.length zeroO.2.2.2.2.length == 0) = false := by decide
  unfold asksB
  rw [h, h2, Bool.false_and, Bool.false_or, Bool.true_and]
  rfl
set_option maxRecDepth 20000 in
set_option maxHeartbeats 12800000 in
theorem mAsk_any {w : World} {Q Q' : Nat → Prop} {x : ProxyD} {y : OpD} {cs ds : List Value} (h : tyProxy.Is w Q x cs) (h' : tyOp.Is w Q' y ds) (hL : LightP x) (l1 : y.2.2.2.1.length ≤ 1099511627776) (l2 : y.2.2.2.2.length ≤ 1099511627776) :
    Calls Try.prog 16 #[.agg cs.toArray, .agg ds.toArray] w fun e w' => AskIs w w' (fun b => w.heap.size ≤ b) (askD x y zeroG (asksB y zeroG)) e := by
  obtain ⟨c0, c1, c2, c3, c4, c5, c6, c7, c8, c9, c10, c11, c12, c13, rfl⟩ := list_14 (h.len : cs.length = 14)
  obtain ⟨z0, z1, z2, z3, z4, rfl⟩ := list_5 (h'.len : ds.length = 5)
  have HB := hide (fun W (hW : Below w.heap.size w W) => begin_any (h.below hW) (h'.below hW) (zeroG_is (w := W) (Q := fun _ => True)) hL l1 l2 (Nat.zero_le _))
  clear h h'
  obtain ⟨gg, hgg⟩ : ∃ g, w.heap.size = g := ⟨_, rfl⟩
  obtain ⟨w0, hw0⟩ : ∃ x, ((w.alloc (.cells #[c0, c1, c2, c3, c4, c5, c6, c7, c8, c9, c10, c11, c12, c13] 30)).alloc (.cells #[z0, z1, z2, z3, z4] 28)).alloc (.cells #[.int .i64 0, .int .i64 0, .slice none 0 0, .int .i64 0, .int .i64 0, .bool false, .int .u8 0, .int .i64 0, .int .i64 0, .slice none 0 0, .slice none 0 0, .int .i64 0, .slice none 0 0, .int .i64 0] 30) = x := ⟨_, rfl⟩
  have hP0 : Blk w0 gg [c0, c1, c2, c3, c4, c5, c6, c7, c8, c9, c10, c11, c12, c13] 30 := by rw [← hw0, ← hgg]; exact ((Blk.new w _ _).alloc _).alloc _
  have hO0 : Blk w0 (gg + 1) [z0, z1, z2, z3, z4] 28 := by
    rw [← hw0, ← hgg]
    have := Blk.new (w.alloc (.cells #[c0, c1, c2, c3, c4, c5, c6, c7, c8, c9, c10, c11, c12, c13] 30)) [z0, z1, z2, z3, z4] 28
    rw [World.size_alloc] at this
    exact this.alloc _
  have hR0 : Blk w0 (gg + 2) [.int .i64 0, .int .i64 0, .slice none 0 0, .int .i64 0, .int .i64 0, .bool false, .int .u8 0, .int .i64 0, .int .i64 0, .slice none 0 0, .slice none 0 0, .int .i64 0, .slice none 0 0, .int .i64 0] 30 := by
    rw [← hw0, ← hgg]
    have := Blk.new ((w.alloc (.cells #[c0, c1, c2, c3, c4, c5, c6, c7, c8, c9, c10, c11, c12, c13] 30)).alloc (.cells #[z0, z1, z2, z3, z4] 28)) [.int .i64 0, .int .i64 0, .slice none 0 0, .int .i64 0, .int .i64 0, .bool false, .int .u8 0, .int .i64 0, .int .i64 0, .slice none 0 0, .slice none 0 0, .int .i64 0, .slice none 0 0, .int .i64 0] 30
    rw [World.size_alloc, World.size_alloc] at this
    exact this
  have b0 : Below w.heap.size w w0 := by rw [← hw0]; exact (((Below.refl _ _).alloc (Nat.le_refl _) _).alloc (by simp) _).alloc (by simp; omega) _
  have rl := hR0.lt
  have Hw0 := hide hw0
  have s0 := b0.size
  clear hw0
  go_enter Try.func16, Try.ntmps16
  go_wp2_with (first | (with_reducible refine stop_load 30 rfl ?_) | (with_reducible refine stop_store 30 rfl ?_) | (with_reducible refine stop_load 24 rfl ?_) | (with_reducible refine stop_store 24 rfl ?_) | (with_reducible refine stop_load 28 rfl ?_) | (with_reducible refine stop_store 28 rfl ?_) | (with_reducible refine stop_load 58 rfl ?_) | (with_reducible refine stop_store 58 rfl ?_))
  rw [Hw0.out]
  refine go_load rfl rfl rfl hP0 Try.underlying30 rfl (by kernel_rfl) ?_
  go_wp2_with (first | (with_reducible refine stop_load 30 rfl ?_) | (with_reducible refine stop_store 30 rfl ?_) | (with_reducible refine stop_load 24 rfl ?_) | (with_reducible refine stop_store 24 rfl ?_) | (with_reducible refine stop_load 28 rfl ?_) | (with_reducible refine stop_store 28 rfl ?_) | (with_reducible refine stop_load 58 rfl ?_) | (with_reducible refine stop_store 58 rfl ?_))
  refine go_load rfl rfl rfl hO0 Try.underlying28 rfl (by kernel_rfl) ?_
  go_wp2_with (first | (with_reducible refine stop_load 30 rfl ?_) | (with_reducible refine stop_store 30 rfl ?_) | (with_reducible refine stop_load 24 rfl ?_) | (with_reducible refine stop_store 24 rfl ?_) | (with_reducible refine stop_load 28 rfl ?_) | (with_reducible refine stop_store 28 rfl ?_) | (with_reducible refine stop_load 58 rfl ?_) | (with_reducible refine stop_store 58 rfl ?_))
  go_fit (HB.out w0 b0)
  rintro xx w1 ⟨es, A, n, c, rfl, iD, iL, hd1⟩
  have hdl : es.length = 14 := iD.len
  have s1 := hd1.size
  have b1 := b0.trans (hd1.mono s0)
  have hR1 := hR0.below hd1
  go_wp2_with (first | (with_reducible refine stop_load 30 rfl ?_) | (with_reducible refine stop_store 30 rfl ?_) | (with_reducible refine stop_load 24 rfl ?_) | (with_reducible refine stop_store 24 rfl ?_) | (with_reducible refine stop_load 28 rfl ?_) | (with_reducible refine stop_store 28 rfl ?_) | (with_reducible refine stop_load 58 rfl ?_) | (with_reducible refine stop_store 58 rfl ?_))
  refine go_store rfl rfl rfl rfl rfl hR1 (by rw [hdl]; kernel_rfl) (by rw [hdl]; rfl) (us := es) iD.ones ?_
  go_wp2
  refine bodyPost_ret (results_cell3 rfl rfl (hR1.setAll es) Try.underlying30 rfl (by rw [hdl]; kernel_rfl)) rfl ?_
  have hF := Fr.row (X := fun b => b = gg + 2) rfl w1 es.toArray
  refine ⟨es, A, n, c, rfl, ?_, ?_, hF.below (by first | exact b1 | (rw [← hgg]; exact b1)) (by omega) (fun b hb => by have hb' : b = gg + 2 := hb; omega)⟩
  · exact (iD.fr hF (fun b hb hx => by have hx' : b = gg + 2 := hx; have hb' : w0.heap.size ≤ b := hb; omega)).mono (fun b hb => by have hb' : w0.heap.size ≤ b := hb; first | (show w.heap.size ≤ b; omega) | (show gg ≤ b; omega))
  · exact (iL.fr hF (fun b hb hx => by have hx' : b = gg + 2 := hx; have hb' : w0.heap.size ≤ b := hb; omega)).mono (fun b hb => by have hb' : w0.heap.size ≤ b := hb; first | (show w.heap.size ≤ b; omega) | (show gg ≤ b; omega))
set_option maxRecDepth 20000 in
set_option maxHeartbeats 12800000 in
theorem mMove_any {w : World} {Q Q' : Nat → Prop} {x : ProxyD} {y : GroupD} {cs ds : List Value} (h : tyProxy.Is w Q x cs) (h' : tyGroup.Is w Q' y ds) (hL : LightP x) (l1 : y.2.length ≤ 1099511627776) :
    Calls Try.prog 18 #[.agg cs.toArray, .agg ds.toArray] w fun e w' => AskIs w w' (fun b => w.heap.size ≤ b) (askD x zeroO y (asksB zeroO y)) e := by
  obtain ⟨c0, c1, c2, c3, c4, c5, c6, c7, c8, c9, c10, c11, c12, c13, rfl⟩ := list_14 (h.len : cs.length = 14)
  obtain ⟨z0, z1, rfl⟩ := list_2 (h'.len : ds.length = 2)
  have HB := hide (fun W (hW : Below w.heap.size w W) => begin_any (h.below hW) (zeroO_is (w := W) (Q := fun _ => True)) (h'.below hW) hL (Nat.zero_le _) (Nat.zero_le _) l1)
  clear h h'
  obtain ⟨gg, hgg⟩ : ∃ g, w.heap.size = g := ⟨_, rfl⟩
  obtain ⟨w0, hw0⟩ : ∃ x, ((w.alloc (.cells #[c0, c1, c2, c3, c4, c5, c6, c7, c8, c9, c10, c11, c12, c13] 30)).alloc (.cells #[z0, z1] 24)).alloc (.cells #[.int .i64 0, .int .i64 0, .slice none 0 0, .int .i64 0, .int .i64 0, .bool false, .int .u8 0, .int .i64 0, .int .i64 0, .slice none 0 0, .slice none 0 0, .int .i64 0, .slice none 0 0, .int .i64 0] 30) = x := ⟨_, rfl⟩
  have hP0 : Blk w0 gg [c0, c1, c2, c3, c4, c5, c6, c7, c8, c9, c10, c11, c12, c13] 30 := by rw [← hw0, ← hgg]; exact ((Blk.new w _ _).alloc _).alloc _
  have hO0 : Blk w0 (gg + 1) [z0, z1] 24 := by
    rw [← hw0, ← hgg]
    have := Blk.new (w.alloc (.cells #[c0, c1, c2, c3, c4, c5, c6, c7, c8, c9, c10, c11, c12, c13] 30)) [z0, z1] 24
    rw [World.size_alloc] at this
    exact this.alloc _
  have hR0 : Blk w0 (gg + 2) [.int .i64 0, .int .i64 0, .slice none 0 0, .int .i64 0, .int .i64 0, .bool false, .int .u8 0, .int .i64 0, .int .i64 0, .slice none 0 0, .slice none 0 0, .int .i64 0, .slice none 0 0, .int .i64 0] 30 := by
    rw [← hw0, ← hgg]
    have := Blk.new ((w.alloc (.cells #[c0, c1, c2, c3, c4, c5, c6, c7, c8, c9, c10, c11, c12, c13] 30)).alloc (.cells #[z0, z1] 24)) [.int .i64 0, .int .i64 0, .slice none 0 0, .int .i64 0, .int .i64 0, .bool false, .int .u8 0, .int .i64 0, .int .i64 0, .slice none 0 0, .slice none 0 0, .int .i64 0, .slice none 0 0, .int .i64 0] 30
    rw [World.size_alloc, World.size_alloc] at this
    exact this
  have b0 : Below w.heap.size w w0 := by rw [← hw0]; exact (((Below.refl _ _).alloc (Nat.le_refl _) _).alloc (by simp) _).alloc (by simp; omega) _
  have rl := hR0.lt
  have Hw0 := hide hw0
  have s0 := b0.size
  clear hw0
  go_enter Try.func18, Try.ntmps18
  go_wp2_with (first | (with_reducible refine stop_load 30 rfl ?_) | (with_reducible refine stop_store 30 rfl ?_) | (with_reducible refine stop_load 24 rfl ?_) | (with_reducible refine stop_store 24 rfl ?_) | (with_reducible refine stop_load 28 rfl ?_) | (with_reducible refine stop_store 28 rfl ?_) | (with_reducible refine stop_load 58 rfl ?_) | (with_reducible refine stop_store 58 rfl ?_))
  rw [Hw0.out]
  refine go_load rfl rfl rfl hP0 Try.underlying30 rfl (by kernel_rfl) ?_
  go_wp2_with (first | (with_reducible refine stop_load 30 rfl ?_) | (with_reducible refine stop_store 30 rfl ?_) | (with_reducible refine stop_load 24 rfl ?_) | (with_reducible refine stop_store 24 rfl ?_) | (with_reducible refine stop_load 28 rfl ?_) | (with_reducible refine stop_store 28 rfl ?_) | (with_reducible refine stop_load 58 rfl ?_) | (with_reducible refine stop_store 58 rfl ?_))
  refine go_load rfl rfl rfl hO0 Try.underlying24 rfl (by kernel_rfl) ?_
  go_wp2_with (first | (with_reducible refine stop_load 30 rfl ?_) | (with_reducible refine stop_store 30 rfl ?_) | (with_reducible refine stop_load 24 rfl ?_) | (with_reducible refine stop_store 24 rfl ?_) | (with_reducible refine stop_load 28 rfl ?_) | (with_reducible refine stop_store 28 rfl ?_) | (with_reducible refine stop_load 58 rfl ?_) | (with_reducible refine stop_store 58 rfl ?_))
  go_fit (HB.out w0 b0)
  rintro xx w1 ⟨es, A, n, c, rfl, iD, iL, hd1⟩
  have hdl : es.length = 14 := iD.len
  have s1 := hd1.size
  have b1 := b0.trans (hd1.mono s0)
  have hR1 := hR0.below hd1
  go_wp2_with (first | (with_reducible refine stop_load 30 rfl ?_) | (with_reducible refine stop_store 30 rfl ?_) | (with_reducible refine stop_load 24 rfl ?_) | (with_reducible refine stop_store 24 rfl ?_) | (with_reducible refine stop_load 28 rfl ?_) | (with_reducible refine stop_store 28 rfl ?_) | (with_reducible refine stop_load 58 rfl ?_) | (with_reducible refine stop_store 58 rfl ?_))
  refine go_store rfl rfl rfl rfl rfl hR1 (by rw [hdl]; kernel_rfl) (by rw [hdl]; rfl) (us := es) iD.ones ?_
  go_wp2
  refine bodyPost_ret (results_cell3 rfl rfl (hR1.setAll es) Try.underlying30 rfl (by rw [hdl]; kernel_rfl)) rfl ?_
  have hF := Fr.row (X := fun b => b = gg + 2) rfl w1 es.toArray
  refine ⟨es, A, n, c, rfl, ?_, ?_, hF.below (by first | exact b1 | (rw [← hgg]; exact b1)) (by omega) (fun b hb => by have hb' : b = gg + 2 := hb; omega)⟩
  · exact (iD.fr hF (fun b hb hx => by have hx' : b = gg + 2 := hx; have hb' : w0.heap.size ≤ b := hb; omega)).mono (fun b hb => by have hb' : w0.heap.size ≤ b := hb; first | (show w.heap.size ≤ b; omega) | (show gg ≤ b; omega))
  · exact (iL.fr hF (fun b hb hx => by have hx' : b = gg + 2 := hx; have hb' : w0.heap.size ≤ b := hb; omega)).mono (fun b hb => by have hb' : w0.heap.size ≤ b := hb; first | (show w.heap.size ≤ b; omega) | (show gg ≤ b; omega))
end Go.Proofs.Ytlcbelmbonaooaa
