/- Stage 17: small, tail, flush (written by gen_17j.py). -/
import Derived.Test.YtfjffmjnnjckkaaF17i
import Derived.Test.YtfjffmjnnjckkaaOrd
import Derived.Deep.CutRange
namespace Go.Proofs.Ytfjffmjnnjckkaa
set_option maxRecDepth 20000
open Go.RowKit Go.Px Go.Maps
set_option linter.unusedVariables false
set_option linter.unusedSimpArgs false
set_option maxRecDepth 20000 in
set_option maxHeartbeats 6400000 in
theorem small17_any {w : World} {B : Nat} {A : Option Addr} {n c : Nat} {l : List TailD} {vs : List Value} (hA : RowAt tyTail w B A n l vs) (hB : B ≤ w.heap.size) (h63 : n ≤ 9223372036854775807) :
    Calls Try.prog 6 #[.slice A n c] w fun e w' => ∃ b, e = .returned (.bool b) ∧ Below w.heap.size w w' := by
  have Hl := hide hA.len
  go_enter Try.func6, Try.ntmps6
  go_wp2
  go_loopw [3, 4] (fun sv iv wr => ∃ (k : Nat) (N : Int), k ≤ n ∧ iv = .int .i64 k ∧ sv = .int .i64 N ∧ Below w.heap.size w wr) (fun _ iv _ => n - (intOf iv).toNat)
  case atStart => exact ⟨0, 0, by omega, rfl, rfl, Below.refl _ _⟩
  case round =>
    obtain ⟨k, N, hk, rfl, rfl, hb⟩ := hrel
    rcases bool_two (decide (N < 1000)) with q | q
    rotate_left
    · by_cases hlt : k < n
      · go_wp2
        go_ret
        exact ⟨_, rfl, hb⟩
      · obtain rfl : k = n := by omega
        go_wp2
        go_ret
        exact ⟨_, rfl, hb⟩
    by_cases hlt : k < n
    · have hkI : (k : Int) < (n : Int) := by omega
      obtain ⟨t, p, cs, ht, hAp, hI, hat, hc⟩ := hA.at_ (by decide) (hb.mono hB) hlt
      subst hAp
      obtain ⟨aNode, aNormal, aCommit, aStateNum, aStateShapeBlocks, aStateShapeSize, aStatePages, aStatePagesA, aStatePagesn, aStatePagesc, aStatePagesv, aStateRows, aStateRowsA, aStateRowsn, aStateRowsc, aStateRowsv, aStateGroupEpoch, aStateGroupMembers, aStateGroupMembersA, aStateGroupMembersn, aStateGroupMembersc, aStateGroupMembersv, aLog, aLogA, aLogn, aLogc, aLogv, rfl, rfl, h1_aNode, h2_aNode, h1_aNormal, h2_aNormal, h1_aCommit, h2_aCommit, h1_aStateNum, h2_aStateNum, h1_aStateShapeBlocks, h2_aStateShapeBlocks, h1_aStateShapeSize, h2_aStateShapeSize, hl_aStatePages, hc_aStatePages, hm_aStatePages, hr_aStatePages, hq_aStatePages, he_aStatePages, hl_aStateRows, hc_aStateRows, hm_aStateRows, hr_aStateRows, hq_aStateRows, he_aStateRows, h1_aStateGroupEpoch, h2_aStateGroupEpoch, hl_aStateGroupMembers, hc_aStateGroupMembers, hm_aStateGroupMembers, hr_aStateGroupMembers, hq_aStateGroupMembers, he_aStateGroupMembers, hl_aLog, hc_aLog, hm_aLog, hr_aLog, hq_aLog, he_aLog⟩ := Tail_out hI
      clear hl_aStatePages hr_aStatePages hq_aStatePages he_aStatePages hl_aStateRows hr_aStateRows hq_aStateRows he_aStateRows hl_aStateGroupMembers hr_aStateGroupMembers hq_aStateGroupMembers he_aStateGroupMembers hl_aLog hr_aLog hq_aLog he_aLog
      have y0 := el_0 (n := 11) hat (hc 0 _ rfl); have y1 := el_S (n := 11) (i := 0) hat (hc 1 _ rfl); have y2 := el_S (n := 11) (i := 1) hat (hc 2 _ rfl); have y3 := el_S (n := 11) (i := 2) hat (hc 3 _ rfl); have y4 := el_S (n := 11) (i := 3) hat (hc 4 _ rfl); have y5 := el_S (n := 11) (i := 4) hat (hc 5 _ rfl); have y6 := el_S (n := 11) (i := 5) hat (hc 6 _ rfl); have y7 := el_S (n := 11) (i := 6) hat (hc 7 _ rfl); have y8 := el_S (n := 11) (i := 7) hat (hc 8 _ rfl); have y9 := el_S (n := 11) (i := 8) hat (hc 9 _ rfl); have y10 := el_S (n := 11) (i := 9) hat (hc 10 _ rfl)
      have z4 := fun (x : InC (fun W' => Below wr.heap.size wr W')) => below_cell x.h y4
      have z5 := fun (x : InC (fun W' => Below wr.heap.size wr W')) => below_cell x.h y5
      have z6 := fun (x : InC (fun W' => Below wr.heap.size wr W')) => below_cell x.h y6
      have z7 := fun (x : InC (fun W' => Below wr.heap.size wr W')) => below_cell x.h y7
      have z10 := fun (x : InC (fun W' => Below wr.heap.size wr W')) => below_cell x.h y10
      clear hat hc ht
      go_wp2_with fail
      refine wp_region_in (fun W' => Below wr.heap.size wr W') (Below.refl _ _).drew (by kernel_rfl) (by kernel_rfl) ?_
      repeat (go_big_quiet_step (first | fail))
      refine wpQuiet_nil ?_
      intro _ hw'
      obtain ⟨nq, hw''⟩ := hw'
      subst hw''
      have hbq := nq.h
      go_wp2
      go_roundw
      case rel => exact ⟨k + 1, _, by omega, by go_num, rfl, hb.trans (hbq.mono hb.size)⟩
      case measure => simp [intOf]; omega
    · obtain rfl : k = n := by omega
      go_wp2
      go_ret
      exact ⟨_, rfl, hb⟩
def fl17 (num view : Int) : EntryD := (1, num, view, 1, num, (4, 0, 0, [], []), 0, [])
theorem fl17_is {w : World} {Q : Nat → Prop} {num view : Int} (h1 : -9223372036854775808 ≤ num) (h2 : num ≤ 9223372036854775807) (h3 : -9223372036854775808 ≤ view) (h4 : view ≤ 9223372036854775807) : tyEntry.Is w Q (fl17 num view) [.int .u8 1, .int .i64 num, .int .i64 view, .int .i64 1, .int .i64 num, .int .u8 4, .int .i64 0, .int .i64 0, .slice none 0 0, .slice none 0 0, .int .i64 0, .slice none 0 0] :=
  Entry_mk (by omega) h1 h2 h3 h4 (by omega) (by omega) h1 h2 (by omega) (by omega) (by omega) (by omega) (by omega) rfl (by omega) (by omega) Rd.nil (fun h => absurd rfl h) rfl (by omega) (by omega) Rd.nil (fun h => absurd rfl h) (by omega) (by omega) rfl (by omega) (by omega) Rd.nil (fun h => absurd rfl h) (Ty.Rows.nil)
set_option maxRecDepth 20000 in
set_option maxHeartbeats 1600000 in
theorem flush17_any (num view : Int) (w : World) : Calls Try.prog 27 #[.int .i64 num, .int .i64 view] w fun e w' => e = .returned (.agg #[.int .u8 1, .int .i64 num, .int .i64 view, .int .i64 1, .int .i64 num, .int .u8 4, .int .i64 0, .int .i64 0, .slice none 0 0, .slice none 0 0, .int .i64 0, .slice none 0 0]) ∧ Below w.heap.size w w' := by
  obtain ⟨g, hg⟩ : ∃ g, w.heap.size = g := ⟨_, rfl⟩
  obtain ⟨w0, hw0⟩ : ∃ x, w.alloc (.cells #[.int .u8 0, .int .i64 0, .int .i64 0, .int .i64 0, .int .i64 0, .int .u8 0, .int .i64 0, .int .i64 0, .slice none 0 0, .slice none 0 0, .int .i64 0, .slice none 0 0] 58) = x := ⟨_, rfl⟩
  have hZ : Blk w0 g [.int .u8 0, .int .i64 0, .int .i64 0, .int .i64 0, .int .i64 0, .int .u8 0, .int .i64 0, .int .i64 0, .slice none 0 0, .slice none 0 0, .int .i64 0, .slice none 0 0] 58 := by rw [← hw0, ← hg]; exact Blk.new w [.int .u8 0, .int .i64 0, .int .i64 0, .int .i64 0, .int .i64 0, .int .u8 0, .int .i64 0, .int .i64 0, .slice none 0 0, .slice none 0 0, .int .i64 0, .slice none 0 0] _
  have hb0 : Below w.heap.size w w0 := by rw [← hw0]; exact (Below.refl _ _).alloc (Nat.le_refl _) _
  go_enter Try.func27, Try.ntmps27
  go_wp2_with (first | (with_reducible refine stop_store 58 rfl ?_))
  try rw [hw0]
  refine go_store rfl rfl rfl (by first | rfl | (rw [← hg]; rfl)) rfl hZ (by kernel_rfl) rfl (us := [.int .u8 1, .int .i64 num, .int .i64 view, .int .i64 1, .int .i64 num, .int .u8 4, .int .i64 0, .int .i64 0, .slice none 0 0, .slice none 0 0, .int .i64 0, .slice none 0 0]) (by intro u hu; simp only [List.mem_cons, List.not_mem_nil, or_false] at hu; rcases hu with rfl | rfl | rfl | rfl | rfl | rfl | rfl | rfl | rfl | rfl | rfl | rfl <;> rfl) ?_
  go_wp2
  refine bodyPost_ret (results_cell rfl rfl (hZ.setAll [.int .u8 1, .int .i64 num, .int .i64 view, .int .i64 1, .int .i64 num, .int .u8 4, .int .i64 0, .int .i64 0, .slice none 0 0, .slice none 0 0, .int .i64 0, .slice none 0 0]) Try.underlying58 rfl (by kernel_rfl)) rfl ?_
  exact ⟨rfl, below_setRow hb0 (by omega) _⟩
def st17 : StateD := (0, (6, 2), [], [], (0, [0, 1, 2]))
theorem row_new {t : Ty} {w : World} {Q : Nat → Prop} {xs : List t.Den} {vs : List Value} (T : TypeId) (h : t.Rows w Q xs vs) {n : Nat} (hn : xs.length = n) (h63 : n ≤ 9223372036854775807) : (Ty.row t).Is (w.alloc (.cells vs.toArray T)) (fun _ => True) xs [.slice (some ⟨w.heap.size, 0, none⟩) n n] :=
  row_mk hn (Nat.le_refl _) h63 (Rd.newN w vs T (0, 0)) (fun _ _ _ => trivial) ((h.below ((Below.refl _ _).alloc (Nat.le_refl _) _)).any)
set_option maxRecDepth 20000 in
set_option maxHeartbeats 3200000 in
theorem tail17_any (nd nm : Int) (A : Option Addr) (n c : Nat) {es : List EntryD} {w : World} {Q : Nat → Prop} (h1 : -9223372036854775808 ≤ nd) (h2 : nd ≤ 9223372036854775807) (h3 : -9223372036854775808 ≤ nm) (h4 : nm ≤ 9223372036854775807) (he : (Ty.row tyEntry).Is w Q es [.slice A n c]) :
    Calls Try.prog 26 #[.int .i64 nd, .int .i64 nm, .slice A n c] w fun e w' => ∃ G, e = .returned (.agg #[.int .i64 nd, .int .i64 nm, .int .i64 0, .int .i64 0, .int .i64 6, .int .i64 2, .slice none 0 0, .slice none 0 0, .int .i64 0, .slice G 3 3, .slice A n c]) ∧ tyTail.Is w' (fun _ => True) (nd, nm, 0, st17, es) [.int .i64 nd, .int .i64 nm, .int .i64 0, .int .i64 0, .int .i64 6, .int .i64 2, .slice none 0 0, .slice none 0 0, .int .i64 0, .slice G 3 3, .slice A n c] ∧ Below w.heap.size w w' := by
  obtain ⟨g, hg⟩ : ∃ g, w.heap.size = g := ⟨_, rfl⟩
  obtain ⟨w0, hw0⟩ : ∃ x, w.alloc (.cells #[.int .i64 0, .int .i64 0, .int .i64 0, .int .i64 0, .int .i64 0, .int .i64 0, .slice none 0 0, .slice none 0 0, .int .i64 0, .slice none 0 0, .slice none 0 0] 33) = x := ⟨_, rfl⟩
  have hZ : Blk w0 g [.int .i64 0, .int .i64 0, .int .i64 0, .int .i64 0, .int .i64 0, .int .i64 0, .slice none 0 0, .slice none 0 0, .int .i64 0, .slice none 0 0, .slice none 0 0] 33 := by rw [← hw0, ← hg]; exact Blk.new w [.int .i64 0, .int .i64 0, .int .i64 0, .int .i64 0, .int .i64 0, .int .i64 0, .slice none 0 0, .slice none 0 0, .int .i64 0, .slice none 0 0, .slice none 0 0] _
  have hb0 : Below w.heap.size w w0 := by rw [← hw0]; exact (Below.refl _ _).alloc (Nat.le_refl _) _
  have HE := hide he
  clear he
  go_enter Try.func26, Try.ntmps26
  go_wp2_with fail
  try rw [hw0]
  go_fit (shape07_any w0)
  rintro e1 w1 ⟨rfl, hb1⟩
  have hZ1 := hZ.below hb1
  have hb01 := hb0.trans (hb1.mono hb0.size)
  go_wp2_with fail
  go_fit (group07_any w1)
  rintro e1 w2 ⟨G, rfl, hGr, hGl, hb2⟩
  have hZ2 := hZ1.below hb2
  have hb02 := hb01.trans (hb2.mono hb01.size)
  have zs := hb01.size
  have hlt := hZ1.lt
  clear hZ hZ1 hb0 hb1 hw0
  go_wp2_with (first | (with_reducible refine stop_store 33 rfl ?_))
  refine go_store rfl rfl rfl rfl rfl hZ2 (by kernel_rfl) rfl (us := [.int .i64 nd, .int .i64 nm, .int .i64 0, .int .i64 0, .int .i64 6, .int .i64 2, .slice none 0 0, .slice none 0 0, .int .i64 0, .slice G 3 3, .slice A n c]) (by intro u hu; simp only [List.mem_cons, List.not_mem_nil, or_false] at hu; rcases hu with rfl | rfl | rfl | rfl | rfl | rfl | rfl | rfl | rfl | rfl | rfl <;> rfl) ?_
  go_wp2
  refine bodyPost_ret (results_cell rfl rfl (hZ2.setAll [.int .i64 nd, .int .i64 nm, .int .i64 0, .int .i64 0, .int .i64 6, .int .i64 2, .slice none 0 0, .slice none 0 0, .int .i64 0, .slice G 3 3, .slice A n c]) Try.underlying33 rfl (by kernel_rfl)) rfl ?_
  have hb3 : Below w.heap.size w (w2.setRow g #[.int .i64 nd, .int .i64 nm, .int .i64 0, .int .i64 0, .int .i64 6, .int .i64 2, .slice none 0 0, .slice none 0 0, .int .i64 0, .slice G 3 3, .slice A n c]) := below_setRow hb02 (by omega) _
  have hF : Fr (fun k => k = g) w2 (w2.setRow g #[.int .i64 nd, .int .i64 nm, .int .i64 0, .int .i64 0, .int .i64 6, .int .i64 2, .slice none 0 0, .slice none 0 0, .int .i64 0, .slice G 3 3, .slice A n c]) := ⟨rfl, rfl, rfl, by simp [World.setRow], fun k _ hk => heap_setRow_other w2 g k _ (fun e => hk e)⟩
  have hG3 := hGr.fr hF (fun _ a ha hx => by have := hGl a ha; have hx' : a.block = g := hx; omega)
  refine ⟨G, rfl, ?_, hb3⟩
  obtain ⟨vs, e1, e2, e3, e4, e5, e6⟩ := row_out (HE.out.below hb3)
  exact Tail_mk h1 h2 h3 h4 (by omega) (by omega) (by omega) (by omega) (by omega) (by omega) (by omega) (by omega) rfl (by omega) (by omega) Rd.nil (fun h => absurd rfl h) Ty.Rows.nil rfl (by omega) (by omega) Rd.nil (fun h => absurd rfl h) Ty.Rows.nil (by omega) (by omega) rfl (by omega) (by omega) hG3 (fun _ _ _ => trivial) (i64rows_mk (by decide)) e1 e2 e3 e4 (fun _ _ _ => trivial) e6.any
end Go.Proofs.Ytfjffmjnnjckkaa
