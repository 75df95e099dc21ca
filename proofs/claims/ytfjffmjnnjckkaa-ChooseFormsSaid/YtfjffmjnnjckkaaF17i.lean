/- Stage 17: plinthref15.At (written by gen_17h.py). -/
import Derived.Test.YtfjffmjnnjckkaaF17d
namespace Go.Proofs.Ytfjffmjnnjckkaa
set_option maxRecDepth 20000
open Go.RowKit Go.Px Go.Maps
set_option linter.unusedVariables false
set_option linter.unusedSimpArgs false
theorem rowAt_at2 {t : Ty} {w wr : World} {B : Nat} {A : Option Addr} {n : Nat} {xs : List t.Den} {vs : List Value} (h : RowAt t w B A n xs vs) (ht : 0 < t.n) (hb : Below B w wr) {k : Nat} (hk : k < n) :
    ∃ x a cs, xs[k]? = some x ∧ A = some a ∧ t.Is w (fun b => b < B) x cs ∧ (∀ (j : Nat) (u : Value), vs[j]? = some u → wr.cell? (a.add j) = some u) ∧ ∀ (i : Nat) (u : Value), cs[i]? = some u → vs[t.n * k + i]? = some u := by
  have hk' : k < xs.length := by rw [h.len]; exact hk
  have hne : xs ≠ [] := fun e => by rw [e] at hk'; simp at hk'
  have hr := h.rd.lo (fun a ha => h.lo hne a ha) hb
  obtain ⟨cs, hI, hc⟩ := h.rows.get (List.getElem?_eq_getElem hk')
  obtain ⟨a, rfl, hat⟩ := hr.some_of (by
    have h1 := h.rows.1
    rw [h1]
    exact Nat.mul_pos ht (by omega))
  exact ⟨_, a, cs, List.getElem?_eq_getElem hk', rfl, hI, hat, hc⟩
theorem entry_zero {w : World} {Q : Nat → Prop} : tyEntry.Is w Q (0, 0, 0, 0, 0, (0, 0, 0, [], []), 0, []) [.int .u8 0, .int .i64 0, .int .i64 0, .int .i64 0, .int .i64 0, .int .u8 0, .int .i64 0, .int .i64 0, .slice none 0 0, .slice none 0 0, .int .i64 0, .slice none 0 0] :=
  Entry_mk (by omega) (by omega) (by omega) (by omega) (by omega) (by omega) (by omega) (by omega) (by omega) (by omega) (by omega) (by omega) (by omega) (by omega) rfl (by omega) (by omega) Rd.nil (fun h => absurd rfl h) rfl (by omega) (by omega) Rd.nil (fun h => absurd rfl h) (by omega) (by omega) rfl (by omega) (by omega) Rd.nil (fun h => absurd rfl h) (Ty.Rows.nil)
set_option maxRecDepth 20000 in
set_option maxHeartbeats 12800000 in
theorem rat_any {w w9 : World} {Q : Nat → Prop} {x : LedgerD} {cs : List Value} (h : tyLedger.Is w9 Q x cs) (hW : Below w9.heap.size w9 w) (num : Int) : Calls Try.prog 46 #[.agg cs.toArray, .int .i64 num] w fun e w' => ∃ y es b, e = .returned (.tuple #[.agg es.toArray, .bool b]) ∧ tyEntry.Is w9 (fun _ => True) y es ∧ (b = true → atF x.2 num = some y) ∧ (b = false → atF x.2 num = none) ∧ Below w.heap.size w w' := by
  obtain ⟨xStateNum, xStateShapeBlocks, xStateShapeSize, xStatePages, xStatePagesA, xStatePagesn, xStatePagesc, xStatePagesv, xStateRows, xStateRowsA, xStateRowsn, xStateRowsc, xStateRowsv, xStateGroupEpoch, xStateGroupMembers, xStateGroupMembersA, xStateGroupMembersn, xStateGroupMembersc, xStateGroupMembersv, xLog, xLogA, xLogn, xLogc, xLogv, rfl, rfl, h1_xStateNum, h2_xStateNum, h1_xStateShapeBlocks, h2_xStateShapeBlocks, h1_xStateShapeSize, h2_xStateShapeSize, hl_xStatePages, hc_xStatePages, hm_xStatePages, hr_xStatePages, hq_xStatePages, he_xStatePages, hl_xStateRows, hc_xStateRows, hm_xStateRows, hr_xStateRows, hq_xStateRows, he_xStateRows, h1_xStateGroupEpoch, h2_xStateGroupEpoch, hl_xStateGroupMembers, hc_xStateGroupMembers, hm_xStateGroupMembers, hr_xStateGroupMembers, hq_xStateGroupMembers, he_xStateGroupMembers, hl_xLog, hc_xLog, hm_xLog, hr_xLog, hq_xLog, he_xLog⟩ := Ledger_out h
  have hA9 := rowAt_of (t := tyEntry) (by decide) hl_xLog hr_xLog he_xLog
  have Hl := hide hl_xLog
  have h63 : xLogn ≤ 9223372036854775807 := by omega
  clear hl_xStatePages hr_xStatePages hq_xStatePages he_xStatePages hl_xStateRows hr_xStateRows hq_xStateRows he_xStateRows hl_xStateGroupMembers hr_xStateGroupMembers hq_xStateGroupMembers he_xStateGroupMembers hl_xLog hr_xLog hq_xLog he_xLog
  obtain ⟨g, hg⟩ : ∃ g, w.heap.size = g := ⟨_, rfl⟩
  obtain ⟨w0, hw0⟩ : ∃ x, (w.alloc (.cells #[.int .i64 xStateNum, .int .i64 xStateShapeBlocks, .int .i64 xStateShapeSize, .slice xStatePagesA xStatePagesn xStatePagesc, .slice xStateRowsA xStateRowsn xStateRowsc, .int .i64 xStateGroupEpoch, .slice xStateGroupMembersA xStateGroupMembersn xStateGroupMembersc, .slice xLogA xLogn xLogc] 42)).alloc (.cells #[.int .u8 0, .int .i64 0, .int .i64 0, .int .i64 0, .int .i64 0, .int .u8 0, .int .i64 0, .int .i64 0, .slice none 0 0, .slice none 0 0, .int .i64 0, .slice none 0 0] 58) = x := ⟨_, rfl⟩
  have hP : Blk w0 g [.int .i64 xStateNum, .int .i64 xStateShapeBlocks, .int .i64 xStateShapeSize, .slice xStatePagesA xStatePagesn xStatePagesc, .slice xStateRowsA xStateRowsn xStateRowsc, .int .i64 xStateGroupEpoch, .slice xStateGroupMembersA xStateGroupMembersn xStateGroupMembersc, .slice xLogA xLogn xLogc] 42 := by rw [← hw0, ← hg]; exact (Blk.new w [.int .i64 xStateNum, .int .i64 xStateShapeBlocks, .int .i64 xStateShapeSize, .slice xStatePagesA xStatePagesn xStatePagesc, .slice xStateRowsA xStateRowsn xStateRowsc, .int .i64 xStateGroupEpoch, .slice xStateGroupMembersA xStateGroupMembersn xStateGroupMembersc, .slice xLogA xLogn xLogc] _).alloc _
  have hZ : Blk w0 (g + 1) [.int .u8 0, .int .i64 0, .int .i64 0, .int .i64 0, .int .i64 0, .int .u8 0, .int .i64 0, .int .i64 0, .slice none 0 0, .slice none 0 0, .int .i64 0, .slice none 0 0] 58 := by
    rw [← hw0, ← hg]
    have := Blk.new (w.alloc (.cells #[.int .i64 xStateNum, .int .i64 xStateShapeBlocks, .int .i64 xStateShapeSize, .slice xStatePagesA xStatePagesn xStatePagesc, .slice xStateRowsA xStateRowsn xStateRowsc, .int .i64 xStateGroupEpoch, .slice xStateGroupMembersA xStateGroupMembersn xStateGroupMembersc, .slice xLogA xLogn xLogc] 42)) [.int .u8 0, .int .i64 0, .int .i64 0, .int .i64 0, .int .i64 0, .int .u8 0, .int .i64 0, .int .i64 0, .slice none 0 0, .slice none 0 0, .int .i64 0, .slice none 0 0] 58
    rwa [World.size_alloc] at this
  have hb0 : Below w.heap.size w w0 := by rw [← hw0]; exact ((Below.refl _ _).alloc (Nat.le_refl _) _).alloc (by simp) _
  have hW0 : Below w9.heap.size w9 w0 := hW.trans (hb0.mono hW.size)
  have y7 := hP.cell (j := 7) rfl
  have Hg := hide hg
  have Hw0 := hide hw0
  clear hw0
  go_enter Try.func46, Try.ntmps46
  go_wp2_with fail
  rw [Hw0.out]
  go_loopw [6] (fun iv wr => ∃ k : Nat, k ≤ xLogn ∧ iv = .int .i64 k ∧ wr = w0 ∧ Hid (atK xLog num k)) (fun iv _ => xLogn - (intOf iv).toNat)
  case atStart => exact ⟨0, by omega, rfl, rfl, hide (fun j e hj => by omega)⟩
  case round =>
    obtain ⟨k, hk, rfl, rfl, HK⟩ := hrel
    by_cases hlt : k < xLogn
    · have hkI : (k : Int) < (xLogn : Int) := by omega
      obtain ⟨e, p, cs, he, hAp, hI, hat, hc⟩ := rowAt_at2 hA9 (by decide) hW0 hlt
      subst hAp
      have hI' := hI
      obtain ⟨eKind, eNum, eView, eClient, eSerial, eOpKind, eOpAt, eOpN, eOpData, eOpDataA, eOpDatan, eOpDatac, eOpOld, eOpOldA, eOpOldn, eOpOldc, eGroupEpoch, eGroupMembers, eGroupMembersA, eGroupMembersn, eGroupMembersc, eGroupMembersv, rfl, rfl, hu_eKind, h1_eNum, h2_eNum, h1_eView, h2_eView, h1_eClient, h2_eClient, h1_eSerial, h2_eSerial, hu_eOpKind, h1_eOpAt, h2_eOpAt, h1_eOpN, h2_eOpN, hl_eOpData, hc_eOpData, hm_eOpData, hr_eOpData, hq_eOpData, hl_eOpOld, hc_eOpOld, hm_eOpOld, hr_eOpOld, hq_eOpOld, h1_eGroupEpoch, h2_eGroupEpoch, hl_eGroupMembers, hc_eGroupMembers, hm_eGroupMembers, hr_eGroupMembers, hq_eGroupMembers, he_eGroupMembers⟩ := Entry_out hI'
      have z0 := el_0 (n := 12) hat (hc 0 _ rfl); have z1 := el_S (n := 12) (i := 0) hat (hc 1 _ rfl); have z2 := el_S (n := 12) (i := 1) hat (hc 2 _ rfl); have z3 := el_S (n := 12) (i := 2) hat (hc 3 _ rfl); have z4 := el_S (n := 12) (i := 3) hat (hc 4 _ rfl); have z5 := el_S (n := 12) (i := 4) hat (hc 5 _ rfl); have z6 := el_S (n := 12) (i := 5) hat (hc 6 _ rfl); have z7 := el_S (n := 12) (i := 6) hat (hc 7 _ rfl); have z8 := el_S (n := 12) (i := 7) hat (hc 8 _ rfl); have z9 := el_S (n := 12) (i := 8) hat (hc 9 _ rfl); have z10 := el_S (n := 12) (i := 9) hat (hc 10 _ rfl); have z11 := el_S (n := 12) (i := 10) hat (hc 11 _ rfl)
      have HT := hide he
      clear hat hc he
      have hone := hI.ones
      have hIa := hI.any
      rcases bool_two (eNum == num) with q | q
      · have HF := hide (atF_some HK.out HT.out (beq_iff_eq.1 q))
        clear hI
        go_wp2_with (first | (with_reducible refine stop_store 58 rfl ?_))
        refine go_store rfl rfl rfl rfl rfl hZ (by kernel_rfl) rfl hone ?_
        go_wp2
        refine bodyPost_ret (results_cell2 rfl rfl (hZ.setAll [.int .u8 eKind, .int .i64 eNum, .int .i64 eView, .int .i64 eClient, .int .i64 eSerial, .int .u8 eOpKind, .int .i64 eOpAt, .int .i64 eOpN, .slice eOpDataA eOpDatan eOpDatac, .slice eOpOldA eOpOldn eOpOldc, .int .i64 eGroupEpoch, .slice eGroupMembersA eGroupMembersn eGroupMembersc]) Try.underlying58 rfl (by kernel_rfl)) rfl ?_
        exact ⟨_, _, true, rfl, hIa, fun _ => HF.out, fun h => (by cases h), below_setRow hb0 (by have := Hg.out; omega) _⟩
      · have HN := hide (show atK xLog num (k + 1) from fun j e hj he => by
          rcases Nat.lt_or_ge j k with h' | h'
          · exact HK.out j e h' he
          · rw [show j = k by omega, HT.out] at he
            injection he with he
            rw [← he]
            exact beq_eq_false_iff_ne.1 q)
        clear hI
        go_wp2
        go_roundw
        case rel => exact ⟨k + 1, by omega, by go_num, by first | exact rfl | trivial, HN⟩
        case measure => simp [intOf]; omega
    · obtain rfl : k = xLogn := by omega
      have HF := hide (atF_none (by rw [Hl.out]; exact HK.out))
      go_wp2_with (first | (with_reducible refine stop_store 58 rfl ?_))
      refine go_store rfl rfl rfl rfl rfl hZ (by kernel_rfl) rfl (us := [.int .u8 0, .int .i64 0, .int .i64 0, .int .i64 0, .int .i64 0, .int .u8 0, .int .i64 0, .int .i64 0, .slice none 0 0, .slice none 0 0, .int .i64 0, .slice none 0 0]) (by intro u hu; simp only [List.mem_cons, List.not_mem_nil, or_false] at hu; rcases hu with rfl | rfl | rfl | rfl | rfl | rfl | rfl | rfl | rfl | rfl | rfl | rfl <;> rfl) ?_
      go_wp2
      refine bodyPost_ret (results_cell2 rfl rfl (hZ.setAll [.int .u8 0, .int .i64 0, .int .i64 0, .int .i64 0, .int .i64 0, .int .u8 0, .int .i64 0, .int .i64 0, .slice none 0 0, .slice none 0 0, .int .i64 0, .slice none 0 0]) Try.underlying58 rfl (by kernel_rfl)) rfl ?_
      exact ⟨_, _, false, rfl, entry_zero, fun h => (by cases h), fun _ => HF.out, below_setRow hb0 (by have := Hg.out; omega) _⟩
end Go.Proofs.Ytfjffmjnnjckkaa
