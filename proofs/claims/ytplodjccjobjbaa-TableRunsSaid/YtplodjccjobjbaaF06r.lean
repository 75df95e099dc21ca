/- plinthref06.Right. -/
import Derived.Test.YtplodjccjobjbaaF06m
import Derived.Test.YtplodjccjobjbaaQui
namespace Go.Proofs.Ytplodjccjobjbaa
open Go.RowKit Go.Px Go.Maps
set_option linter.unusedVariables false
set_option maxRecDepth 20000 in
set_option maxHeartbeats 3200000 in
theorem right_any (A : Option Addr) (n c : Nat) (cs : List Value) (es : List RowT) (Q : Nat → Prop) (w : World) (hn : es.length = n) (hr : Rd w A cs) (hE : RwRows w Q cs es) :
    Calls Try.prog 22 #[.slice A n c] w fun e w' => e = .returned (.bool (rowsB es)) ∧ Below w.heap.size w w' := by
  by_cases h64 : n ≤ 64
  case neg =>
    have hf := hide (show rowsB es = false by unfold rowsB; rw [hn, decide_eq_false h64]; rfl)
    go_enter Try.func22, Try.ntmps22
    go_wp2
    go_ret
    exact ⟨by rw [hf.out]; rfl, Below.refl _ _⟩
  have hrb : rowsB es = okL 0 es := by unfold rowsB; rw [hn, decide_eq_true h64]; rfl
  have hl := hE.1
  go_enter Try.func22, Try.ntmps22
  go_wp2
  go_loopw [3] (fun i wr => ∃ (k : Nat) (ah : Int), k ≤ n ∧ i = .int .i64 k ∧ (∀ j e, k = j + 1 → es[j]? = some e → ah = e.1) ∧ (k = 0 → ah = 0) ∧ rowsB es = okL ah (es.drop k) ∧ Below w.heap.size w wr) (fun i _ => n - (intOf i).toNat)
  case atStart => exact ⟨0, 0, by omega, rfl, fun j e h => by omega, fun _ => rfl, hrb, Below.refl _ _⟩
  case round =>
    obtain ⟨k, ah, hk, rfl, hah, hah0, hm, hB⟩ := hrel
    by_cases hlt : k < n
    · obtain ⟨e, he⟩ : ∃ e, es[k]? = some e := ⟨_, List.getElem?_eq_getElem (by omega)⟩
      obtain ⟨a, rfl, hat⟩ := (hr.below hB).some_of (xs := cs) (by omega)
      obtain ⟨A', d, dc, y0, y1, y2, y3, hk8, hd, hdc, hdm, hrd, hq⟩ := ((hE.below hB).2 k e he).cells hat
      rw [drop_cons he] at hm
      have hnx : ∀ j e', k + 1 = j + 1 → es[j]? = some e' → e.1 = e'.1 := fun j e' hj he' => by
        obtain rfl : j = k := by omega
        rw [he] at he'; injection he' with he'; rw [he']
      have Hnx := hide hnx
      have hkI : (k : Int) < (n : Int) := by omega
      have z0 : ∀ x : InC (fun W => Below wr.heap.size wr W), x.W.cell? (a.add (k * 4)) = some (.int .i64 e.1) := fun x => below_cell x.h y0
      have z1 : ∀ x : InC (fun W => Below wr.heap.size wr W), x.W.cell? ⟨(a.add (k * 4)).block, (a.add (k * 4)).off + 1, none⟩ = some (.int .i64 e.2.1) := fun x => below_cell x.h y1
      have z2 : ∀ x : InC (fun W => Below wr.heap.size wr W), x.W.cell? ⟨(a.add (k * 4)).block, (a.add (k * 4)).off + 2, none⟩ = some (.int .u8 e.2.2.1) := fun x => below_cell x.h y2
      have z3 : ∀ x : InC (fun W => Below wr.heap.size wr W), x.W.cell? ⟨(a.add (k * 4)).block, (a.add (k * 4)).off + 3, none⟩ = some (.slice A' d dc) := fun x => below_cell x.h y3
      obtain ⟨cl, s, kd, bs⟩ := e
      simp only at z0 z1 z2 hk8 hd hrd hq
      clear hq hrd y0 y1 y2 y3 hnx
      have Hd := hide hd
      clear hd
      have hb1 : ∀ X, Below wr.heap.size wr X → Below w.heap.size w X := fun X hX => hB.trans (hX.mono hB.size)
      have Hb := hide hb1
      clear hb1
      have HN := hide number6_any
      cases c2 : serB cl with
      | false =>
        have hf := hide (hm.trans (okL_no (okB_no2 c2)))
        have Hc2 := hide c2
        clear hm hah hah0 c2 he
        go_wp2_with fail
        refine wp_region_in (fun W => Below wr.heap.size wr W) (Below.refl _ _).drew (by kernel_rfl) (by kernel_rfl) ?_
        repeat (go_big_quiet_step (first
          | (go_at_call_of 37 (Value.int .i64 cl); have hh := HN.out cl; rw [Hc2.out] at hh; exact Calls.in_same (hh _))))
        refine wpQuiet_nil ?_
        intro _ hw'
        obtain ⟨nq, hw''⟩ := hw'
        subst hw''
        have hbq := nq.h
        go_wp2
        go_ret
        exact ⟨by rw [hf.out]; rfl, Hb.out _ hbq⟩
      | true =>
        have Hc2 := hide c2
        cases c3 : serB s with
        | false =>
          have hf := hide (hm.trans (okL_no (okB_no3 c3)))
          have Hc3 := hide c3
          clear hm hah hah0 c2 c3 he
          go_wp2_with fail
          refine wp_region_in (fun W => Below wr.heap.size wr W) (Below.refl _ _).drew (by kernel_rfl) (by kernel_rfl) ?_
          repeat (go_big_quiet_step (first
            | (go_at_call_of 37 (Value.int .i64 cl); have hh := HN.out cl; rw [Hc2.out] at hh; exact Calls.in_same (hh _))
            | (go_at_call_of 37 (Value.int .i64 s); have hh := HN.out s; rw [Hc3.out] at hh; exact Calls.in_same (hh _))))
          refine wpQuiet_nil ?_
          intro _ hw'
          obtain ⟨nq, hw''⟩ := hw'
          subst hw''
          have hbq := nq.h
          go_wp2
          go_ret
          exact ⟨by rw [hf.out]; rfl, Hb.out _ hbq⟩
        | true =>
          have Hc3 := hide c3
          by_cases hk0 : k = 0
          · obtain rfl := hah0 hk0
            have g1 : decide (0 < k) = false := decide_eq_false (by omega)
            have hah1 : ¬ cl ≤ 0 := by have := serB_out c2; omega
            have Hk0 := hide hk0
            clear hah hah0 he hk0
            obtain ⟨R, hRR⟩ : ∃ R, rsE kd d = R := ⟨_, rfl⟩
            by_cases c4 : R = 0
            · have hf := hide (hm.trans (okL_step (okB_mk Hd.out hah1 c2 c3 (hRR.trans c4))))
              have Hc4 := hide (hRR.trans c4)
              subst c4
              clear hm c2 c3 hRR
              go_wp2_with fail
              refine wp_region_in (fun W => Below wr.heap.size wr W) (Below.refl _ _).drew (by kernel_rfl) (by kernel_rfl) ?_
              repeat (go_big_quiet_step (first
                | (go_at_call_of 37 (Value.int .i64 cl); have hh := HN.out cl; rw [Hc2.out] at hh; exact Calls.in_same (hh _))
                | (go_at_call_of 37 (Value.int .i64 s); have hh := HN.out s; rw [Hc3.out] at hh; exact Calls.in_same (hh _))
                | (go_at_call 38; have hh := fun W => rresult_any kd A' d dc W hk8; rw [Hc4.out] at hh; exact Calls.in_below (hh _))))
              refine wpQuiet_nil ?_
              intro _ hw'
              obtain ⟨nq, hw''⟩ := hw'
              subst hw''
              have hbq := nq.h
              go_wp2
              go_roundw
              case rel => exact ⟨k + 1, cl, by omega, by go_num, Hnx.out, fun h0 => by omega, hf.out, Hb.out _ hbq⟩
              case measure => simp [intOf]; omega
            · have hf := hide (hm.trans (okL_no (okB_no4 Hd.out (by rw [hRR]; exact c4))))
              have Hc4 := hide hRR
              have q4 : (R != 0) = true := by simpa using c4
              clear hm c2 c3 hRR c4
              go_wp2_with fail
              refine wp_region_in (fun W => Below wr.heap.size wr W) (Below.refl _ _).drew (by kernel_rfl) (by kernel_rfl) ?_
              repeat (go_big_quiet_step (first
                | (go_at_call_of 37 (Value.int .i64 cl); have hh := HN.out cl; rw [Hc2.out] at hh; exact Calls.in_same (hh _))
                | (go_at_call_of 37 (Value.int .i64 s); have hh := HN.out s; rw [Hc3.out] at hh; exact Calls.in_same (hh _))
                | (go_at_call 38; have hh := fun W => rresult_any kd A' d dc W hk8; rw [Hc4.out] at hh; exact Calls.in_below (hh _))))
              refine wpQuiet_nil ?_
              intro _ hw'
              obtain ⟨nq, hw''⟩ := hw'
              subst hw''
              have hbq := nq.h
              go_wp2
              go_ret
              exact ⟨by rw [hf.out]; rfl, Hb.out _ hbq⟩
          · obtain ⟨e1, he1⟩ : ∃ e, es[k - 1]? = some e := ⟨_, List.getElem?_eq_getElem (by omega)⟩
            have hae := hah (k - 1) e1 (by omega) he1
            subst hae
            have g1 : decide (0 < k) = true := decide_eq_true (by omega)
            have g2 : (0 : Int) < (k : Int) := by omega
            obtain ⟨_, _, _, y4, _⟩ := ((hE.below hB).2 (k - 1) e1 he1).cells hat
            have z4 : ∀ x : InC (fun W => Below wr.heap.size wr W), x.W.cell? (a.add ((k - 1) * 4)) = some (.int .i64 e1.1) := fun x => below_cell x.h y4
            have g3 : ((k : Int) - 1).toNat = k - 1 := by omega
            have g4 : IntKind.i64.wrap ((k : Int) - 1) = (k : Int) - 1 := IntWalk.i64_in _ (by omega)
            have g5 : (0 : Int) ≤ (k : Int) - 1 := by omega
            have g6 : (k : Int) - 1 < (n : Int) := by omega
            obtain ⟨ah, _⟩ := e1
            simp only at z4 hm
            clear hah hah0 he he1 y4 hk0
            by_cases c1 : cl ≤ ah
            · have hf := hide (hm.trans (okL_no (okB_no1 c1)))
              clear hm c2 c3
              go_wp2_with fail
              refine wp_region_in (fun W => Below wr.heap.size wr W) (Below.refl _ _).drew (by kernel_rfl) (by kernel_rfl) ?_
              repeat (go_big_quiet_step (first
                | (go_at_call_of 37 (Value.int .i64 cl); have hh := HN.out cl; rw [Hc2.out] at hh; exact Calls.in_same (hh _))
                | (go_at_call_of 37 (Value.int .i64 s); have hh := HN.out s; rw [Hc3.out] at hh; exact Calls.in_same (hh _))))
              refine wpQuiet_nil ?_
              intro _ hw'
              obtain ⟨nq, hw''⟩ := hw'
              subst hw''
              have hbq := nq.h
              go_wp2
              go_ret
              exact ⟨by rw [hf.out]; rfl, Hb.out _ hbq⟩
            · have g7 : decide (cl ≤ ah) = false := decide_eq_false c1
              have hah1 := c1
              clear c1
              obtain ⟨R, hRR⟩ : ∃ R, rsE kd d = R := ⟨_, rfl⟩
              by_cases c4 : R = 0
              · have hf := hide (hm.trans (okL_step (okB_mk Hd.out hah1 c2 c3 (hRR.trans c4))))
                have Hc4 := hide (hRR.trans c4)
                subst c4
                clear hm c2 c3 hRR hah1
                go_wp2_with fail
                refine wp_region_in (fun W => Below wr.heap.size wr W) (Below.refl _ _).drew (by kernel_rfl) (by kernel_rfl) ?_
                repeat (go_big_quiet_step (first
                  | (go_at_call_of 37 (Value.int .i64 cl); have hh := HN.out cl; rw [Hc2.out] at hh; exact Calls.in_same (hh _))
                  | (go_at_call_of 37 (Value.int .i64 s); have hh := HN.out s; rw [Hc3.out] at hh; exact Calls.in_same (hh _))
                  | (go_at_call 38; have hh := fun W => rresult_any kd A' d dc W hk8; rw [Hc4.out] at hh; exact Calls.in_below (hh _))))
                refine wpQuiet_nil ?_
                intro _ hw'
                obtain ⟨nq, hw''⟩ := hw'
                subst hw''
                have hbq := nq.h
                go_wp2
                go_roundw
                case rel => exact ⟨k + 1, cl, by omega, by go_num, Hnx.out, fun h0 => by omega, hf.out, Hb.out _ hbq⟩
                case measure => simp [intOf]; omega
              · have hf := hide (hm.trans (okL_no (okB_no4 Hd.out (by rw [hRR]; exact c4))))
                have Hc4 := hide hRR
                have q4 : (R != 0) = true := by simpa using c4
                clear hm c2 c3 hRR hah1 c4
                go_wp2_with fail
                refine wp_region_in (fun W => Below wr.heap.size wr W) (Below.refl _ _).drew (by kernel_rfl) (by kernel_rfl) ?_
                repeat (go_big_quiet_step (first
                  | (go_at_call_of 37 (Value.int .i64 cl); have hh := HN.out cl; rw [Hc2.out] at hh; exact Calls.in_same (hh _))
                  | (go_at_call_of 37 (Value.int .i64 s); have hh := HN.out s; rw [Hc3.out] at hh; exact Calls.in_same (hh _))
                  | (go_at_call 38; have hh := fun W => rresult_any kd A' d dc W hk8; rw [Hc4.out] at hh; exact Calls.in_below (hh _))))
                refine wpQuiet_nil ?_
                intro _ hw'
                obtain ⟨nq, hw''⟩ := hw'
                subst hw''
                have hbq := nq.h
                go_wp2
                go_ret
                exact ⟨by rw [hf.out]; rfl, Hb.out _ hbq⟩
    · obtain rfl : k = n := by omega
      have hf := hide (show rowsB es = true by rw [hm, List.drop_eq_nil_of_le (by omega)]; rfl)
      clear hm
      go_wp2
      go_ret
      exact ⟨by rw [hf.out]; rfl, hB⟩
end Go.Proofs.Ytplodjccjobjbaa
