/- may.Rows: which rows may be a table's. -/
import Derived.Test.YtplodjccjobjbaaF06k
namespace Go.Proofs.Ytplodjccjobjbaa
open Go.RowKit Go.Px Go.Maps
set_option linter.unusedVariables false
theorem okL_step {a : Int} {e : RowT} {es : List RowT} (h : okB a e = true) : okL a (e :: es) = okL e.1 es := by
  show (okB a e && okL e.1 es) = _
  rw [h, Bool.true_and]
theorem okL_no {a : Int} {e : RowT} {es : List RowT} (h : okB a e = false) : okL a (e :: es) = false := by
  show (okB a e && okL e.1 es) = _
  rw [h, Bool.false_and]
theorem drop_cons {α : Type} {l : List α} {k : Nat} {x : α} (h : l[k]? = some x) : l.drop k = x :: l.drop (k + 1) := by
  have hk : k < l.length := (List.getElem?_eq_some_iff.1 h).1
  rw [List.drop_eq_getElem_cons hk]
  rw [List.getElem?_eq_getElem hk] at h
  injection h with h
  rw [h]
theorem okB_mk {a c s : Int} {k : Nat} {bs : List UInt8} {d : Nat} (hd : bs.length = d) (h1 : ¬ c ≤ a) (h2 : serB c = true) (h3 : serB s = true) (h4 : rsE k d = 0) : okB a (c, s, k, bs) = true := by
  unfold okB
  simp only [h2, h3, hd, h4]
  simp; omega
theorem okB_no1 {a c s : Int} {k : Nat} {bs : List UInt8} (h1 : c ≤ a) : okB a (c, s, k, bs) = false := by
  unfold okB
  rw [decide_eq_false (by show ¬ a < c; omega)]; rfl
theorem okB_no2 {a c s : Int} {k : Nat} {bs : List UInt8} (h1 : serB c = false) : okB a (c, s, k, bs) = false := by
  unfold okB
  simp only [h1]; simp
theorem okB_no3 {a c s : Int} {k : Nat} {bs : List UInt8} (h1 : serB s = false) : okB a (c, s, k, bs) = false := by
  unfold okB
  simp only [h1]; simp
theorem okB_no4 {a c s : Int} {k : Nat} {bs : List UInt8} {d : Nat} (hd : bs.length = d) (h1 : rsE k d ≠ 0) : okB a (c, s, k, bs) = false := by
  unfold okB
  simp only [hd]
  rw [show (rsE k d == 0) = false by simpa using h1]; simp
set_option maxHeartbeats 3200000 in
theorem mayRows_any (A : Option Addr) (n c : Nat) (cs : List Value) (es : List RowT) (Q : Nat → Prop) (w : World) (hn : es.length = n) (hr : Rd w A cs) (hE : RwRows w Q cs es) :
    Calls Try.prog 36 #[.slice A n c] w fun e w' => e = .returned (.bool (rowsB es)) ∧ Below w.heap.size w w' := by
  by_cases h64 : n ≤ 64
  case neg =>
    have hf := hide (show rowsB es = false by unfold rowsB; rw [hn, decide_eq_false h64]; rfl)
    go_enter Try.func36, Try.ntmps36
    go_wp2
    go_ret
    exact ⟨by rw [hf.out]; rfl, Below.refl _ _⟩
  have hrb : rowsB es = okL 0 es := by unfold rowsB; rw [hn, decide_eq_true h64]; rfl
  have hl := hE.1
  go_enter Try.func36, Try.ntmps36
  go_wp2
  go_loopw [3, 11] (fun a i wr => ∃ (k : Nat) (ah : Int), k ≤ n ∧ i = .int .i64 k ∧ a = .int .i64 ah ∧ rowsB es = okL ah (es.drop k) ∧ Below w.heap.size w wr) (fun _ i _ => n - (intOf i).toNat)
  case atStart => exact ⟨0, 0, by omega, rfl, rfl, hrb, Below.refl _ _⟩
  case round =>
    obtain ⟨k, ah, hk, rfl, rfl, hm, hB⟩ := hrel
    by_cases hlt : k < n
    · obtain ⟨e, he⟩ : ∃ e, es[k]? = some e := ⟨_, List.getElem?_eq_getElem (by omega)⟩
      obtain ⟨a, rfl, hat⟩ := (hr.below hB).some_of (xs := cs) (by omega)
      obtain ⟨A', d, dc, y0, y1, y2, y3, hk8, hd, hdc, hdm, hrd, hq⟩ := ((hE.below hB).2 k e he).cells hat
      rw [drop_cons he] at hm
      obtain ⟨cl, s, kd, bs⟩ := e
      simp only at y0 y1 y2 hk8 hd hrd hq
      clear hq hat he hrd
      have Hd := hide hd
      clear hd
      have hb1 : ∀ X, Below wr.heap.size wr X → Below w.heap.size w X := fun X hX => hB.trans (hX.mono hB.size)
      have Hb := hide hb1
      clear hb1
      obtain ⟨wa, hwa⟩ : ∃ x, wr.alloc (.cells #[.int .i64 cl, .int .i64 s, .int .u8 kd, .slice A' d dc] 68) = x := ⟨_, rfl⟩
      obtain ⟨g, hg⟩ : ∃ x, wr.heap.size = x := ⟨_, rfl⟩
      have hS : Blk wa g [.int .i64 cl, .int .i64 s, .int .u8 kd, .slice A' d dc] 68 := by rw [← hwa, ← hg]; exact Blk.new wr [.int .i64 cl, .int .i64 s, .int .u8 kd, .slice A' d dc] _
      have hba : Below wr.heap.size wr wa := by rw [← hwa]; exact (Below.refl _ _).alloc (Nat.le_refl _) _
      have Hwa := hide hwa
      clear hwa
      by_cases c1 : cl ≤ ah
      · have hf := hide (hm.trans (okL_no (okB_no1 c1)))
        clear hm
        go_wp2
        go_ret
        exact ⟨by rw [hf.out]; rfl, Hb.out _ (by rw [Hwa.out]; exact hba)⟩
      · go_wp2_with fail
        rw [Hwa.out]
        go_fit (serial_any cl _)
        cases c2 : serB cl with
        | false =>
          have hf := hide (hm.trans (okL_no (okB_no2 c2)))
          clear hm c2
          rintro x w1 ⟨rfl, rfl⟩
          go_wp2
          go_ret
          exact ⟨by rw [hf.out]; rfl, Hb.out _ hba⟩
        | true =>
          rintro x w1 ⟨rfl, rfl⟩
          have s0 := hS.cell (j := 0) rfl
          have s1 := hS.cell (j := 1) rfl
          have s2 := hS.cell (j := 2) rfl
          have s3 := hS.cell (j := 3) rfl
          go_wp2_with fail
          go_fit (serial_any s _)
          cases c3 : serB s with
          | false =>
            have hf := hide (hm.trans (okL_no (okB_no3 c3)))
            clear hm c3
            rintro x w1 ⟨rfl, rfl⟩
            go_wp2
            go_ret
            exact ⟨by rw [hf.out]; rfl, Hb.out _ hba⟩
          | true =>
            rintro x w1 ⟨rfl, rfl⟩
            go_wp2_with fail
            go_fit (result_any kd A' d dc _ hk8)
            obtain ⟨R, hRR⟩ : ∃ R, rsE kd d = R := ⟨_, rfl⟩
            by_cases c4 : R = 0
            · have hf := hide (hm.trans (okL_step (okB_mk Hd.out (by omega) c2 c3 (hRR.trans c4))))
              rw [hRR]
              subst c4
              clear hm c2 c3 hRR
              rintro x w2 ⟨rfl, hb2⟩
              have hb02 := hba.trans (hb2.mono hba.size)
              have z0 := (hS.below hb2).cell (j := 0) rfl
              go_wp2
              go_roundw
              case rel => exact ⟨k + 1, cl, by omega, by go_num, rfl, hf.out, Hb.out _ hb02⟩
              case measure => simp [intOf]; omega
            · have hf := hide (hm.trans (okL_no (okB_no4 Hd.out (by rw [hRR]; exact c4))))
              rw [hRR]
              have q4 : (R != 0) = true := by simpa using c4
              clear hm c2 c3 hRR c4
              rintro x w2 ⟨rfl, hb2⟩
              have hb02 := hba.trans (hb2.mono hba.size)
              go_wp2
              go_ret
              exact ⟨by rw [hf.out]; rfl, Hb.out _ hb02⟩
    · obtain rfl : k = n := by omega
      have hf := hide (show rowsB es = true by rw [hm, List.drop_eq_nil_of_le (by omega)]; rfl)
      clear hm
      go_wp2
      go_ret
      exact ⟨by rw [hf.out]; rfl, hB⟩
theorem number6_any (n : Int) (w : World) : Calls Try.prog 37 #[.int .i64 n] w fun e w' => e = .returned (.bool (serB n)) ∧ w = w' := by
  by_cases h1 : 1 ≤ n
  · by_cases h2 : n ≤ 4611686018427387904
    · have H := hide (show serB n = true from decide_eq_true ⟨h1, h2⟩)
      go_enter Try.func37, Try.ntmps37
      go_wp2
      go_ret
      exact ⟨by rw [H.out]; rfl, rfl⟩
    · have H := hide (show serB n = false from decide_eq_false (by omega))
      go_enter Try.func37, Try.ntmps37
      go_wp2
      go_ret
      exact ⟨by rw [H.out]; rfl, rfl⟩
  · have H := hide (show serB n = false from decide_eq_false (by omega))
    go_enter Try.func37, Try.ntmps37
    go_wp2
    go_ret
    exact ⟨by rw [H.out]; rfl, rfl⟩
end Go.Proofs.Ytplodjccjobjbaa
