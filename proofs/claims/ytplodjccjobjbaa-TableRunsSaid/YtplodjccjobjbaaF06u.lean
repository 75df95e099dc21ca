/- package table: Load. -/
import Derived.Test.YtplodjccjobjbaaF06s
namespace Go.Proofs.Ytplodjccjobjbaa
open Go.RowKit Go.Px Go.Maps
set_option linter.unusedVariables false
theorem okL_out : ∀ (es : List RowT) (a : Int), okL a es = true → (∀ e ∈ es, a < e.1 ∧ serB e.1 = true ∧ serB e.2.1 = true ∧ rsE e.2.2.1 e.2.2.2.length = 0) ∧ es.Pairwise (fun x y => x.1 < y.1)
  | [], a, _ => ⟨fun e h => by simp at h, List.Pairwise.nil⟩
  | x :: xs, a, h => by
    have h' : okB a x = true ∧ okL x.1 xs = true := by
      have : (okB a x && okL x.1 xs) = true := h
      simpa using this
    obtain ⟨h1, h2⟩ := okL_out xs x.1 h'.2
    have h3 := okB_out h'.1
    refine ⟨fun e he => ?_, List.pairwise_cons.2 ⟨fun y hy => (h1 y hy).1, h2⟩⟩
    rcases List.mem_cons.1 he with rfl | he
    · exact h3
    · obtain ⟨q1, q2⟩ := h1 e he
      exact ⟨by have := h3.1; omega, q2⟩
theorem rowsB_out {es : List RowT} (h : rowsB es = true) : es.length ≤ 64 ∧ (∀ e ∈ es, serB e.1 = true ∧ serB e.2.1 = true ∧ rsE e.2.2.1 e.2.2.2.length = 0) ∧ es.Pairwise (fun x y => x.1 < y.1) := by
  unfold rowsB at h
  rw [Bool.and_eq_true, decide_eq_true_eq] at h
  obtain ⟨h1, h2⟩ := okL_out es 0 h.2
  exact ⟨h.1, fun e he => (h1 e he).2, h2⟩
theorem okL_of : ∀ (es : List RowT) (a : Int), (∀ e ∈ es, a < e.1 ∧ serB e.1 = true ∧ serB e.2.1 = true ∧ rsE e.2.2.1 e.2.2.2.length = 0) → es.Pairwise (fun x y => x.1 < y.1) → okL a es = true
  | [], a, _, _ => rfl
  | x :: xs, a, h, hp => by
    rw [List.pairwise_cons] at hp
    have h1 := h x (List.mem_cons_self ..)
    rw [okL_step (by unfold okB; simp [h1])]
    exact okL_of xs x.1 (fun e he => ⟨hp.1 e he, (h e (List.mem_cons_of_mem _ he)).2⟩) hp.2
/-- Two rows of rows, both rising, with the same rows, are one. -/
theorem srt_one : ∀ {a b : List RowT}, a.Pairwise (fun x y => x.1 < y.1) → b.Pairwise (fun x y => x.1 < y.1) → (∀ e, e ∈ a ↔ e ∈ b) → a = b
  | [], [], _, _, _ => rfl
  | [], y :: ys, _, _, h => by have := (h y).2 (List.mem_cons_self ..); simp at this
  | x :: xs, [], _, _, h => by have := (h x).1 (List.mem_cons_self ..); simp at this
  | x :: xs, y :: ys, ha, hb, h => by
    rw [List.pairwise_cons] at ha hb
    have hxy : x = y := by
      rcases List.mem_cons.1 ((h x).1 (List.mem_cons_self ..)) with e | hx
      · exact e
      · rcases List.mem_cons.1 ((h y).2 (List.mem_cons_self ..)) with e | hy
        · exact e.symm
        · have := ha.1 y hy; have := hb.1 x hx; omega
    subst hxy
    congr 1
    refine srt_one ha.2 hb.2 fun e => ⟨fun he => ?_, fun he => ?_⟩
    · rcases List.mem_cons.1 ((h e).1 (List.mem_cons_of_mem _ he)) with e' | h'
      · subst e'; have := ha.1 e he; omega
      · exact h'
    · rcases List.mem_cons.1 ((h e).2 (List.mem_cons_of_mem _ he)) with e' | h'
      · subst e'; have := hb.1 e he; omega
      · exact h'
theorem srt_nodup {es : List RowT} (h : es.Pairwise (fun x y => x.1 < y.1)) {k : Nat} {e : RowT} (he : es[k]? = some e) {y : Int × Nat × List UInt8} : (e.1, y) ∉ es.take k := by
  intro hm
  obtain ⟨i, hi, hie⟩ := List.mem_iff_getElem.1 hm
  have hik : i < k := by simp at hi; omega
  have hk := (List.getElem?_eq_some_iff.1 he).1
  rw [List.getElem_take] at hie
  have := List.pairwise_iff_getElem.1 h i k (by omega) hk hik
  rw [hie] at this
  rw [List.getElem?_eq_getElem hk] at he
  injection he with he
  rw [he] at this
  simp at this
theorem TabIs.weak {w : World} {B B' t bm N : Nat} {D : DataW Value} {m : TM} (h : TabIs w B t bm N D m) (hB : B' ≤ B) : TabIs w B' t bm N D m :=
  { blk := h.blk
    own := h.own
    at_ := fun c => by
      have := h.at_ c
      cases hc : m c with
      | none => rw [hc] at this; exact this
      | some y =>
        obtain ⟨s, kk, bs⟩ := y
        rw [hc] at this
        obtain ⟨q0, q8, A', d', dc', q1, q2, q3, q4, q5, q6, q7⟩ := this
        exact ⟨q0, q8, A', d', dc', q1, q2, q3, q4, q5, q6, fun a ha => ⟨Nat.le_trans hB (q7 a ha).1, (q7 a ha).2⟩⟩
    ne := h.ne
    hB := ⟨Nat.le_trans hB h.hB.1, Nat.le_trans hB h.hB.2⟩ }
set_option maxRecDepth 20000 in
set_option maxHeartbeats 3200000 in
theorem load_any (A : Option Addr) (n c : Nat) (cs : List Value) (es : List RowT) (Q : Nat → Prop) (w : World) (hn : es.length = n) (hr : Rd w A cs) (hE : RwRows w Q cs es) (hB : rowsB es = true) :
    Calls Try.prog 21 #[.slice A n c] w fun e w' => ∃ t bm N D m, e = .returned (.tuple #[.pointer (some ⟨t, 0, none⟩), .int .i64 0]) ∧ TabIs w' w.heap.size t bm N D m ∧ N = es.length ∧ Maps.size D = es.length ∧ (∀ e : RowT, e ∈ es ↔ m e.1 = some e.2) ∧ Below w.heap.size w w' := by
  obtain ⟨h64, hall, hsrt⟩ := rowsB_out hB
  rw [hn] at h64
  have HB := hide hB
  have hl := hE.1
  clear hB
  go_enter Try.func21, Try.ntmps21
  go_wp2_with fail
  go_fit (mayRows_any A n c cs es Q w hn hr hE)
  rw [HB.out]
  rintro x w1 ⟨rfl, hb1⟩
  go_wp2_with fail
  go_fit (new06_any w1)
  rintro x w2 ⟨t, bm, rfl, hT2, hb2⟩
  obtain ⟨B, hB⟩ : ∃ x, w1.heap.size = x := ⟨_, rfl⟩
  rw [hB] at hT2 hb2
  have hB2 : B ≤ w2.heap.size := by have := hb2.size; omega
  have hwB : w.heap.size ≤ B := by have := hb1.size; omega
  have HBq := hide hB
  clear hB
  go_wp2
  go_loopw [13] (fun iv wr => ∃ (k : Nat) (D : DataW Value) (m : TM), k ≤ n ∧ iv = .int .i64 k ∧ TabIs wr B t bm k D m ∧ Maps.size D = k ∧ (∀ c y, m c = some y ↔ (c, y) ∈ es.take k) ∧ Below B w1 wr ∧ B ≤ wr.heap.size) (fun iv _ => n - (intOf iv).toNat)
  case atStart => exact ⟨0, .map [], _, by omega, rfl, hT2, rfl, fun c y => by simp, hb2, hB2⟩
  case round =>
    obtain ⟨k, D, m, hk, rfl, hT, hsz, hm, hbw, hBr⟩ := hrel
    clear hT2 hb2
    by_cases hlt : k < n
    · obtain ⟨e, he⟩ : ∃ e, es[k]? = some e := ⟨_, List.getElem?_eq_getElem (by omega)⟩
      have hbr : Below w.heap.size w wr := hb1.trans (hbw.mono hwB)
      obtain ⟨a, rfl, hat⟩ := (hr.below hbr).some_of (xs := cs) (by omega)
      obtain ⟨A', d, dc, y0, y1, y2, y3, hk8, hd, hdc, hdm, hrd, hq⟩ := ((hE.below hbr).2 k e he).cells hat
      obtain ⟨hc, hs, hR⟩ := hall e (List.mem_of_getElem? he)
      have hnm : m e.1 = none := by
        cases hme : m e.1 with
        | none => rfl
        | some y => exact absurd ((hm e.1 y).1 hme) (srt_nodup hsrt he)
      have htk : es.take (k + 1) = es.take k ++ [e] := by
        rw [List.take_add_one, he]; rfl
      obtain ⟨cl, s, kd, bs⟩ := e
      simp only at y0 y1 y2 hk8 hd hrd hc hs hR hnm
      obtain ⟨c1, c2⟩ := serB_out hc
      have hd8 := rsE_zero hR
      rw [hd] at hd8
      have Hm := hide hm
      have Hnm := hide hnm
      have Htk := hide htk
      have Hd := hide hd
      clear hq hat he hm hnm htk hR hs hd hc
      obtain ⟨wa, hwa⟩ : ∃ x, wr.alloc (.cells #[.int .i64 cl, .int .i64 s, .int .u8 kd, .slice A' d dc] 68) = x := ⟨_, rfl⟩
      have hS : Blk wa wr.heap.size [.int .i64 cl, .int .i64 s, .int .u8 kd, .slice A' d dc] 68 := by rw [← hwa]; exact Blk.new wr [.int .i64 cl, .int .i64 s, .int .u8 kd, .slice A' d dc] _
      have hba : Below wr.heap.size wr wa := by rw [← hwa]; exact (Below.refl _ _).alloc (Nat.le_refl _) _
      have sza := hba.size
      have hTa := hT.below hba
      have hra := hrd.below hba
      have p0 := hS.cell (j := 0) rfl
      have p1 := hS.cell (j := 1) rfl
      have p2 := hS.cell (j := 2) rfl
      have p3 := hS.cell (j := 3) rfl
      have t0 := hTa.blk.cell (j := 0) rfl
      have Hwa := hide hwa
      clear hwa
      go_wp2_with fail
      rw [Hwa.out]
      clear y0 y1 y2 y3
      have hne1 := hT.ne
      have hbl := hT.own.lt
      have Mk := hide (show ∀ X X', Below X.heap.size X X' → (X.cell? ⟨t, 0, none⟩ = some (.map (some bm)) ∧ X.cell? ⟨wr.heap.size, 0, none⟩ = some (.int .i64 cl) ∧ X.cell? ⟨wr.heap.size, 1, none⟩ = some (.int .i64 s) ∧ X.cell? ⟨wr.heap.size, 2, none⟩ = some (.int .u8 kd) ∧ X.cell? ⟨wr.heap.size, 3, none⟩ = some (.slice A' d dc)) → (X'.cell? ⟨t, 0, none⟩ = some (.map (some bm)) ∧ X'.cell? ⟨wr.heap.size, 0, none⟩ = some (.int .i64 cl) ∧ X'.cell? ⟨wr.heap.size, 1, none⟩ = some (.int .i64 s) ∧ X'.cell? ⟨wr.heap.size, 2, none⟩ = some (.int .u8 kd) ∧ X'.cell? ⟨wr.heap.size, 3, none⟩ = some (.slice A' d dc)) from fun X X' hX h => ⟨cellS hX h.1, cellS hX h.2.1, cellS hX h.2.2.1, cellS hX h.2.2.2.1, cellS hX h.2.2.2.2⟩)
      have MkG := hide (show ∀ X X' : World, X.grownBy X' (some bm) → (X.cell? ⟨t, 0, none⟩ = some (.map (some bm)) ∧ X.cell? ⟨wr.heap.size, 0, none⟩ = some (.int .i64 cl) ∧ X.cell? ⟨wr.heap.size, 1, none⟩ = some (.int .i64 s) ∧ X.cell? ⟨wr.heap.size, 2, none⟩ = some (.int .u8 kd) ∧ X.cell? ⟨wr.heap.size, 3, none⟩ = some (.slice A' d dc)) → (X'.cell? ⟨t, 0, none⟩ = some (.map (some bm)) ∧ X'.cell? ⟨wr.heap.size, 0, none⟩ = some (.int .i64 cl) ∧ X'.cell? ⟨wr.heap.size, 1, none⟩ = some (.int .i64 s) ∧ X'.cell? ⟨wr.heap.size, 2, none⟩ = some (.int .u8 kd) ∧ X'.cell? ⟨wr.heap.size, 3, none⟩ = some (.slice A' d dc)) from fun X X' hX h => ⟨cellG hX h.1 (fun e => by injection e with e; exact hne1 e), cellG hX h.2.1 (fun e => absurd (show wr.heap.size = bm from Option.some.inj e) (by omega)), cellG hX h.2.2.1 (fun e => absurd (show wr.heap.size = bm from Option.some.inj e) (by omega)), cellG hX h.2.2.2.1 (fun e => absurd (show wr.heap.size = bm from Option.some.inj e) (by omega)), cellG hX h.2.2.2.2 (fun e => absurd (show wr.heap.size = bm from Option.some.inj e) (by omega))⟩)
      have S0 := (show (wa.drew.cell? ⟨t, 0, none⟩ = some (.map (some bm)) ∧ wa.drew.cell? ⟨wr.heap.size, 0, none⟩ = some (.int .i64 cl) ∧ wa.drew.cell? ⟨wr.heap.size, 1, none⟩ = some (.int .i64 s) ∧ wa.drew.cell? ⟨wr.heap.size, 2, none⟩ = some (.int .u8 kd) ∧ wa.drew.cell? ⟨wr.heap.size, 3, none⟩ = some (.slice A' d dc)) from ⟨t0, p0, p1, p2, p3⟩)
      first
        | (go_region_held_law (fun W => (W.cell? ⟨t, 0, none⟩ = some (.map (some bm)) ∧ W.cell? ⟨wr.heap.size, 0, none⟩ = some (.int .i64 cl) ∧ W.cell? ⟨wr.heap.size, 1, none⟩ = some (.int .i64 s) ∧ W.cell? ⟨wr.heap.size, 2, none⟩ = some (.int .u8 kd) ∧ W.cell? ⟨wr.heap.size, 3, none⟩ = some (.slice A' d dc))) (first | assumption | exact MkG.out _ _ hg5 (by assumption)) (first
            | (go_at_call 28; refine (cloneR_any kd A' d dc bs _ Hd.out hd8 (by exact hra.drew)).mono ?_; rintro x w4 ⟨A4, c4, rfl, hc4, hm4, hr4, ha4, hb4⟩; have hb4' : Below wa.heap.size wa w4 := ⟨hb4.os, hb4.tape, hb4.output, hb4.size, hb4.block⟩; have hT4 := hTa.below hb4'; have S4 := Mk.out _ _ hb4 S0; obtain ⟨w5, hst, hown5, hg5⟩ := hT4.own.update keyed_int Try.underlying56 (by unfold maxLen; omega) (key_ok (c := cl) (by omega) (by omega)) (show rdV (entV s kd A4 d c4) = some (.held (entV s kd A4 d c4), []) from rfl))))
        | fail
      all_goals
        have e0 : wa.drew.heap.size = wa.heap.size := rfl
        have tl := hT.blk.lt
        have bl := hT.own.lt
        have hA4 : ∀ a, A4 = some a → B ≤ a.block ∧ a.block ≠ t ∧ a.block ≠ bm := fun a ha => by have := ha4 a ha; omega
        have hT5 := hT4.put hk8 Hd.out hc4 hd8 hm4 hr4 hA4 hown5 hg5
        have hz5 := hT4.size_put cl (entV s kd A4 d c4)
        have sz4 := hb4'.size
        have sz5 := hg5.size
        have hb5 : Below B w1 w5 := ((hbw.trans (hba.mono hBr)).trans (hb4'.mono (by omega))).grown hg5 (by omega) (fun q hq => by injection hq with hq; have := hT.hB.2; omega)
        rw [Hnm.out, hsz] at hz5
        go_wp2
        go_roundw
        case rel =>
          refine ⟨k + 1, _, _, by omega, by go_num, hT5, hz5, fun c y => ?_, hb5, by omega⟩
          rw [Htk.out, List.mem_append, List.mem_singleton, ← Hm.out]
          show (if c = cl then some (s, kd, bs) else m c) = some y ↔ _
          by_cases hcc : c = cl
          · subst hcc
            rw [if_pos rfl, Hnm.out]
            constructor
            · intro h; injection h with h; subst h; exact .inr rfl
            · rintro (h | h)
              · cases h
              · injection h with _ h; rw [h]
          · rw [if_neg hcc]
            constructor
            · exact fun h => .inl h
            · rintro (h | h)
              · exact h
              · injection h with h _; exact absurd h hcc
        case measure => simp [intOf]; omega
    · obtain rfl : k = n := by omega
      have hw := hT.hB
      go_wp2
      go_ret2
      refine ⟨t, bm, k, D, m, rfl, hT.weak hwB, hn.symm, by omega, fun e => ?_, hb1.trans (hbw.mono hwB)⟩
      rw [hm e.1 e.2, List.take_of_length_le (by omega)]
theorem load_bad (A : Option Addr) (n c : Nat) (cs : List Value) (es : List RowT) (Q : Nat → Prop) (w : World) (hn : es.length = n) (hr : Rd w A cs) (hE : RwRows w Q cs es) (hB : rowsB es = false) :
    Calls Try.prog 21 #[.slice A n c] w fun e w' => e = .returned (.tuple #[.pointer none, .int .i64 60]) ∧ Below w.heap.size w w' := by
  have HB := hide hB
  clear hB
  go_enter Try.func21, Try.ntmps21
  go_wp2_with fail
  go_fit (mayRows_any A n c cs es Q w hn hr hE)
  rw [HB.out]
  rintro x w1 ⟨rfl, hb1⟩
  go_wp2
  go_ret2
  exact ⟨rfl, hb1⟩
end Go.Proofs.Ytplodjccjobjbaa
