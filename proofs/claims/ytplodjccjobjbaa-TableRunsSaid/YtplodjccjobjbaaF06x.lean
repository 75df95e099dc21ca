/- The law TableRows, walked. -/
import Derived.Test.YtplodjccjobjbaaF06w
import Derived.Test.YtplodjccjobjbaaF06r
namespace Go.Proofs.Ytplodjccjobjbaa
open Go.RowKit Go.Px Go.Maps
set_option linter.unusedVariables false
/-- Rows of a table made of these rows: these rows. -/
theorem rows_back {w : World} {B t bm N : Nat} {D : DataW Value} {m : TM} {es : List RowT} (h : TabIs w B t bm N D m) (hB : rowsB es = true) (hsz : Maps.size D = es.length) (hm : ∀ e : RowT, e ∈ es ↔ m e.1 = some e.2) :
    Calls Try.prog 15 #[.pointer (some ⟨t, 0, none⟩)] w fun e w' => ∃ A c cs, e = .returned (.slice A es.length c) ∧ es.length ≤ c ∧ c ≤ 9223372036854775807 ∧ Rd w' A cs ∧ RwRows w' (fun _ => True) cs es ∧ Below w.heap.size w w' := by
  obtain ⟨h64, hall, hsrt⟩ := rowsB_out hB
  refine (rows_any h (by omega) (fun c x hx => (hall (c, x) ((hm (c, x)).2 hx)).1)).mono ?_
  rintro e w' ⟨A, c, cs, es', rfl, h1, h2, h3, h4, h5, h6, h7, h8⟩
  obtain rfl := srt_one hsrt h5 (fun e => (hm e).trans (h6 e).symm)
  exact ⟨A, c, cs, rfl, h1, h2, h3, h4, h8⟩
set_option maxRecDepth 20000 in
set_option maxHeartbeats 3200000 in
theorem tableRows_walk (A : Option Addr) (n c : Nat) (cs : List Value) (es : List RowT) (Q : Nat → Prop) (A' : Option Addr) (n' c' : Nat) (cs' : List Value) (es' : List RowT) (Q' : Nat → Prop) (w : World) (hn : es.length = n) (hr : Rd w A cs) (hE : RwRows w Q cs es) (hn' : es'.length = n') (hr' : Rd w A' cs') (hE' : RwRows w Q' cs' es') (h63 : n ≤ 9223372036854775807) :
    Calls Try.prog 5 #[.slice A n c, .slice A' n' c'] w fun x w' => x = .returned (.bool true) ∧ Below w.heap.size w w' := by
  have HAw := hide awake06_any
  have K : ∀ X, Below w.heap.size w X → Rd X A cs ∧ RwRows X Q cs es ∧ Rd X A' cs' ∧ RwRows X Q' cs' es' := fun X hX => ⟨hr.below hX, hE.below hX, hr'.below hX, hE'.below hX⟩
  have HK := hide K
  have Hn := hide hn
  have Hn' := hide hn'
  clear K hr hE hr' hE' hn hn'
  go_enter Try.func5, Try.ntmps5
  go_wp2_with fail
  go_fit (HAw.out w)
  rintro x w1 ⟨rfl, hb1⟩
  obtain ⟨r1, e1, r1', e1'⟩ := HK.out w1 hb1
  go_wp2_with fail
  go_fit (tsame_any A n c cs es Q A' n' c' cs' es' Q' w1 Hn.out r1 e1 Hn'.out r1' e1' h63)
  obtain ⟨S, hS⟩ : ∃ x, sameB es es' = x := ⟨_, rfl⟩
  rintro x w2 ⟨rfl, hb2⟩
  have hb02 := hb1.trans (hb2.mono hb1.size)
  obtain ⟨r2, e2, r2', e2'⟩ := HK.out w2 hb02
  rw [hS]
  clear r1 e1 r1' e1' hb1 hb2
  go_wp2_with fail
  go_fit (rsame6_any A n c cs es Q A' n' c' cs' es' Q' w2 Hn.out r2 e2 Hn'.out r2' e2' h63)
  rintro x w3 ⟨rfl, hb3⟩
  have hb03 := hb02.trans (hb3.mono hb02.size)
  obtain ⟨r3, e3, r3', e3'⟩ := HK.out w3 hb03
  rw [hS]
  have q0 : (S != S) = false := by simp
  clear r2 e2 r2' e2' hb02 hb3 hS
  have hses : sameB es es = true := decide_eq_true rfl
  have HSes := hide hses
  clear hses
  go_wp2_with fail
  go_fit (tsame_any A n c cs es Q A n c cs es Q w3 Hn.out r3 e3 Hn.out r3 e3 h63)
  rw [HSes.out]
  rintro x w4 ⟨rfl, hb4⟩
  have hb04 := hb03.trans (hb4.mono hb03.size)
  obtain ⟨r4, e4, _, _⟩ := HK.out w4 hb04
  clear r3 e3 r3' e3' hb03 hb4
  cases hB : rowsB es with
  | false =>
    have HB := hide hB
    clear hB
    go_wp2_with fail
    go_fit (load_bad A n c cs es Q w4 Hn.out r4 e4 HB.out)
    rintro x w5 ⟨rfl, hb5⟩
    have hb05 := hb04.trans (hb5.mono hb04.size)
    obtain ⟨r5, e5, _, _⟩ := HK.out w5 hb05
    clear r4 e4 hb04 hb5
    go_wp2_with fail
    go_fit (right_any A n c cs es Q w5 Hn.out r5 e5)
    rw [HB.out]
    rintro x w6 ⟨rfl, hb6⟩
    go_wp2
    go_ret
    exact ⟨rfl, hb05.trans (hb6.mono hb05.size)⟩
  | true =>
    have HB := hide hB
    have h64 := (rowsB_out hB).1
    clear hB
    go_wp2_with fail
    go_fit (load_any A n c cs es Q w4 Hn.out r4 e4 HB.out)
    rintro x w5 ⟨t, bm, N, D, m, rfl, hT5, hN, hsz, hm, hb5⟩
    have hb05 := hb04.trans (hb5.mono hb04.size)
    clear r4 e4 hb04 hb5
    have Hm := hide hm
    have Hsz := hide hsz
    clear hm hsz hN
    obtain ⟨k, hk⟩ : ∃ k, es.length = k := ⟨_, rfl⟩
    have Hk := hide hk
    go_wp2_with fail
    go_fit (rows_back hT5 HB.out Hsz.out Hm.out)
    rintro x w6 ⟨A6, c6, cs6, rfl, hc6, hm6, hr6, hE6, hb6⟩
    rw [hk] at hc6
    rw [hk]
    have hb06 := hb05.trans (hb6.mono hb05.size)
    have hT6 := hT5.below hb6
    clear hT5 hb05 hb6
    go_wp2_with fail
    go_fit (load_any A6 k c6 cs6 es (fun _ => True) w6 Hk.out hr6 hE6 HB.out)
    rintro x w7 ⟨t', bm', N', D', m', rfl, hT7, hN', hsz', hm', hb7⟩
    have hb07 := hb06.trans (hb7.mono hb06.size)
    have hT7a := hT6.below hb7
    have Hm' := hide hm'
    have Hsz' := hide hsz'
    clear hm' hsz' hN' hT6 hb06 hb7 hr6 hE6
    go_wp2_with fail
    go_fit (rows_back hT7a HB.out Hsz.out Hm.out)
    rintro x w8 ⟨A8, c8, cs8, rfl, hc8, hm8, hr8, hE8, hb8⟩
    rw [hk]
    have hb08 := hb07.trans (hb8.mono hb07.size)
    have hT8 := hT7.below hb8
    obtain ⟨r8, e8, _, _⟩ := HK.out w8 hb08
    clear hT7 hT7a hb07 hb8 hc8
    go_wp2_with fail
    go_fit (rsame6_any A8 k c8 cs8 es (fun _ => True) A n c cs es Q w8 Hk.out hr8 hE8 Hn.out r8 e8 (by omega))
    rw [HSes.out]
    rintro x w9 ⟨rfl, hb9⟩
    have hb09 := hb08.trans (hb9.mono hb08.size)
    have hT9 := hT8.below hb9
    clear hT8 hb08 hb9 r8 e8 hr8 hE8
    go_wp2_with fail
    go_fit (rows_back hT9 HB.out Hsz'.out Hm'.out)
    rintro x w10 ⟨A10, c10, cs10, rfl, hc10, hm10, hr10, hE10, hb10⟩
    rw [hk]
    have hb010 := hb09.trans (hb10.mono hb09.size)
    obtain ⟨r10, e10, _, _⟩ := HK.out w10 hb010
    clear hT9 hb09 hb10 hc10
    go_wp2_with fail
    go_fit (rsame6_any A10 k c10 cs10 es (fun _ => True) A n c cs es Q w10 Hk.out hr10 hE10 Hn.out r10 e10 (by omega))
    rw [HSes.out]
    rintro x w11 ⟨rfl, hb11⟩
    have hb011 := hb010.trans (hb11.mono hb010.size)
    obtain ⟨r11, e11, _, _⟩ := HK.out w11 hb011
    clear hb010 hb11 r10 e10 hr10 hE10
    go_wp2_with fail
    go_fit (right_any A n c cs es Q w11 Hn.out r11 e11)
    rw [HB.out]
    rintro x w12 ⟨rfl, hb12⟩
    go_wp2
    go_ret
    exact ⟨rfl, hb011.trans (hb12.mono hb011.size)⟩
end Go.Proofs.Ytplodjccjobjbaa
