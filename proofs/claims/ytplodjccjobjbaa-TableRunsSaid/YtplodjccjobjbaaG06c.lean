/- A call of both tables. -/
import Derived.Test.YtplodjccjobjbaaG06b
namespace Go.Proofs.Ytplodjccjobjbaa
open Go.RowKit Go.Px Go.Maps
set_option linter.unusedVariables false
abbrev callv (dn : Bool) (c s : Int) (k : Nat) (A : Option Addr) (d dc : Nat) : Value := .agg #[.bool dn, .int .i64 c, .int .i64 s, .int .u8 k, .slice A d dc]
/-- The fields of the call, in a box. -/
def Bx (X : World) (g : Nat) (c s : Int) (k : Nat) (A : Option Addr) (d dc : Nat) : Prop := X.cell? ⟨g, 1, none⟩ = some (.int .i64 c) ∧ X.cell? ⟨g, 2, none⟩ = some (.int .i64 s) ∧ X.cell? ⟨g, 3, none⟩ = some (.int .u8 k) ∧ X.cell? ⟨g, 4, none⟩ = some (.slice A d dc)
theorem Bx.of {X : World} {g : Nat} {dn : Bool} {c s : Int} {k : Nat} {A : Option Addr} {d dc : Nat} {T : TypeId} (h : Blk X g [.bool dn, .int .i64 c, .int .i64 s, .int .u8 k, .slice A d dc] T) : Bx X g c s k A d dc :=
  ⟨Blk.cell h (j := 1) rfl, Blk.cell h (j := 2) rfl, Blk.cell h (j := 3) rfl, Blk.cell h (j := 4) rfl⟩
theorem grown_low {B x : Nat} {w w' : World} (hg : w.grownBy w' (some x)) (hB : B ≤ x) (hw : B ≤ w.heap.size) : Below B w w' := (Below.refl B w).grown hg hw (fun k hk => by injection hk with hk; omega)
theorem TabIs.upto {w : World} {B t bm N N' : Nat} {D : DataW Value} {m : TM} (h : TabIs w B t bm N D m) (hN : N ≤ N') : TabIs w B t bm N' D m :=
  { blk := h.blk, own := h.own.mono hN, at_ := h.at_, ne := h.ne, hB := h.hB }
set_option maxRecDepth 20000 in
set_option maxHeartbeats 6400000 in
theorem step6_put (w : World) (W0 t bm r : Nat) (m : TM) (S N : Nat) (c s : Int) (k : Nat) (A : Option Addr) (d dc : Nat) (bs : List UInt8) (hB : Both6 w W0 t bm r m S N) (hN : N < 4096) (hW : W0 ≤ w.heap.size) (hk : k < 256) (hd : bs.length = d) (hdc : d ≤ dc) (hdm : dc ≤ 9223372036854775807) (hr : Rd w A (bys bs)) :
    Calls Try.prog 10 #[.pointer (some ⟨t, 0, none⟩), .pointer (some ⟨r, 0, none⟩), callv true c s k A d dc] w fun e w' => e = .returned (.bool true) ∧ (∃ m' S', Both6 w' W0 t bm r m' S' (N + 1)) ∧ Below W0 w w' ∧ w.heap.size ≤ w'.heap.size := by
  obtain ⟨D, A2, c2, cs, es, hT, hR, ht, hsz, hS, hlr, hsr⟩ := hB
  obtain ⟨w0, hw0⟩ : ∃ x, w.alloc (.cells #[.bool true, .int .i64 c, .int .i64 s, .int .u8 k, .slice A d dc] 35) = x := ⟨_, rfl⟩
  have hS0 : Blk w0 w.heap.size [.bool true, .int .i64 c, .int .i64 s, .int .u8 k, .slice A d dc] 35 := by rw [← hw0]; exact Blk.new w [.bool true, .int .i64 c, .int .i64 s, .int .u8 k, .slice A d dc] _
  have hb0 : Below w.heap.size w w0 := by rw [← hw0]; exact (Below.refl _ _).alloc (Nat.le_refl _) _
  have Hw0 := hide hw0
  clear hw0
  have tl := hT.blk.lt
  have bl := hT.own.lt
  have rl := hR.blk.lt
  obtain ⟨hB1, hB2⟩ := hT.hB
  have glt := hS0.lt
  have sz0 := hb0.size
  have x0 := hS0.cell (j := 0) rfl
  have hbd : Below w.heap.size w w0.drew := hb0.drew
  have T0 := hT.below hbd
  have R0 := hR.below hbd
  have D0 := hr.below hbd
  have B0 : Blk w0.drew w.heap.size [.bool true, .int .i64 c, .int .i64 s, .int .u8 k, .slice A d dc] 35 := hS0
  have b0 := Bx.of hS0
  have b1 : Bx w0.drew w.heap.size c s k A d dc := b0
  have hWd : Below W0 w w0.drew := hbd.mono hW
  have PT := fun X (hX : TabIs X W0 t bm N D m) (hr : Rd X A (bys bs)) => put_any6 hX c s k A d dc bs hk hd hdc hdm hr hN
  have PR := fun X (hX : RfIs X r A2 S c2 cs es) (hr : Rd X A (bys bs)) => rput_any6 hX ht c s k A d dc bs hk hd hdc hdm hr (by omega)
  rw [hsz] at PT
  have hMs := putM_ser (m := m) (S := S) (x := c) (s := s) (k := k) (d := d) (bs := bs) hsr
  generalize putV m S c s k d = E at PT PR
  generalize putM m S c s k d bs = M at PT PR hMs
  have hS' := putS_le (m := m) (x := c) (s := s) (k := k) (d := d) hS
  generalize putS m S c s k d = S1 at PT PR hS'
  have KT := hide (show ∀ X Y, RfIs X r A2 S c2 cs es → Rd X A (bys bs) → Blk X w.heap.size [.bool true, .int .i64 c, .int .i64 s, .int .u8 k, .slice A d dc] 35 → TabIs X W0 t bm N D m → PutT W0 t bm N M S1 X Y → RfIs Y r A2 S c2 cs es ∧ Rd Y A (bys bs) ∧ Blk Y w.heap.size [.bool true, .int .i64 c, .int .i64 s, .int .u8 k, .slice A d dc] 35 from fun X Y h1 h2 h3 h4 h5 => by
    obtain ⟨en, cl, hm⟩ := own_heap h4.own
    exact ⟨h1.gMap hm h5.2.1, Rd.gMap hm h2 h5.2.1, Blk.gMap h3 hm h5.2.1⟩)
  have KR := hide (show ∀ X Y, RfIs X r A2 S c2 cs es → Rd X A (bys bs) → Blk X w.heap.size [.bool true, .int .i64 c, .int .i64 s, .int .u8 k, .slice A d dc] 35 → TabIs X W0 t bm N D m → PutR r M S1 X Y → TabIs Y W0 t bm N D m ∧ Rd Y A (bys bs) ∧ Blk Y w.heap.size [.bool true, .int .i64 c, .int .i64 s, .int .u8 k, .slice A d dc] 35 from fun X Y h1 h2 h3 h4 h5 =>
    ⟨h4.gSl h1.blk h5.2, Rd.gSl h1.blk h2 h5.2, grown_cells h5.2 h3 (by omega)⟩)
  have KT2 := hide (show ∀ X Y, Blk X w.heap.size [.bool true, .int .i64 c, .int .i64 s, .int .u8 k, .slice A d dc] 35 → TabIs X W0 t bm N D m → PutT W0 t bm N M S1 X Y → Blk Y w.heap.size [.bool true, .int .i64 c, .int .i64 s, .int .u8 k, .slice A d dc] 35 from fun X Y h3 h4 h5 => by
    obtain ⟨en, cl, hm⟩ := own_heap h4.own
    exact Blk.gMap h3 hm h5.2.1)
  have KR2 := hide (show ∀ X Y, Blk X w.heap.size [.bool true, .int .i64 c, .int .i64 s, .int .u8 k, .slice A d dc] 35 → PutR r M S1 X Y → Blk Y w.heap.size [.bool true, .int .i64 c, .int .i64 s, .int .u8 k, .slice A d dc] 35 from fun X Y h3 h5 => grown_cells h5.2 h3 (by omega))
  have HPT := hide PT
  have HPR := hide PR
  have HMs := hide hMs
  clear PT PR ht hd hsz hsr hMs
  obtain ⟨b01, b02, b03, b04⟩ := b0
  go_enter Try.func10, Try.ntmps10
  go_wp2_with fail
  rw [Hw0.out]
  go_region_held_law (fun X => X.cell? ⟨w.heap.size, 1, none⟩ = some (.int .i64 c) ∧ X.cell? ⟨w.heap.size, 2, none⟩ = some (.int .i64 s) ∧ X.cell? ⟨w.heap.size, 3, none⟩ = some (.int .u8 k) ∧ X.cell? ⟨w.heap.size, 4, none⟩ = some (.slice A d dc)) (first | assumption | exact b1) (first
    | (go_at_call 17; refine (HPT.out _ (by assumption) (by assumption)).mono ?_; rintro x wa ⟨rfl, hPT⟩; (have Ba := KT2.out _ _ (by assumption) (by assumption) hPT; have SA := Bx.of Ba); obtain ⟨Ra, Da, _⟩ := KT.out _ _ (by assumption) (by assumption) (by assumption) (by assumption) hPT)
    | (go_at_call 24; refine (HPR.out _ (by assumption) (by assumption)).mono ?_; rintro x wb ⟨rfl, hPR⟩; (have Bb := KR2.out _ _ (by assumption) hPR; have SB := Bx.of Bb)))
  all_goals
    go_wp2
    go_ret
    obtain ⟨⟨N', D', hTa, hN', hsz'⟩, hga, hza⟩ := hPT
    obtain ⟨⟨A', c', cs', es', hRb, htb⟩, hgb⟩ := hPR
    have szb := hgb.size
    exact ⟨by simp, ⟨M, S1, D', A', c', cs', es', (hTa.gSl Ra.blk hgb).upto hN', hRb, htb, hsz', hS', hlr, HMs.out⟩, (hWd.trans (grown_low hga hB2 (by have := hWd.size; omega))).trans (grown_low hgb hlr (by have := hWd.size; omega)), by have := hbd.size; omega⟩
set_option maxRecDepth 20000 in
set_option maxHeartbeats 6400000 in
theorem step6_ask (w : World) (W0 t bm r : Nat) (m : TM) (S N : Nat) (c s : Int) (k : Nat) (A : Option Addr) (d dc : Nat) (hB : Both6 w W0 t bm r m S N) :
    Calls Try.prog 10 #[.pointer (some ⟨t, 0, none⟩), .pointer (some ⟨r, 0, none⟩), callv false c s k A d dc] w fun e w' => e = .returned (.bool true) ∧ Below w.heap.size w w' := by
  obtain ⟨D, A2, c2, cs, es, hT, hR, ht, hsz, hS, hlr, hsr⟩ := hB
  obtain ⟨w0, hw0⟩ : ∃ x, w.alloc (.cells #[.bool false, .int .i64 c, .int .i64 s, .int .u8 k, .slice A d dc] 35) = x := ⟨_, rfl⟩
  have hS0 : Blk w0 w.heap.size [.bool false, .int .i64 c, .int .i64 s, .int .u8 k, .slice A d dc] 35 := by rw [← hw0]; exact Blk.new w [.bool false, .int .i64 c, .int .i64 s, .int .u8 k, .slice A d dc] _
  have hb0 : Below w.heap.size w w0 := by rw [← hw0]; exact (Below.refl _ _).alloc (Nat.le_refl _) _
  have Hw0 := hide hw0
  clear hw0
  have T0 := hT.below hb0
  have R0 := hR.below hb0
  have x0 := hS0.cell (j := 0) rfl
  have x1 := hS0.cell (j := 1) rfl
  have x2 := hS0.cell (j := 2) rfl
  have PT := ask_any6 T0 c s
  have PR := fun X (hX : RfIs X r A2 S c2 cs es) => rask_any hX ht c s
  rw [hsz] at PT
  generalize askV m S c s = V at PT PR
  have HPT := hide PT
  have HPR := hide PR
  clear PT PR ht hsz hsr
  go_enter Try.func10, Try.ntmps10
  go_wp2_with fail
  rw [Hw0.out]
  go_fit HPT.out
  rintro x w1 ⟨A1, dc1, rfl, hl1, hm1, hd1, hr1, ha1, hT1, hb1⟩
  obtain ⟨V1, V2, V3, V4⟩ := V
  simp only at hl1 hd1 hr1 ha1 ⊢
  have hb01 := hb0.trans (hb1.mono hb0.size)
  have hS1 := hS0.below hb1
  have hR1 := R0.below hb1
  clear x0 x1 x2
  obtain ⟨w2, hw2⟩ : ∃ x, w1.alloc (.cells #[.int .u8 V3, .slice A1 V4.length dc1] 33) = x := ⟨_, rfl⟩
  have hA2 : Blk w2 w1.heap.size [.int .u8 V3, .slice A1 V4.length dc1] 33 := by rw [← hw2]; exact Blk.new w1 [.int .u8 V3, .slice A1 V4.length dc1] _
  have hb12 : Below w1.heap.size w1 w2 := by rw [← hw2]; exact (Below.refl _ _).alloc (Nat.le_refl _) _
  have Hw2 := hide hw2
  clear hw2
  have x1 := ((show Blk w1 w.heap.size _ _ from hS1).alloc (.cells #[.int .u8 V3, .slice A1 V4.length dc1] 33)).cell (j := 1) rfl
  have x2 := ((show Blk w1 w.heap.size _ _ from hS1).alloc (.cells #[.int .u8 V3, .slice A1 V4.length dc1] 33)).cell (j := 2) rfl
  go_wp2_with fail
  rw [Hw2.out]
  go_fit (HPR.out w2 (hR1.below hb12))
  rintro x w3 ⟨A3, d3, dc3, rfl, hl3, hdc3, hm3, hk3, hr3, hb3⟩
  simp only at hl3 hk3 hr3 ⊢
  have hA3 := hA2.below hb3
  have hb02 := hb01.trans (hb12.mono hb01.size)
  have hb03 := hb02.trans (hb3.mono hb02.size)
  have hr13 := (hr1.below hb12).below hb3
  clear x1 x2
  obtain ⟨w4, hw4⟩ : ∃ x, w3.alloc (.cells #[.int .u8 V3, .slice A3 d3 dc3] 33) = x := ⟨_, rfl⟩
  have hb34 : Below w3.heap.size w3 w4 := by rw [← hw4]; exact (Below.refl _ _).alloc (Nat.le_refl _) _
  have Hw4 := hide hw4
  clear hw4
  have x0 := ((show Blk w3 w1.heap.size _ _ from hA3).alloc (.cells #[.int .u8 V3, .slice A3 d3 dc3] 33)).cell (j := 0) rfl
  have x1 := ((show Blk w3 w1.heap.size _ _ from hA3).alloc (.cells #[.int .u8 V3, .slice A3 d3 dc3] 33)).cell (j := 1) rfl
  have y0 := (Blk.new w3 [.int .u8 V3, .slice A3 d3 dc3] 33).cell (j := 0) rfl
  have y1 := (Blk.new w3 [.int .u8 V3, .slice A3 d3 dc3] 33).cell (j := 1) rfl
  have Hl3 := hide hl3
  clear hl3
  have q0 : (V1 == V1) = true := by simp
  go_wp2_with fail
  rw [Hw4.out]
  go_fit (rsames_any V3 A1 V4.length dc1 V4 V3 A3 d3 dc3 V4 w4 rfl Hl3.out (hr13.below hb34) (hr3.below hb34))
  rw [eqR_self]
  rintro x w5 ⟨rfl, hb5⟩
  go_wp2
  go_ret
  have hb04 := hb03.trans (hb34.mono hb03.size)
  exact ⟨by simp, hb04.trans (hb5.mono hb04.size)⟩
end Go.Proofs.Ytplodjccjobjbaa
