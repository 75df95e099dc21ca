/- plinthref04.DecodeOp of any bytes, its answers as block.DecodeOp's. -/
import Derived.Test.YtabglphiafeheaaF04c
import Derived.Test.YtabglphiafeheaaM04
import Derived.Test.YtabglphiafeheaaRes
namespace Go.Proofs.Ytabglphiafeheaa
open Go.RowKit Go.Px
set_option linter.unusedVariables false
def RDecIs (bs : List UInt8) (w : World) (e : Ending) (w' : World) : Prop :=
  ∃ D dc O oc, e = .returned (.tuple #[opv (opK bs) (opP bs) (opN bs) D (opD bs).length dc O (opO bs).length oc, .int .i64 (opT bs), .int .i64 (opE bs)]) ∧ Rd w' D (bys (opD bs)) ∧ Rd w' O (bys (opO bs)) ∧ Below w.heap.size w w'
theorem rdecIs_bad {bs : List UInt8} {x : Int} {w : World} {e : Ending} {w' : World} (hx : opE bs = x) (h0 : x ≠ 0) (h : e = .returned (.tuple #[opv 0 0 0 none 0 0 none 0 0, .int .i64 0, .int .i64 x]) ∧ Below w.heap.size w w') : RDecIs bs w e w' := by
  obtain ⟨rfl, hb⟩ := h
  obtain ⟨h1, h2, h3, h4, h5, h6⟩ := opE_no (show opE bs ≠ 0 by rw [hx]; exact h0)
  unfold RDecIs
  rw [h1, h2, h3, h4, h5, h6, hx]
  exact ⟨none, 0, none, 0, rfl, Rd.nil, Rd.nil, hb⟩
theorem broken_any (z : Int) (w : World) (h : z = 2 ∨ z = 10) : Calls Try.prog 44 #[.int .i64 z] w fun e w' => e = .returned (.int .i64 (brE z)) ∧ w = w' := by
  rcases h with rfl | rfl
  · go_enter Try.func44, Try.ntmps44
    go_wp2
    go_ret
    exact ⟨rfl, rfl⟩
  · go_enter Try.func44, Try.ntmps44
    go_wp2
    go_ret
    exact ⟨rfl, rfl⟩
theorem zero5 {w : World} {g : Nat} {T : TypeId} {vs : List Value} (h : Blk w g vs T) (hv : vs.length = 5) (a b c d e : Value) : Blk (((((w.setCell ⟨g, 0, none⟩ a).setCell ⟨g, 1, none⟩ b).setCell ⟨g, 2, none⟩ c).setCell ⟨g, 3, none⟩ d).setCell ⟨g, 4, none⟩ e) g [a, b, c, d, e] T := by
  have := ((((h.set 0 a).set 1 b).set 2 c).set 3 d).set 4 e
  match vs, hv with
  | [_, _, _, _, _], _ => exact this
theorem below5 {B g : Nat} {w w1 : World} (h : Below B w w1) (hg : B ≤ g) (a b c d e : Value) : Below B w (((((w1.setCell ⟨g, 0, none⟩ a).setCell ⟨g, 1, none⟩ b).setCell ⟨g, 2, none⟩ c).setCell ⟨g, 3, none⟩ d).setCell ⟨g, 4, none⟩ e) :=
  ((((h.setCell (show B ≤ (⟨g, 0, none⟩ : Addr).block from hg) a).setCell (show B ≤ (⟨g, 1, none⟩ : Addr).block from hg) b).setCell (show B ≤ (⟨g, 2, none⟩ : Addr).block from hg) c).setCell (show B ≤ (⟨g, 3, none⟩ : Addr).block from hg) d).setCell (show B ≤ (⟨g, 4, none⟩ : Addr).block from hg) e
theorem rd5 {B g : Nat} {w : World} {A : Option Addr} {xs : List Value} (h : Rd w A xs) (hu : ∀ a, A = some a → B ≤ a.block) (hg : g < B) (a b c d e : Value) : Rd (((((w.setCell ⟨g, 0, none⟩ a).setCell ⟨g, 1, none⟩ b).setCell ⟨g, 2, none⟩ c).setCell ⟨g, 3, none⟩ d).setCell ⟨g, 4, none⟩ e) A xs :=
  (((((h.upset hu hg).upset hu hg).upset hu hg).upset hu hg).upset hu hg)
set_option maxHeartbeats 3200000 in
theorem rdec_any (A : Option Addr) (m c : Nat) (bs : List UInt8) (w : World) (hm : bs.length = m) (hmc : m ≤ c) (hm8 : m ≤ 140737488355328) (hc : c ≤ 9223372036854775807) (hr : Rd w A (bys bs)) :
    Calls Try.prog 25 #[.slice A m c] w (RDecIs bs w) := by
  obtain ⟨g, hg⟩ : ∃ g, w.heap.size = g := ⟨_, rfl⟩
  obtain ⟨w0, hw0⟩ : ∃ w0, w.alloc (.cells #[.int .u8 0, .int .i64 0, .int .i64 0, .slice none 0 0, .slice none 0 0] 27) = w0 := ⟨_, rfl⟩
  have hG0 : Blk w0 g [.int .u8 0, .int .i64 0, .int .i64 0, .slice none 0 0, .slice none 0 0] 27 := by rw [← hw0, ← hg]; exact Blk.new w [.int .u8 0, .int .i64 0, .int .i64 0, .slice none 0 0, .slice none 0 0] _
  have hb0 : Below w.heap.size w w0 := by rw [← hw0]; exact (Below.refl _ _).alloc (Nat.le_refl _) _
  have hr0 := hr.below hb0
  by_cases h9 : m < 9
  · have hx : opE bs = 10 := by unfold opE; rw [if_pos (by omega)]
    have HF := hide (fun e w' => rdecIs_bad (w := w) (e := e) (w' := w') hx (by decide))
    have Hw0 := hide hw0
    clear hx hm hw0 hG0 hb0 hr0
    go_enter Try.func25, Try.ntmps25
    go_wp2
    have hGn : Blk (w.alloc (.cells #[.int .u8 0, .int .i64 0, .int .i64 0, .slice none 0 0, .slice none 0 0] 27)) g [.int .u8 0, .int .i64 0, .int .i64 0, .slice none 0 0, .slice none 0 0] 27 := by rw [← hg]; exact Blk.new w [.int .u8 0, .int .i64 0, .int .i64 0, .slice none 0 0, .slice none 0 0] _
    refine bodyPost_ret (results_cell3 rfl rfl hGn Try.underlying27 rfl (by kernel_rfl)) rfl ?_
    exact HF.out _ _ ⟨rfl, (Below.refl _ _).alloc (Nat.le_refl _) _⟩
  · have h9' : 9 ≤ m := by omega
    have e1 := hide (long_get bs 1 4 (by decide) (by decide) (by decide) (by omega))
    have e2 := hide (long_get bs 5 4 (by decide) (by decide) (by decide) (by omega))
    have hx : opE bs = if textE bs 9 ≠ 0 then brE (textE bs 9) else if textE bs (textI bs 9) ≠ 0 then brE (textE bs (textI bs 9))
      else if fmE (getV bs 0 1) (getV bs 1 4) (getV bs 5 4) (textS bs 9).length (textS bs (textI bs 9)).length ≠ 0 then 42 else 0 := by unfold opE; rw [if_neg (by omega)]
    have Hx := hide hx
    have hv1 := getV_4 bs 1
    have hv2 := getV_4 bs 5
    obtain ⟨p, hp⟩ : ∃ p, getV bs 1 4 = p := ⟨_, rfl⟩
    obtain ⟨n, hn⟩ : ∃ n, getV bs 5 4 = n := ⟨_, rfl⟩
    rw [hp] at hv1
    rw [hn] at hv2
    have Hp := hide hp
    have Hn := hide hn
    have Hm := hide hm
    have Hw0 := hide hw0
    clear hp hn hm hx hw0 h9
    go_enter Try.func25, Try.ntmps25
    go_wp2_with fail
    rw [Hw0.out]
    go_fit (rget_any A m c bs 1 4 w0 Hm.out hmc hc hr0 (by decide) (by decide))
    rw [e1.out, Hp.out]
    rintro x w1 ⟨rfl, rfl⟩
    go_wp2_with fail
    go_fit (rget_any A m c bs 5 4 w0 Hm.out hmc hc hr0 (by decide) (by decide))
    rw [e2.out, Hn.out]
    rintro x w1 ⟨rfl, rfl⟩
    go_wp2_with fail
    go_fit (rgetText_any A m c bs 9 w0 Hm.out hmc hm8 hc hr0 (by decide) (by decide))
    rintro x w1 ⟨u1, rfl, ho1, hb1⟩
    obtain ⟨A1, c1, rfl, _, hc1, hcm1, hr1, ha1⟩ := own_out ho1
    have hG1 := hG0.below hb1
    have hb01 := hb0.trans (hb1.mono hb0.size)
    have hs1 := hG1.lt
    rcases textE_cases bs 9 (by decide) (by rw [Hm.out]; omega) with e3 | e3 | e3
    · have hb3 := textI_bd e3
      have Hx4 := hide (show opE bs = if textE bs (textI bs 9) ≠ 0 then brE (textE bs (textI bs 9)) else if fmE (getV bs 0 1) (getV bs 1 4) (getV bs 5 4) (textS bs 9).length (textS bs (textI bs 9)).length ≠ 0 then 42 else 0 by rw [Hx.out, if_neg (by rw [e3]; decide)])
      have E3 := hide e3
      rw [e3]
      clear e3
      obtain ⟨t1, ht1⟩ : ∃ t, textI bs 9 = t := ⟨_, rfl⟩
      obtain ⟨ds, hds⟩ : ∃ t, textS bs 9 = t := ⟨_, rfl⟩
      rw [ht1, hds] at hb3
      rw [ht1, hds]
      rw [hds] at ho1 hr1 hc1
      have HT := hide ht1
      have HD := hide hds
      obtain ⟨b1, b2, b3, -, b5⟩ := hb3
      rw [Hm.out] at b3
      clear ht1 hds
      go_wp2_with fail
      go_fit (rgetText_any A m c bs t1 w1 Hm.out hmc hm8 hc (hr0.below hb1) (by omega) (by omega))
      rintro x w2 ⟨u2, rfl, ho2, hb2⟩
      obtain ⟨A2, c2, rfl, _, hc2, hcm2, hr2, ha2⟩ := own_out ho2
      have hG2 := hG1.below hb2
      have hb02 := hb01.trans (hb2.mono hb01.size)
      rcases textE_cases bs t1 (by omega) (by rw [Hm.out]; omega) with e4 | e4 | e4
      · have hb4 := textI_bd e4
        have E4 := hide e4
        rw [e4]
        clear e4
        obtain ⟨t2, ht2⟩ : ∃ t, textI bs t1 = t := ⟨_, rfl⟩
        obtain ⟨xs, hxs⟩ : ∃ t, textS bs t1 = t := ⟨_, rfl⟩
        rw [ht2, hxs] at hb4
        rw [ht2, hxs]
        rw [hxs] at ho2 hr2 hc2
        obtain ⟨b6, b7, b8, -, b9⟩ := hb4
        rw [Hm.out] at b8
        have HT2 := hide ht2
        have HX2 := hide hxs
        obtain ⟨k, hk⟩ : ∃ k, getV bs 0 1 = k := ⟨_, rfl⟩
        have hkl := getV_1 bs 0
        rw [hk] at hkl
        have HK := hide hk
        have Hx5 := hide (show opE bs = if fmE k p n ds.length xs.length ≠ 0 then 42 else 0 by rw [Hx4.out, HT.out, if_neg (by rw [E4.out]; decide), HD.out, HX2.out, HK.out, Hp.out, Hn.out])
        obtain ⟨a, rfl, hcell⟩ := (hr0.below hb1 |>.below hb2) 0 _ (bys_get (show 0 < bs.length by rw [Hm.out]; omega))
        rw [show a.add 0 = a from rfl, show ((bs[0]'(by rw [Hm.out]; omega)).toNat : Int) = (k : Int) by rw [← HK.out, getV_byte bs (by rw [Hm.out]; omega)]] at hcell
        have hpos : 0 < m := by omega
        clear hk ht2 hxs
        go_wp2_with fail
        obtain ⟨v, hv⟩ : ∃ v, w2.heap.size = v := ⟨_, rfl⟩
        obtain ⟨w3, hw3⟩ : ∃ w3, w2.alloc (.cells #[.int .u8 k, .int .i64 p, .int .i64 n, .slice A1 ds.length c1, .slice A2 xs.length c2] 27) = w3 := ⟨_, rfl⟩
        have hV3 : Blk w3 v [.int .u8 k, .int .i64 p, .int .i64 n, .slice A1 ds.length c1, .slice A2 xs.length c2] 27 := by rw [← hw3, ← hv]; exact Blk.new w2 [.int .u8 k, .int .i64 p, .int .i64 n, .slice A1 ds.length c1, .slice A2 xs.length c2] _
        have hb23 : Below w2.heap.size w2 w3 := by rw [← hw3]; exact (Below.refl _ _).alloc (Nat.le_refl _) _
        have hs2 := hG2.lt
        rw [hv] at hs2
        have hG3 := hG2.below hb23
        have hb03 := hb02.trans (hb23.mono hb02.size)
        rw [hw3, hv]
        clear hw3 hv
        go_fit (rform_any k p n A1 ds.length c1 A2 xs.length c2 w3 hkl)
        rcases fmE_two k p n ds.length xs.length with ⟨hf, hfe⟩ | hfe
        · rw [hfe]
          have HX0 := hide (show opE bs = 0 by rw [Hx5.out, if_neg (by rw [hfe]; decide)])
          clear hf hfe
          rintro x w4 ⟨rfl, hb4⟩
          have hG4 := hG3.below hb4
          have hV4 := hV3.below hb4
          have hb04 := hb03.trans (hb4.mono hb03.size)
          have f0 := hG4.cell (j := 0) rfl
          have f1 := hG4.cell (j := 1) rfl
          have f2 := hG4.cell (j := 2) rfl
          have f3 := hG4.cell (j := 3) rfl
          have f4 := hG4.cell (j := 4) rfl
          have t0 := hG4.frozen 0
          have t1 := hG4.frozen 1
          have t2 := hG4.frozen 2
          have t3 := hG4.frozen 3
          have t4 := hG4.frozen 4
          have y0 := hV4.cell (j := 0) rfl
          have y1 := hV4.cell (j := 1) rfl
          have y2 := hV4.cell (j := 2) rfl
          have y3 := hV4.cell (j := 3) rfl
          have y4 := hV4.cell (j := 4) rfl
          have r1 := (hr1.below hb2 |>.below hb23 |>.below hb4)
          have r2 := (hr2.below hb23 |>.below hb4)
          have s1 := hb1.size
          have s0 := hG0.lt
          go_wp2
          refine bodyPost_ret (results_cell3 rfl rfl (zero5 hG4 rfl _ _ _ _ _) Try.underlying27 rfl (by kernel_rfl)) rfl ?_
          obtain ⟨q1, q2, q3, q4, q5, q6⟩ := opE_yes HX0.out
          unfold RDecIs
          rw [q1, q2, q3, q4, q5, q6, HX0.out, HK.out, Hp.out, Hn.out, HD.out, HT.out, HX2.out, HT2.out]
          exact ⟨A1, c1, A2, c2, rfl, rd5 r1 (fun a ha => (ha1 a ha).1) (by omega) _ _ _ _ _, rd5 r2 (fun a ha => (ha2 a ha).1) (by omega) _ _ _ _ _, below5 hb04 (by omega) _ _ _ _ _⟩
        · rw [hfe]
          have HF := hide (fun e w' => rdecIs_bad (w := w) (e := e) (w' := w') (show opE bs = 42 by rw [Hx5.out, if_pos (by rw [hfe]; decide)]) (by decide))
          clear hfe
          rintro x w4 ⟨rfl, hb4⟩
          have hG4 := hG3.below hb4
          have hb04 := hb03.trans (hb4.mono hb03.size)
          have f0 := hG4.cell (j := 0) rfl
          have f1 := hG4.cell (j := 1) rfl
          have f2 := hG4.cell (j := 2) rfl
          have f3 := hG4.cell (j := 3) rfl
          have f4 := hG4.cell (j := 4) rfl
          have t0 := hG4.frozen 0
          have t1 := hG4.frozen 1
          have t2 := hG4.frozen 2
          have t3 := hG4.frozen 3
          have t4 := hG4.frozen 4
          go_wp2
          refine bodyPost_ret (results_cell3 rfl rfl (zero5 hG4 rfl _ _ _ _ _) Try.underlying27 rfl (by kernel_rfl)) rfl ?_
          exact HF.out _ _ ⟨rfl, below5 hb04 (by omega) _ _ _ _ _⟩
      · have HF := hide (fun e w' => rdecIs_bad (w := w) (e := e) (w' := w') (show opE bs = 42 by rw [Hx4.out, HT.out, e4, if_pos (by decide)]; rfl) (by decide))
        rw [e4]
        clear e4
        have f0 := hG2.cell (j := 0) rfl
        have f1 := hG2.cell (j := 1) rfl
        have f2 := hG2.cell (j := 2) rfl
        have f3 := hG2.cell (j := 3) rfl
        have f4 := hG2.cell (j := 4) rfl
        have t0 := hG2.frozen 0
        have t1 := hG2.frozen 1
        have t2 := hG2.frozen 2
        have t3 := hG2.frozen 3
        have t4 := hG2.frozen 4
        go_wp2_with fail
        go_fit (broken_any 2 w2 (by decide))
        rintro x wq ⟨rfl, rfl⟩
        go_wp2
        refine bodyPost_ret (results_cell3 rfl rfl (zero5 hG2 rfl _ _ _ _ _) Try.underlying27 rfl (by kernel_rfl)) rfl ?_
        exact HF.out _ _ ⟨rfl, below5 hb02 (by omega) _ _ _ _ _⟩
      · have HF := hide (fun e w' => rdecIs_bad (w := w) (e := e) (w' := w') (show opE bs = 10 by rw [Hx4.out, HT.out, e4, if_pos (by decide)]; rfl) (by decide))
        rw [e4]
        clear e4
        have f0 := hG2.cell (j := 0) rfl
        have f1 := hG2.cell (j := 1) rfl
        have f2 := hG2.cell (j := 2) rfl
        have f3 := hG2.cell (j := 3) rfl
        have f4 := hG2.cell (j := 4) rfl
        have t0 := hG2.frozen 0
        have t1 := hG2.frozen 1
        have t2 := hG2.frozen 2
        have t3 := hG2.frozen 3
        have t4 := hG2.frozen 4
        go_wp2_with fail
        go_fit (broken_any 10 w2 (by decide))
        rintro x wq ⟨rfl, rfl⟩
        go_wp2
        refine bodyPost_ret (results_cell3 rfl rfl (zero5 hG2 rfl _ _ _ _ _) Try.underlying27 rfl (by kernel_rfl)) rfl ?_
        exact HF.out _ _ ⟨rfl, below5 hb02 (by omega) _ _ _ _ _⟩
    · have HF := hide (fun e w' => rdecIs_bad (w := w) (e := e) (w' := w') (show opE bs = 42 by rw [Hx.out, if_pos (by rw [e3]; decide), e3]; rfl) (by decide))
      rw [e3]
      clear e3
      have f0 := hG1.cell (j := 0) rfl
      have f1 := hG1.cell (j := 1) rfl
      have f2 := hG1.cell (j := 2) rfl
      have f3 := hG1.cell (j := 3) rfl
      have f4 := hG1.cell (j := 4) rfl
      have t0 := hG1.frozen 0
      have t1 := hG1.frozen 1
      have t2 := hG1.frozen 2
      have t3 := hG1.frozen 3
      have t4 := hG1.frozen 4
      go_wp2_with fail
      go_fit (broken_any 2 w1 (by decide))
      rintro x wq ⟨rfl, rfl⟩
      go_wp2
      refine bodyPost_ret (results_cell3 rfl rfl (zero5 hG1 rfl _ _ _ _ _) Try.underlying27 rfl (by kernel_rfl)) rfl ?_
      exact HF.out _ _ ⟨rfl, below5 hb01 (by omega) _ _ _ _ _⟩
    · have HF := hide (fun e w' => rdecIs_bad (w := w) (e := e) (w' := w') (show opE bs = 10 by rw [Hx.out, if_pos (by rw [e3]; decide), e3]; rfl) (by decide))
      rw [e3]
      clear e3
      have f0 := hG1.cell (j := 0) rfl
      have f1 := hG1.cell (j := 1) rfl
      have f2 := hG1.cell (j := 2) rfl
      have f3 := hG1.cell (j := 3) rfl
      have f4 := hG1.cell (j := 4) rfl
      have t0 := hG1.frozen 0
      have t1 := hG1.frozen 1
      have t2 := hG1.frozen 2
      have t3 := hG1.frozen 3
      have t4 := hG1.frozen 4
      go_wp2_with fail
      go_fit (broken_any 10 w1 (by decide))
      rintro x wq ⟨rfl, rfl⟩
      go_wp2
      refine bodyPost_ret (results_cell3 rfl rfl (zero5 hG1 rfl _ _ _ _ _) Try.underlying27 rfl (by kernel_rfl)) rfl ?_
      exact HF.out _ _ ⟨rfl, below5 hb01 (by omega) _ _ _ _ _⟩
end Go.Proofs.Ytabglphiafeheaa
