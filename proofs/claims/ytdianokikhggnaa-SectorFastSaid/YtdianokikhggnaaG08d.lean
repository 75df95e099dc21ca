/- Laws 8: step. -/
import Derived.Test.YtdianokikhggnaaG08c
namespace Go.Proofs.Ytdianokikhggnaa
set_option maxRecDepth 20000
open Go.RowKit Go.Px Go.Maps
set_option linter.unusedVariables false
section
variable {w w' w1 w2 : World} {t f lm bm t2 f2 : Nat} {cs cs' : List Value} {d d' : Dk}
/-- What one disk does moves nothing of the other. -/
theorem Both.left (h : Both w t f lm bm t2 f2 d) (hc : RDIs w1 (Free t f lm bm t2 f2) t2 f2 cs d') (hF : Fr (OwnB t f lm bm) w1 w2) : RDIs w2 (Free t f lm bm t2 f2) t2 f2 cs d' :=
  hc.fr hF h.n1 h.n2 (fun b hb => hb.1)
theorem Both.right (h : Both w t f lm bm t2 f2 d) (hD : DIs w1 (Free t f lm bm t2 f2) t f lm bm d') (hF : Fr (ROwn t2 f2) w1 w2) : DIs w2 (Free t f lm bm t2 f2) t f lm bm d' := by
  have hx : ∀ x, OwnB t f lm bm x → ¬ ROwn t2 f2 x := fun x hx hr => by
    rcases hr with h' | h'
    · exact h.n1 (h' ▸ hx)
    · exact h.n2 (h' ▸ hx)
  exact hD.fr hF (hx _ (.inl rfl)) (hx _ (.inr (.inl rfl))) (hx _ (.inr (.inr (.inl rfl)))) (hx _ (.inr (.inr (.inr rfl)))) (fun b hb => hb.2)
/-- What both may write. -/
def Six (t f lm bm t2 f2 : Nat) (b : Nat) : Prop := OwnB t f lm bm b ∨ ROwn t2 f2 b
theorem Both.next (h : Both w t f lm bm t2 f2 d) (hD : DIs w1 (Free t f lm bm t2 f2) t f lm bm d') (h1 : Fr (OwnB t f lm bm) w w1) (hR : ∃ cs', RDIs w2 (Free t f lm bm t2 f2) t2 f2 cs' d') (h2 : Fr (ROwn t2 f2) w1 w2) : Both w2 t f lm bm t2 f2 d' ∧ Fr (Six t f lm bm t2 f2) w w2 :=
  ⟨⟨h.right hD h2, hR, h.n1, h.n2⟩, (h1.mono (fun x hx => .inl hx)).trans (h2.mono (fun x hx => .inr hx))⟩
theorem Both.next2 (h : Both w t f lm bm t2 f2 d) (hR : ∃ cs', RDIs w1 (Free t f lm bm t2 f2) t2 f2 cs' d') (h1 : Fr (ROwn t2 f2) w w1) (hD : DIs w2 (Free t f lm bm t2 f2) t f lm bm d') (h2 : Fr (OwnB t f lm bm) w1 w2) : Both w2 t f lm bm t2 f2 d' ∧ Fr (Six t f lm bm t2 f2) w w2 := by
  obtain ⟨cs', hR⟩ := hR
  exact ⟨⟨hD, ⟨cs', h.left hR h2⟩, h.n1, h.n2⟩, (h1.mono (fun x hx => .inr hx)).trans (h2.mono (fun x hx => .inl hx))⟩
set_option maxHeartbeats 1600000 in
/-- Barrier of both. -/
theorem step08_3 (h : Both w t f lm bm t2 f2 d) (i n torn cut : Int) (A K : Option Addr) (m c kn kc : Nat) :
    Calls Try.prog 10 #[.pointer (some ⟨t, 0, none⟩), .pointer (some ⟨t2, 0, none⟩), .agg #[.int .i64 3, .int .i64 i, .int .i64 n, .slice A m c, .slice K kn kc, .int .i64 torn, .int .i64 cut]] w fun e w' => e = .returned (.bool true) ∧ Both w' t f lm bm t2 f2 d.barrier ∧ Fr (Six t f lm bm t2 f2) w w' := by
  obtain ⟨w0, hw0⟩ : ∃ y, w.alloc (.cells #[.int .i64 3, .int .i64 i, .int .i64 n, .slice A m c, .slice K kn kc, .int .i64 torn, .int .i64 cut] 34) = y := ⟨_, rfl⟩
  obtain ⟨g, hg⟩ : ∃ g, w.heap.size = g := ⟨_, rfl⟩
  have hG : Blk w0 g [.int .i64 3, .int .i64 i, .int .i64 n, .slice A m c, .slice K kn kc, .int .i64 torn, .int .i64 cut] 34 := by rw [← hw0, ← hg]; exact Blk.new w _ _
  have hb0 : Below w.heap.size w w0 := by rw [← hw0]; exact (Below.refl _ _).alloc (Nat.le_refl _) _
  have h0 := h.below hb0
  have g0 := hG.cell (j := 0) rfl
  have HB := hide (barrier08_any h0.a)
  have H0 := hide h0
  have Hw0 := hide hw0
  have Hg := hide hg
  have HF0 := hide (Fr.of_below (X := Six t f lm bm t2 f2) hb0)
  clear h h0 hw0 hg hG hb0
  go_enter Try.func10, Try.ntmps10
  go_wp2_with fail
  try rw [Hw0.out]
  try rw [Hg.out]
  go_wp2_with fail
  go_fit HB.out
  rintro x w1 ⟨rfl, hD1, hF1⟩
  obtain ⟨cs, hc⟩ := H0.out.b
  have HR := hide (rbarrier08_any (H0.out.left hc hF1))
  have HD := hide (And.intro hD1 hF1)
  clear hc hD1 hF1 HB
  go_wp2_with fail
  go_fit HR.out
  rintro x w2 ⟨rfl, hR2, hF2⟩
  have HN := hide (H0.out.next HD.out.1 HD.out.2 hR2 hF2)
  clear hR2 hF2 HR
  go_wp2
  go_ret
  exact ⟨by simp, HN.out.1, HF0.out.trans HN.out.2⟩
set_option maxHeartbeats 1600000 in
/-- Crash of both. -/
theorem step08_4 (h : Both w t f lm bm t2 f2 d) (i n torn cut : Int) (A K : Option Addr) (m c kn kc : Nat) (keep : List Bool) (hc1 : -9223372036854775808 ≤ cut) (hc2 : cut ≤ 9223372036854775807) (hkn : keep.length = kn) (hk63 : kn ≤ 9223372036854775807) (hrk : Rd w K (bls keep)) (hK : bls keep ≠ [] → ∀ a, K = some a → Free t f lm bm t2 f2 a.block) :
    Calls Try.prog 10 #[.pointer (some ⟨t, 0, none⟩), .pointer (some ⟨t2, 0, none⟩), .agg #[.int .i64 4, .int .i64 i, .int .i64 n, .slice A m c, .slice K kn kc, .int .i64 torn, .int .i64 cut]] w fun e w' => e = .returned (.bool true) ∧ Both w' t f lm bm t2 f2 (d.crash keep torn cut) ∧ Fr (Six t f lm bm t2 f2) w w' := by
  obtain ⟨w0, hw0⟩ : ∃ y, w.alloc (.cells #[.int .i64 4, .int .i64 i, .int .i64 n, .slice A m c, .slice K kn kc, .int .i64 torn, .int .i64 cut] 34) = y := ⟨_, rfl⟩
  obtain ⟨g, hg⟩ : ∃ g, w.heap.size = g := ⟨_, rfl⟩
  have hG : Blk w0 g [.int .i64 4, .int .i64 i, .int .i64 n, .slice A m c, .slice K kn kc, .int .i64 torn, .int .i64 cut] 34 := by rw [← hw0, ← hg]; exact Blk.new w _ _
  have hb0 : Below w.heap.size w w0 := by rw [← hw0]; exact (Below.refl _ _).alloc (Nat.le_refl _) _
  have h0 := h.below hb0
  have hsix : ¬ Six t f lm bm t2 f2 g := fun hx => by
    have := h.new g (by omega)
    rcases hx with hx | hx
    · exact this.1 hx
    · exact this.2 hx
  have g0 := hG.cell (j := 0) rfl
  have g4 := hG.cell (j := 4) rfl
  have g5 := hG.cell (j := 5) rfl
  have g6 := hG.cell (j := 6) rfl
  obtain ⟨cs, hc⟩ := h0.b
  have hrk0 := hrk.below hb0
  have HA := hide (rcrash08_any hc h0.new K kn kc keep torn cut hc1 hc2 hkn hk63 hrk0 (fun hne a ha => (hK hne a ha).2))
  have HK := hide hK
  clear hc
  have H0 := hide h0
  have Hw0 := hide hw0
  have Hg := hide hg
  have HF0 := hide (Fr.of_below (X := Six t f lm bm t2 f2) hb0)
  have HG := hide hG
  clear h h0 hw0 hg hG hb0
  go_enter Try.func10, Try.ntmps10
  go_wp2_with fail
  try rw [Hw0.out]
  try rw [Hg.out]
  go_wp2_with fail
  go_fit HA.out
  rintro x w1 ⟨rfl, hR1, hF1⟩
  have hG1 := HG.out.fr hF1 (fun hx => hsix (.inr hx))
  have k4 := hG1.cell (j := 4) rfl
  have k5 := hG1.cell (j := 5) rfl
  have k6 := hG1.cell (j := 6) rfl
  have hsz := hF1.size
  have HB := hide (crash08_any (H0.out.right H0.out.a hF1) (fun b hb => H0.out.new b (by omega)) K kn kc keep torn cut hc1 hc2 hkn hk63 (hrk0.fr hF1 (fun hne a ha => (HK.out hne a ha).2)) (fun hne a ha => (HK.out hne a ha).1))
  have HR := hide (And.intro hR1 hF1)
  clear hR1 hF1 HA hrk0 hG1 g4 g5 g6
  go_wp2_with fail
  go_fit HB.out
  rintro x w2 ⟨rfl, hD2, hF2⟩
  have HN := hide (H0.out.next2 HR.out.1 HR.out.2 hD2 hF2)
  clear hD2 hF2 HB
  go_wp2
  go_ret
  exact ⟨by simp, HN.out.1, HF0.out.trans HN.out.2⟩
set_option maxHeartbeats 1600000 in
/-- Fuse of both. -/
theorem step08_8 (h : Both w t f lm bm t2 f2 d) (i n torn cut : Int) (A K : Option Addr) (m c kn kc : Nat) (hn : n ≤ 9223372036854775807) :
    Calls Try.prog 10 #[.pointer (some ⟨t, 0, none⟩), .pointer (some ⟨t2, 0, none⟩), .agg #[.int .i64 8, .int .i64 i, .int .i64 n, .slice A m c, .slice K kn kc, .int .i64 torn, .int .i64 cut]] w fun e w' => e = .returned (.bool true) ∧ Both w' t f lm bm t2 f2 ({ d with fuse := fuseI n }) ∧ Fr (Six t f lm bm t2 f2) w w' := by
  obtain ⟨w0, hw0⟩ : ∃ y, w.alloc (.cells #[.int .i64 8, .int .i64 i, .int .i64 n, .slice A m c, .slice K kn kc, .int .i64 torn, .int .i64 cut] 34) = y := ⟨_, rfl⟩
  obtain ⟨g, hg⟩ : ∃ g, w.heap.size = g := ⟨_, rfl⟩
  have hG : Blk w0 g [.int .i64 8, .int .i64 i, .int .i64 n, .slice A m c, .slice K kn kc, .int .i64 torn, .int .i64 cut] 34 := by rw [← hw0, ← hg]; exact Blk.new w _ _
  have hb0 : Below w.heap.size w w0 := by rw [← hw0]; exact (Below.refl _ _).alloc (Nat.le_refl _) _
  have h0 := h.below hb0
  have hsix : ¬ Six t f lm bm t2 f2 g := fun hx => by
    have := h.new g (by omega)
    rcases hx with hx | hx
    · exact this.1 hx
    · exact this.2 hx
  have g0 := hG.cell (j := 0) rfl
  have g2 := hG.cell (j := 2) rfl
  obtain ⟨cs, hc⟩ := h0.b
  have HA := hide (rfuse08_any hc n hn)
  clear hc
  have H0 := hide h0
  have Hw0 := hide hw0
  have Hg := hide hg
  have HF0 := hide (Fr.of_below (X := Six t f lm bm t2 f2) hb0)
  have HG := hide hG
  clear h h0 hw0 hg hG hb0
  go_enter Try.func10, Try.ntmps10
  go_wp2_with fail
  try rw [Hw0.out]
  try rw [Hg.out]
  go_wp2_with fail
  go_fit HA.out
  rintro x w1 ⟨rfl, hR1, hF1', hs1⟩
  have hF1 := hF1'.mono (Y := ROwn t2 f2) (fun x hx => .inl hx)
  have hG1 := HG.out.fr hF1 (fun hx => hsix (.inr hx))
  have k2 := hG1.cell (j := 2) rfl
  have HB := hide (fuse08_any (H0.out.right H0.out.a hF1) n hn)
  have HR := hide (And.intro hR1 hF1)
  clear hR1 hF1 hF1' HA hG1 g2
  go_wp2_with fail
  go_fit HB.out
  rintro x w2 ⟨rfl, hD2, hF2, _⟩
  have HN := hide (H0.out.next2 ⟨_, HR.out.1⟩ HR.out.2 hD2 (fr_own hF2 (.inl rfl)))
  clear hD2 hF2 HB
  go_wp2
  go_ret
  exact ⟨by simp, HN.out.1, HF0.out.trans HN.out.2⟩
set_option maxHeartbeats 1600000 in
/-- Read of both. -/
theorem step08_1 (h : Both w t f lm bm t2 f2 d) (i n torn cut : Int) (A K : Option Addr) (m c kn kc : Nat) (hi1 : -9223372036854775808 ≤ i) (hi2 : i ≤ 9223372036854775807) (hn1 : -9223372036854775808 ≤ n) (hn2 : n ≤ 9223372036854775807) :
    Calls Try.prog 10 #[.pointer (some ⟨t, 0, none⟩), .pointer (some ⟨t2, 0, none⟩), .agg #[.int .i64 1, .int .i64 i, .int .i64 n, .slice A m c, .slice K kn kc, .int .i64 torn, .int .i64 cut]] w fun e w' => e = .returned (.bool true) ∧ Both w' t f lm bm t2 f2 (d) ∧ Fr (Six t f lm bm t2 f2) w w' := by
  obtain ⟨w0, hw0⟩ : ∃ y, w.alloc (.cells #[.int .i64 1, .int .i64 i, .int .i64 n, .slice A m c, .slice K kn kc, .int .i64 torn, .int .i64 cut] 34) = y := ⟨_, rfl⟩
  obtain ⟨g, hg⟩ : ∃ g, w.heap.size = g := ⟨_, rfl⟩
  have hG : Blk w0 g [.int .i64 1, .int .i64 i, .int .i64 n, .slice A m c, .slice K kn kc, .int .i64 torn, .int .i64 cut] 34 := by rw [← hw0, ← hg]; exact Blk.new w _ _
  have hb0 : Below w.heap.size w w0 := by rw [← hw0]; exact (Below.refl _ _).alloc (Nat.le_refl _) _
  have h0 := h.below hb0
  have g0 := hG.cell (j := 0) rfl
  have g1 := hG.cell (j := 1) rfl
  have g2 := hG.cell (j := 2) rfl
  have hA := read08_any h0.a i n hi1 hi2 hn1 hn2
  have hRR : ∀ W, Below w0.heap.size w0 W → Calls Try.prog 26 #[.pointer (some ⟨t2, 0, none⟩), .int .i64 i, .int .i64 n] W fun e w' => ∃ A c, e = .returned (.tuple #[.slice A (d.readB i n).length c, .int .i64 (d.readE i n)]) ∧ (d.readB i n).length ≤ c ∧ c ≤ 9223372036854775807 ∧ Rd w' A (bys (d.readB i n)) ∧ Below W.heap.size W w' := fun W hW => by
    obtain ⟨cs, hc⟩ := h0.b
    exact rread08_any (hc.below hW) i n hi1 hi2 hn1 hn2
  obtain ⟨bs, hbs⟩ : ∃ bs, d.readB i n = bs := ⟨_, rfl⟩
  obtain ⟨er, her⟩ : ∃ er, d.readE i n = er := ⟨_, rfl⟩
  simp only [hbs, her] at hA hRR
  obtain ⟨l, hl⟩ : ∃ l, bs.length = l := ⟨_, rfl⟩
  simp only [hl] at hA hRR
  have HA := hide hA
  have HRR := hide hRR
  have Hl := hide hl
  clear hA hRR hbs her hl
  have H0 := hide h0
  have Hw0 := hide hw0
  have Hg := hide hg
  have HF0 := hide (Fr.of_below (X := Six t f lm bm t2 f2) hb0)
  have HG := hide hG
  clear h h0 hw0 hg hG hb0
  go_enter Try.func10, Try.ntmps10
  go_wp2_with fail
  try rw [Hw0.out]
  try rw [Hg.out]
  go_wp2_with fail
  go_fit HA.out
  rintro x w1 ⟨B, cB, rfl, hlB, hcB, hrB, _, hb1⟩
  have hG1 := HG.out.below hb1
  have k1 := hG1.cell (j := 1) rfl
  have k2 := hG1.cell (j := 2) rfl
  have HC := hide (HRR.out w1 hb1)
  clear HA HRR hG1 g1 g2
  go_wp2_with fail
  go_fit HC.out
  rintro x w2 ⟨D, cD, rfl, hlD, hcD, hrD, hb2⟩
  have hb02 := hb1.trans (hb2.mono hb1.size)
  have cv1 := convB (n := l) cB Hl.out (hrB.below hb2)
  have cv2 := convB (n := l) cD Hl.out hrD
  clear HC
  go_wp2
  go_ret
  exact ⟨by simp, H0.out.below hb02, HF0.out.trans (Fr.of_below hb02)⟩
set_option maxHeartbeats 1600000 in
/-- Loose of both. -/
theorem step08_7 (h : Both w t f lm bm t2 f2 d) (i n torn cut : Int) (A K : Option Addr) (m c kn kc : Nat) (kd : Int) (hkd : kd ≠ 1 ∧ kd ≠ 2 ∧ kd ≠ 3 ∧ kd ≠ 4 ∧ kd ≠ 5 ∧ kd ≠ 6 ∧ kd ≠ 8) :
    Calls Try.prog 10 #[.pointer (some ⟨t, 0, none⟩), .pointer (some ⟨t2, 0, none⟩), .agg #[.int .i64 kd, .int .i64 i, .int .i64 n, .slice A m c, .slice K kn kc, .int .i64 torn, .int .i64 cut]] w fun e w' => e = .returned (.bool true) ∧ Both w' t f lm bm t2 f2 (d) ∧ Fr (Six t f lm bm t2 f2) w w' := by
  obtain ⟨w0, hw0⟩ : ∃ y, w.alloc (.cells #[.int .i64 kd, .int .i64 i, .int .i64 n, .slice A m c, .slice K kn kc, .int .i64 torn, .int .i64 cut] 34) = y := ⟨_, rfl⟩
  obtain ⟨g, hg⟩ : ∃ g, w.heap.size = g := ⟨_, rfl⟩
  have hG : Blk w0 g [.int .i64 kd, .int .i64 i, .int .i64 n, .slice A m c, .slice K kn kc, .int .i64 torn, .int .i64 cut] 34 := by rw [← hw0, ← hg]; exact Blk.new w _ _
  have hb0 : Below w.heap.size w w0 := by rw [← hw0]; exact (Below.refl _ _).alloc (Nat.le_refl _) _
  have h0 := h.below hb0
  have g0 := hG.cell (j := 0) rfl
  have q1 : (kd == 1) = false := by simp; omega
  have q2 : (kd == 2) = false := by simp; omega
  have q3 : (kd == 3) = false := by simp; omega
  have q4 : (kd == 4) = false := by simp; omega
  have q5 : (kd == 5) = false := by simp; omega
  have q6 : (kd == 6) = false := by simp; omega
  have q8 : (kd == 8) = false := by simp; omega
  have hll := d.looseL_len
  have hN := h0.a.ok.n2
  have hA := loose08_any h0.a
  have hRR : ∀ W, Below w0.heap.size w0 W → Calls Try.prog 34 #[.pointer (some ⟨t2, 0, none⟩)] W fun e w' => ∃ u, e = .returned u ∧ w'.ownsRow W.heap.size 3 1 u d.looseL.length (ints d.looseL) ∧ Below W.heap.size W w' := fun W hW => by
    obtain ⟨cs, hc⟩ := h0.b
    exact rloose08_any (hc.below hW)
  obtain ⟨L, hLe⟩ : ∃ L, d.looseL = L := ⟨_, rfl⟩
  simp only [hLe] at hA hRR hll
  obtain ⟨l, hl⟩ : ∃ l, L.length = l := ⟨_, rfl⟩
  simp only [hl] at hA hRR hll
  have HA := hide hA
  have HRR := hide hRR
  have Hl := hide hl
  clear hA hRR hLe hl hkd
  have H0 := hide h0
  have Hw0 := hide hw0
  have Hg := hide hg
  have HF0 := hide (Fr.of_below (X := Six t f lm bm t2 f2) hb0)
  have HG := hide hG
  clear h h0 hw0 hg hG hb0
  go_enter Try.func10, Try.ntmps10
  go_wp2_with fail
  try rw [Hw0.out]
  try rw [Hg.out]
  go_wp2_with fail
  go_fit HA.out
  rintro x w1 ⟨B, cB, rfl, hlB, hcB, hrB, _, hb1⟩
  have HC := hide (HRR.out w1 hb1)
  clear HA HRR
  go_wp2_with fail
  go_fit HC.out
  rintro x w2 ⟨u, rfl, hO, hb2⟩
  have hb02 := hb1.trans (hb2.mono hb1.size)
  obtain ⟨D, cD, rfl, _, _, _, hrD, _⟩ := own_out hO
  have HS := hide (rsame08_eq B l cB D cD L w2 Hl.out (by omega) (hrB.below hb2) hrD)
  clear HC hO hrD
  go_wp2_with fail
  go_fit HS.out
  rintro x w3 ⟨rfl, hb3⟩
  have hb03 := hb02.trans (hb3.mono hb02.size)
  go_wp2
  go_ret
  exact ⟨rfl, H0.out.below hb03, HF0.out.trans (Fr.of_below hb03)⟩
end
end Go.Proofs.Ytdianokikhggnaa
