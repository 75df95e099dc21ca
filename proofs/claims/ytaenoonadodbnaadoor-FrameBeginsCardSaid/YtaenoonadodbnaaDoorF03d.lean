/- What was written is read: FrameBack. -/
import Derived.Test.YtaenoonadodbnaaDoorF03c
namespace Go.Proofs.YtaenoonadodbnaaDoor
open Go.RowKit Go.Px
set_option linter.unusedVariables false

theorem rd_back (k s : Nat) (bd a z : List UInt8) (hk : k < 256) (hs : s < 18446744073709551616) (hb : bd.length ≤ 16384) :
    rdE (a ++ frmB k s bd ++ z) a.length = 0 ∧ rdK (a ++ frmB k s bd ++ z) a.length = k ∧ rdS (a ++ frmB k s bd ++ z) a.length = s ∧ rdB (a ++ frmB k s bd ++ z) a.length = bd ∧ rdN (a ++ frmB k s bd ++ z) a.length = ((a.length + (bd.length + 20) : Nat) : Int) := by
  have hx : (a ++ frmB k s bd ++ z).drop a.length = frmB k s bd ++ z := by rw [List.append_assoc]; exact List.drop_left
  have hlen : (a ++ frmB k s bd ++ z).length = a.length + (bd.length + 20) + z.length := by rw [List.length_append, List.length_append, frmB_length]
  obtain ⟨u, hu⟩ : ∃ u, moreN 0 (frmH k s bd) = u := ⟨_, rfl⟩
  have hul : u < 4294967296 := by rw [← hu]; exact moreN_lt _ _
  have e : frmB k s bd ++ z = ([80, 76, UInt8.ofNat k, 0] ++ leB 8 s) ++ (leB 4 bd.length ++ (bd ++ (leB 4 u ++ z))) := by
    unfold frmB; rw [hu]; simp [frmH]
  have e2 : frmB k s bd ++ z = frmH k s bd ++ (leB 4 u ++ z) := by unfold frmB; rw [hu]; simp
  have e3 : frmB k s bd ++ z = [80, 76, UInt8.ofNat k, 0] ++ (leB 8 s ++ (leB 4 bd.length ++ (bd ++ (leB 4 u ++ z)))) := by rw [e]; simp
  have e4 : frmB k s bd ++ z = ([80, 76, UInt8.ofNat k, 0] ++ leB 8 s ++ leB 4 bd.length) ++ (bd ++ (leB 4 u ++ z)) := by rw [e]; simp
  have hxl : (frmB k s bd ++ z).length = bd.length + 20 + z.length := by rw [List.length_append, frmB_length]
  obtain ⟨x, hxx⟩ : ∃ x, frmB k s bd ++ z = x := ⟨_, rfl⟩
  rw [hxx] at hx e e2 e3 e4 hxl
  have d12 : x.drop 12 = leB 4 bd.length ++ (bd ++ (leB 4 u ++ z)) := by
    rw [e]; exact List.drop_left' (by simp [leB_length])
  have hbn : bodyN x = bd.length := by
    unfold bodyN; rw [d12, List.take_left' (leB_length _ _), numN_leB 4 _ (by omega)]
  have g0 : (x.getD 0 0).toNat = 80 := by rw [e3]; rfl
  have g1 : (x.getD 1 0).toNat = 76 := by rw [e3]; rfl
  have g2 : (x.getD 2 0).toNat = k := by rw [e3]; show (UInt8.ofNat k).toNat = k; exact UInt8.toNat_ofNat_of_lt' hk
  have g3 : (x.getD 3 0).toNat = 0 := by rw [e3]; rfl
  have hle : lenE x = 0 := by
    unfold lenE; rw [if_neg (by omega), if_neg (by rw [g0, g1, g3, hbn]; omega), if_neg (by rw [hbn]; omega)]
  have hfe : frE x = 0 := by
    unfold frE
    rw [if_neg (by simpa using hle), hbn, if_neg]
    rw [e2, List.drop_left' (by rw [frmH_length]), List.take_left' (frmH_length _ _ _), List.take_left' (leB_length _ _), numN_leB 4 u hul, hu]
    simp
  have hE : rdE (a ++ frmB k s bd ++ z) a.length = 0 := by
    unfold rdE; rw [if_pos (by omega)]; show frE ((a ++ frmB k s bd ++ z).drop a.length) = 0; rw [hx]; exact hfe
  refine ⟨hE, ?_, ?_, ?_, ?_⟩
  · unfold rdK; rw [if_pos hE]; show (((a ++ frmB k s bd ++ z).drop a.length).getD 2 0).toNat = k; rw [hx]; exact g2
  · unfold rdS; rw [if_pos hE]; show numN ((((a ++ frmB k s bd ++ z).drop a.length).drop 4).take 8) = s
    rw [hx, e3]
    show numN ((leB 8 s ++ (leB 4 bd.length ++ (bd ++ (leB 4 u ++ z)))).take 8) = s
    rw [List.take_left' (leB_length _ _), numN_leB 8 s (by omega)]
  · unfold rdB; rw [if_pos hE]; show (((a ++ frmB k s bd ++ z).drop a.length).drop 16).take (bodyN ((a ++ frmB k s bd ++ z).drop a.length)) = bd
    rw [hx, hbn, e4, List.drop_left' (by simp [leB_length]), List.take_left' rfl]
  · unfold rdN; rw [if_pos hE]; show (a.length : Int) + ((bodyN ((a ++ frmB k s bd ++ z).drop a.length) + 20 : Nat) : Int) = _
    rw [hx, hbn]; omega

set_option maxHeartbeats 800000 in
theorem rsame_true (k s : Nat) (A : Option Addr) (n c : Nat) (B : Option Addr) (d : Nat) (bd : List UInt8) (w : World) (hn : bd.length = n) (hr : Rd w A (bys bd)) (hr2 : Rd w B (bys bd)) :
    Calls Tryd.prog 14 #[.agg #[.int .u8 k, .int .u64 s, .slice A n c], .agg #[.int .u8 k, .int .u64 s, .slice B n d]] w fun e w' => e = .returned (.bool true) ∧ Below w.heap.size w w' := by
  have e1 : ∀ W, Below w.heap.size w W → (convert 23 9 (.slice A n c)).run Tryd.prog W = .ok (.string (strOf bd)) W := fun W hb => convB c hn (hr.below hb)
  have e2 : ∀ W, Below w.heap.size w W → (convert 23 9 (.slice B n d)).run Tryd.prog W = .ok (.string (strOf bd)) W := fun W hb => convB d hn (hr2.below hb)
  have hb0 : Below w.heap.size w ((w.alloc (.cells #[.int .u8 k, .int .u64 s, .slice A n c] 25)).alloc (.cells #[.int .u8 k, .int .u64 s, .slice B n d] 25)) := ((Below.refl _ _).alloc (Nat.le_refl _) _).alloc (by simp) _
  have f1 := e1 _ hb0
  have f2 := e2 _ hb0
  clear e1 e2
  go_enter Tryd.func14, Tryd.ntmps14
  go_wp2
  go_ret
  exact ⟨rfl, hb0⟩

set_option maxHeartbeats 1600000 in
theorem frameBack_walk (k s : Nat) (A : Option Addr) (m c : Nat) (bs : List UInt8) (A1 : Option Addr) (m1 c1 : Nat) (hd : List UInt8) (A2 : Option Addr) (m2 c2 : Nat) (zs : List UInt8) (w : World) (hk : k < 256) (hs : s < 18446744073709551616)
    (hm : bs.length = m) (hmc : m ≤ c) (hc : c ≤ 9223372036854775807) (hr : Rd w A (bys bs)) (hm1 : hd.length = m1) (hmc1 : m1 ≤ c1) (hc1 : c1 ≤ 9223372036854775807) (hr1 : Rd w A1 (bys hd)) (hm2 : zs.length = m2) (hmc2 : m2 ≤ c2) (hc2 : c2 ≤ 9223372036854775807) (hr2 : Rd w A2 (bys zs)) (ht : Tab w) :
    Calls Tryd.prog 7 #[.agg #[.int .u8 k, .int .u64 s, .slice A m c], .slice A1 m1 c1, .slice A2 m2 c2] w fun e w' => e = .returned (.bool true) ∧ Below w.heap.size w w' := by
  obtain ⟨hl1, hl2⟩ := lcut_le m
  have Hl := hide (show (bs.take 16384).length = lcut m by rw [lcut_len, hm])
  have hr' := lcut_rd hr
  obtain ⟨q, hq⟩ : ∃ q, lcut m = q := ⟨_, rfl⟩
  rw [hq] at hl1 hl2 Hl
  obtain ⟨hj1, hj2⟩ := lcut_le m1
  have Hj := hide (show (hd.take 16384).length = lcut m1 by rw [lcut_len, hm1])
  have hr1' := lcut_rd hr1
  obtain ⟨q1, hq1⟩ : ∃ q, lcut m1 = q := ⟨_, rfl⟩
  rw [hq1] at hj1 hj2 Hj
  obtain ⟨ho1, ho2⟩ := lcut_le m2
  have Ho := hide (show (zs.take 16384).length = lcut m2 by rw [lcut_len, hm2])
  have hr2' := lcut_rd hr2
  obtain ⟨q2, hq2⟩ : ∃ q, lcut m2 = q := ⟨_, rfl⟩
  rw [hq2] at ho1 ho2 Ho
  have Hq := hide hq
  have Hq1 := hide hq1
  have Hq2 := hide hq2
  clear hq hq1 hq2 hm hm1 hm2 hr hr1 hr2
  generalize bs.take 16384 = b at *
  generalize hd.take 16384 = a at *
  generalize zs.take 16384 = z at *
  have hback := rd_back k s b a z hk hs (by rw [Hl.out]; omega)
  obtain ⟨f, hf⟩ : ∃ f, frmB k s b = f := ⟨_, rfl⟩
  have hfl : f.length = q + 20 := by rw [← hf, frmB_length, Hl.out]
  rw [hf] at hback
  obtain ⟨l, hl⟩ : ∃ l, a ++ f ++ z = l := ⟨_, rfl⟩
  have hll : l.length = q1 + (q + 20) + q2 := by rw [← hl, List.length_append, List.length_append, hfl, Hj.out, Ho.out]
  rw [hl, Hj.out, Hl.out] at hback
  have HB := hide hback
  have Hf := hide hf
  have Hfl := hide hfl
  have HL := hide hl
  have Hll := hide hll
  clear hback hf hfl hl hll
  obtain ⟨g, hg⟩ : ∃ g, w.heap.size = g := ⟨_, rfl⟩
  obtain ⟨w0, hw0⟩ : ∃ w0, w.alloc (.cells #[.int .u8 k, .int .u64 s, .slice A m c] 25) = w0 := ⟨_, rfl⟩
  have hF : Blk w0 g [.int .u8 k, .int .u64 s, .slice A m c] 25 := by rw [← hw0, ← hg]; exact Blk.new _ _ _
  have hb0 : Below g w w0 := by rw [← hw0, ← hg]; exact (Below.refl _ _).alloc (Nat.le_refl _) _
  have ht0 : Tab w0 := Rd.below ht (by rw [hg]; exact hb0)
  go_enter Tryd.func7, Tryd.ntmps7
  go_wp2_with fail
  refine (awake03_any _ ht0).mono ?_
  rintro e w1 ⟨rfl, hb1⟩
  have hF1 := hF.below hb1
  have x0 := hF1.cell (j := 0) rfl
  have x1 := hF1.cell (j := 1) rfl
  have x2 := hF1.cell (j := 2) rfl
  have fz := hF1.frozen 2
  go_wp2_with fail
  refine (cut_any _ _ _ _ hmc hc).mono ?_
  rw [Hq.out]
  rintro e w0 ⟨rfl, rfl⟩
  go_wp2_with fail
  refine (cut_any _ _ _ _ hmc1 hc1).mono ?_
  rw [Hq1.out]
  rintro e w0 ⟨rfl, rfl⟩
  go_wp2_with fail
  refine (cut_any _ _ _ _ hmc2 hc2).mono ?_
  rw [Hq2.out]
  rintro e w0 ⟨rfl, rfl⟩
  have hF2 := hF1.set 2 (.slice A q c)
  have hbw1 : Below g w w1 := hb0.trans (hb1.mono (Nat.le_of_lt hF.lt))
  have hb2 : Below g w (w1.setCell ⟨g, 2, none⟩ (.slice A q c)) := hbw1.setCell (Nat.le_refl _) _
  obtain ⟨W, hW⟩ : ∃ W, w1.setCell ⟨g, 2, none⟩ (.slice A q c) = W := ⟨_, rfl⟩
  rw [hW] at hF2 hb2
  have y0 := hF2.cell (j := 0) rfl
  have y1 := hF2.cell (j := 1) rfl
  have y2 := hF2.cell (j := 2) rfl
  have hgW := Nat.le_of_lt hF2.lt
  have hbW : ∀ W', Below W.heap.size W W' → Below g w W' := fun W' h => hb2.trans (h.mono hgW)
  rw [← hg] at hb2 hbW
  go_wp2_with fail
  refine (fwrite_any k s _ q _ b _ Hl.out hl2 (by omega) (by omega) (hr'.below hb2) hk hs (Rd.below ht hb2)).mono ?_
  rw [Hf.out]
  rintro e w3 ⟨v3, rfl, ho3, hb3⟩
  obtain ⟨A3, c3, rfl, hx3, hc3, hcm3, hr3, ha3⟩ := own_out ho3
  have hg3 : W.heap.size ≤ w3.heap.size := hb3.size
  go_wp2_with (first | (with_reducible refine stop_append rfl ?_) | (with_reducible refine stop_copy rfl ?_) | (with_reducible refine stop_make rfl ?_))
  refine (Grow.empty w3 5 1).append rfl rfl tBytes rfl rfl (by rw [bys_length, Hj.out]; omega) ((hr1'.below (hbW _ hb3)).alloc _) (bys_one _) (by omega) (by omega) ?_
  intro v4 w4 hG4 hs4
  have hb4 := hG4.emptyAll
  go_wp2_with (first | (with_reducible refine stop_append rfl ?_) | (with_reducible refine stop_copy rfl ?_) | (with_reducible refine stop_make rfl ?_))
  refine hG4.append rfl rfl tBytes rfl rfl (by rw [bys_length, Hfl.out]; omega) (hr3.below hb4) (bys_one _) (by omega) (by omega) ?_
  intro v5 w5 hG5 hs5
  have hb5 := hG5.emptyAll
  have hb35 : Below W.heap.size W w5 := hb3.trans (hb5.mono hg3)
  go_wp2_with (first | (with_reducible refine stop_append rfl ?_) | (with_reducible refine stop_copy rfl ?_) | (with_reducible refine stop_make rfl ?_))
  refine hG5.append rfl rfl tBytes rfl rfl (by rw [bys_length, Ho.out]; omega) (hr2'.below (hbW _ hb35)) (bys_one _) (by omega) (by omega) ?_
  intro v6 w6 hG6 hs6
  have hb6 := hG6.emptyAll
  have hb36 : Below W.heap.size W w6 := hb3.trans (hb6.mono hg3)
  have ho6 := hG6.owns
  rw [show ([] : List Value) ++ bys a ++ bys f ++ bys z = bys l by rw [← HL.out]; simp [bys], show 0 + q1 + (q + 20) + q2 = q1 + (q + 20) + q2 by omega] at ho6
  obtain ⟨N, hN⟩ : ∃ N, q1 + (q + 20) + q2 = N := ⟨_, rfl⟩
  rw [hN] at ho6
  have hNl := Hll.out.trans hN
  obtain ⟨A6, c6, rfl, hx6, hc6, hcm6, hr6, ha6⟩ := own_out ho6
  go_wp2_with fail
  refine (fread_any A6 N c6 l q1 _ hNl (by omega) hc6 (by unfold maxLen at hcm6; omega) hr6 (by omega) (by omega) (Rd.below ht (hbW _ hb36))).mono ?_
  rw [HB.out.1, HB.out.2.1, HB.out.2.2.1, HB.out.2.2.2.1, HB.out.2.2.2.2, Hl.out]
  rintro e w7 ⟨v7, rfl, ho7, hb7⟩
  obtain ⟨A7, c7, rfl, hx7, hc7, hcm7, hr7, ha7⟩ := own_out ho7
  have hb37 : Below W.heap.size W w7 := hb36.trans (hb7.mono (by have := hb6.size; omega))
  have hF7 := (hF2.below hb37).alloc (.cells #[.int .u8 k, .int .u64 s, .slice A7 q c7] 25)
  have z0 := hF7.cell (j := 0) rfl
  have z1 := hF7.cell (j := 1) rfl
  have z2 := hF7.cell (j := 2) rfl
  have hb37w := hbW _ hb37
  go_wp2_with fail
  refine (rsame_true k s A q c A7 c7 b _ Hl.out ((hr'.below hb37w).alloc _) (hr7.alloc _)).mono ?_
  rintro e w8 ⟨rfl, hb8⟩
  have u2 := (hF7.below hb8).cell (j := 2) rfl
  have hsum : (((q1 + (q + 20) : Nat) : Int) == (q1 : Int) + ((q + 20 : Nat) : Int)) = true := by simp
  go_wp2
  go_ret
  have hb9 := hb37w.alloc hb37w.size (.cells #[.int .u8 k, .int .u64 s, .slice A7 q c7] 25)
  exact ⟨by simp, hb9.trans (hb8.mono hb9.size)⟩
end Go.Proofs.YtaenoonadodbnaaDoor
