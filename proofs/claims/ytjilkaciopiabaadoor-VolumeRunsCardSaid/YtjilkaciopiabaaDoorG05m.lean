/- volume.Block, Shape, Sum; plinthref05.Bytes, Sum; the law's same; the law VolumeRuns, walked (XG05j, XG05k, XG05l in one text: a claim bears 60 files). -/
import Derived.Test.YtjilkaciopiabaaDoorG05g
import Derived.Test.YtjilkaciopiabaaDoorF02b
import Derived.Deep.RegionHeldLaw
namespace Go.Proofs.YtjilkaciopiabaaDoor
open Go.RowKit Go.Px
set_option linter.unusedVariables false
set_option maxHeartbeats 1600000 in
theorem block_bad (w : World) (v r s b z N : Nat) (bs : List UInt8) (vs : List Int) (last : Int) (i : Int) (h : VolIs w v r s b z N bs vs last) (hi : i < 0 ∨ (0 ≤ i ∧ (b : Int) ≤ i)) :
    Calls Tryd.prog 12 #[.pointer (some ⟨v, 0, none⟩), .int .i64 i] w fun e w' => e = .returned (.tuple #[.slice none 0 0, .int .i64 0, .int .i64 5]) ∧ w = w' := by
  have x0 := h.blk.cell (j := 0) rfl
  rcases hi with hi | ⟨hi1, hi2⟩
  all_goals
    go_enter Tryd.func12, Tryd.ntmps12
    go_wp2_with fail
    go_fit (made_any w v r s b z N bs vs last h)
    rintro x w1 ⟨rfl, rfl⟩
    go_wp2
    go_ret3
    exact ⟨rfl, rfl⟩
set_option maxHeartbeats 1600000 in
theorem block_ok (w : World) (v r s b z N : Nat) (bs : List UInt8) (vs : List Int) (last : Int) (i : Nat) (h : VolIs w v r s b z N bs vs last) (hi : i < b) :
    Calls Tryd.prog 12 #[.pointer (some ⟨v, 0, none⟩), .int .i64 i] w fun e w' => ∃ A c, e = .returned (.tuple #[.slice A z c, .int .i64 (vs.getD i 0), .int .i64 0]) ∧ z ≤ c ∧ Rd w' A (bys (segB bs i 1 z)) ∧ Below w.heap.size w w' := by
  have x0 := h.blk.cell (j := 0) rfl
  have x3 := h.blk.cell (j := 3) rfl
  obtain ⟨hz1, hz2⟩ := h.hz
  have hl : i < vs.length := by rw [h.lv]; exact hi
  have yv : (ints vs)[i]? = some (.int .i64 (vs.getD i 0)) := by simp [ints, List.getD, List.getElem?_eq_getElem hl]
  have y0 := h.ver.cell yv
  have hsl := segB_length (bs := bs) (p := i) (n := 1) h.lb h.hN hi
  rw [Nat.one_mul] at hsl
  have Hsl := hide hsl
  have hiI : (i : Int) < (b : Int) := by omega
  obtain ⟨y, hy⟩ : ∃ y, vs.getD i 0 = y := ⟨_, rfl⟩
  rw [hy] at y0 yv
  have Hy := hide hy
  clear hsl hy
  have HX := hide (show ∀ X, Below w.heap.size w X → X.cell? ⟨v, 3, none⟩ = some (.slice (some ⟨s, 0, none⟩) b b) ∧ X.cell? ⟨s, i, none⟩ = some (.int .i64 y) from fun X hX => ⟨(h.below hX).blk.cell (j := 3) rfl, (h.below hX).ver.cell yv⟩)
  go_enter Tryd.func12, Tryd.ntmps12
  go_wp2_with fail
  go_fit (made_any w v r s b z N bs vs last h)
  rintro x w1 ⟨rfl, rfl⟩
  go_wp2_with fail
  go_region_with (first
    | (go_at_call 31; refine (blocks_one _ v r s b z N bs vs last i (by exact h.drewN 1) hi).mono ?_; rintro x w2 ⟨rfl, q1, rfl⟩)
    | (go_at_call 30; refine (clone_any (some ⟨r, i * z, none⟩) z z (segB bs i 1 z) _ Hsl.out (by omega) ((h.seg i 1).drewN (1 + q1))).mono ?_; rintro x w3 ⟨u3, rfl, ho3, hb3⟩; obtain ⟨A3, c3, rfl, _, hc3, hcm3, hr3, ha3⟩ := own_out ho3; have hbw3 : Below w.heap.size w w3 := ⟨hb3.os, hb3.tape, hb3.output, hb3.size, hb3.block⟩; have z3 := And.left (HX.out w3 hbw3); have z4 := And.right (HX.out w3 hbw3)))
  all_goals
    go_wp2
    go_ret3
    exact ⟨A3, c3, by rw [Hy.out]; rfl, hc3, hr3, hbw3⟩
set_option maxHeartbeats 800000 in
theorem shapeOf_any (w : World) (v r s b z N : Nat) (bs : List UInt8) (vs : List Int) (last : Int) (h : VolIs w v r s b z N bs vs last) :
    Calls Tryd.prog 17 #[.pointer (some ⟨v, 0, none⟩)] w fun e w' => e = .returned (shp b z) ∧ Below w.heap.size w w' := by
  obtain ⟨g, hg⟩ : ∃ g, w.heap.size = g := ⟨_, rfl⟩
  obtain ⟨w0, hw0⟩ : ∃ w0, w.alloc (.cells #[.int .i64 0, .int .i64 0] 23) = w0 := ⟨_, rfl⟩
  have hS : Blk w0 g [.int .i64 0, .int .i64 0] 23 := by rw [← hw0, ← hg]; exact Blk.new w [.int .i64 0, .int .i64 0] _
  have hb0 : Below w.heap.size w w0 := by rw [← hw0]; exact (Below.refl _ _).alloc (Nat.le_refl _) _
  have hV0 := h.below hb0
  have x0 := hV0.blk.cell (j := 0) rfl
  have x1 := hV0.blk.cell (j := 1) rfl
  have y0 := hS.cell (j := 0) rfl
  have y1 := hS.cell (j := 1) rfl
  have f0 := hS.frozen 0
  have f1 := hS.frozen 1
  go_enter Tryd.func17, Tryd.ntmps17
  go_wp2_with fail
  go_fit (made_any w0 v r s b z N bs vs last hV0)
  rintro x w1 ⟨rfl, rfl⟩
  go_wp2
  refine bodyPost_ret (results_cell rfl rfl ((hS.set 0 (.int .i64 b)).set 1 (.int .i64 z)) Tryd.underlying23 rfl (by kernel_rfl)) rfl ?_
  exact ⟨rfl, (hb0.setCell (by show w.heap.size ≤ g; omega) _).setCell (by show w.heap.size ≤ g; omega) _⟩
set_option maxHeartbeats 800000 in
theorem vsum_any (w : World) (v r s b z N : Nat) (bs : List UInt8) (vs : List Int) (last : Int) (h : VolIs w v r s b z N bs vs last) (ht : Tab w) :
    Calls Tryd.prog 16 #[.pointer (some ⟨v, 0, none⟩)] w fun e w' => e = .returned (.int .u32 ((moreN 0 bs : Nat) : Int)) ∧ Below w.heap.size w w' := by
  obtain ⟨hb1, hb2⟩ := h.hb
  obtain ⟨hz1, hz2⟩ := h.hz
  have hNb : N ≤ 16777216 := by rw [← h.hN]; exact Nat.mul_le_mul hb2 hz2
  have x1 := h.blk.cell (j := 2) rfl
  have hrow : Rd w (some ⟨r, 0, none⟩) (bys bs) := by
    have := h.seg 0 b
    rw [Nat.zero_mul] at this
    unfold segB at this
    rwa [Nat.zero_mul, List.drop_zero, h.hN, List.take_of_length_le (by rw [h.lb]; exact Nat.le_refl _)] at this
  have Hl := hide h.lb
  go_enter Tryd.func16, Tryd.ntmps16
  go_wp2_with fail
  go_fit (made_any w v r s b z N bs vs last h)
  rintro x w1 ⟨rfl, rfl⟩
  go_wp2_with fail
  go_fit (sum_any _ 1 1 [.slice (some ⟨r, 0, none⟩) N N] [bs] _ rfl (by decide) (Rd.new1 w _ _) (BRows.nil.snoc (c := N) Hl.out (by omega) (by omega) (by omega) (hrow.alloc _)) (Rd.alloc ht _))
  rw [show sumN [bs] = moreN 0 bs from rfl]
  rintro x w2 ⟨rfl, rfl⟩
  go_wp2
  go_ret
  exact ⟨rfl, (Below.refl _ _).alloc (Nat.le_refl _) _⟩
section
variable (w : World) (lo rv gb gv cb cv b z N : Nat) (rows sv : List Value) (bs : List UInt8) (vs : List Int) (last : Int)
theorem segB_all {bs : List UInt8} {b z N : Nat} (hl : bs.length = N) (hN : b * z = N) : segB bs 0 b z = bs := by
  unfold segB
  rw [Nat.zero_mul, List.drop_zero, hN, List.take_of_length_le (by rw [hl]; exact Nat.le_refl _)]
set_option maxHeartbeats 800000 in
theorem rbytes_any (h : RVolIs w lo rv gb gv cb cv b z N rows sv bs vs last) :
    Calls Tryd.prog 24 #[.pointer (some ⟨rv, 0, none⟩)] w fun e w' => ∃ u, e = .returned u ∧ w'.ownsRow w.heap.size 5 1 u N (bys bs) ∧ Below w.heap.size w w' := by
  have x0 := h.blk.cell (j := 0) rfl
  have Hs := hide (segB_all h.lb h.hN)
  have HN := hide h.hN
  go_enter Tryd.func24, Tryd.ntmps24
  go_wp2_with fail
  go_fit (rread_any w lo rv gb gv cb cv b z N rows sv bs vs last 0 b h (by omega))
  rw [Hs.out, HN.out]
  rintro x w1 ⟨u, rfl, ho, hb⟩
  go_wp2
  go_ret
  exact ⟨u, rfl, ho, hb⟩
set_option maxHeartbeats 800000 in
theorem rsumOf_any (h : RVolIs w lo rv gb gv cb cv b z N rows sv bs vs last) :
    Calls Tryd.prog 25 #[.pointer (some ⟨rv, 0, none⟩)] w fun e w' => e = .returned (.int .u32 ((moreN 0 bs : Nat) : Int)) ∧ Below w.heap.size w w' := by
  have hNb : N ≤ 4096 * 4096 := by rw [← h.hN]; exact Nat.mul_le_mul h.hb.2 h.hz.2
  have Hl := hide h.lb
  go_enter Tryd.func25, Tryd.ntmps25
  go_wp2_with fail
  go_fit (rbytes_any w lo rv gb gv cb cv b z N rows sv bs vs last h)
  rintro x w1 ⟨u, rfl, ho, hb⟩
  obtain ⟨A, c, rfl, _, hc, hcm, hr, _⟩ := own_out ho
  go_wp2_with fail
  go_fit (rof_any A N c bs w1 Hl.out (by omega) hr)
  rintro x w2 ⟨rfl, rfl⟩
  go_wp2
  go_ret
  exact ⟨rfl, hb⟩
end
set_option maxHeartbeats 6400000 in
theorem same_any (w : World) (B lo v r s rv gb gv cb cv b z N : Nat) (rows sv : List Value) (bs : List UInt8) (vs : List Int) (last : Int) (hV : VolIs w v r s b z N bs vs last) (hR : RVolIs w lo rv gb gv cb cv b z N rows sv bs vs last) (ht : Tab w) :
    Calls Tryd.prog 10 #[.pointer (some ⟨v, 0, none⟩), .pointer (some ⟨rv, 0, none⟩)] w fun e w' => e = .returned (.bool true) ∧ Below w.heap.size w w' := by
  obtain ⟨hb1, hb2⟩ := hV.hb
  obtain ⟨hz1, hz2⟩ := hV.hz
  go_enter Tryd.func10, Tryd.ntmps10
  go_wp2
  go_loopw [5] (fun iv wr => ∃ (i : Int), -1 ≤ i ∧ i ≤ b + 1 ∧ iv = .int .i64 i ∧ Below w.heap.size w wr) (fun iv _ => ((b : Int) + 1 - intOf iv).toNat)
  case atStart => exact ⟨-1, by omega, by omega, rfl, Below.refl _ _⟩
  case round =>
    obtain ⟨i, hi1, hi2, rfl, hbw⟩ := hrel
    have hVr := hV.below hbw
    have hRr := hR.below hbw
    have x0 := hRr.blk.cell (j := 0) rfl
    by_cases hib : i ≤ (b : Int)
    · by_cases hneg : i < 0
      · go_wp2_with fail
        go_fit (block_bad wr v r s b z N bs vs last i hVr (.inl hneg))
        rintro x w1 ⟨rfl, rfl⟩
        go_wp2
        go_roundw
        case rel => exact ⟨i + 1, by omega, by omega, by go_num, hbw⟩
        case measure => simp [intOf]; omega
      · have hneg' : decide (i < 0) = false := decide_eq_false hneg
        by_cases hie : i = (b : Int)
        · subst hie
          go_wp2_with fail
          go_fit (block_bad wr v r s b z N bs vs last b hVr (.inr ⟨by omega, by omega⟩))
          rintro x w1 ⟨rfl, rfl⟩
          go_wp2
          go_roundw
          case rel => exact ⟨(b : Int) + 1, by omega, by omega, by go_num, hbw⟩
          case measure => simp [intOf]
        · obtain ⟨I, rfl⟩ := Int.eq_ofNat_of_zero_le (show 0 ≤ i by omega)
          have hI : I < b := by omega
          have heq : ((I : Int) == (b : Int)) = false := by simp; omega
          go_wp2_with fail
          go_fit (block_ok wr v r s b z N bs vs last I hVr hI)
          rintro x w1 ⟨A1, c1, rfl, hc1, hr1, hb1⟩
          have hbw1 := hbw.trans (hb1.mono hbw.size)
          have hR1 := hR.below hbw1
          have hlv : I < vs.length := by rw [hV.lv]; exact hI
          have yv : (ints vs ++ sv)[I]? = some (.int .i64 (vs.getD I 0)) := by
            rw [List.getElem?_append_left (by rw [ints_length]; exact hlv), List.getElem?_eq_getElem (by rw [ints_length]; exact hlv)]
            simp [ints, List.getD, List.getElem?_eq_getElem hlv]
          obtain ⟨A2, c2, q1, q2, q3, q4, q5⟩ := hR1.cells I hI
          have y0 := hR1.ver.cell yv
          have y1 := hR1.row.cell q1
          have y2 := hR1.blk.cell (j := 2) rfl
          have y3 := hR1.blk.cell (j := 3) rfl
          have y4 := hR1.blk.cell (j := 0) rfl
          have hsl := segB_length (bs := bs) (p := I) (n := 1) hV.lb hV.hN hI
          rw [Nat.one_mul] at hsl
          have Hsl := hide hsl
          obtain ⟨y, hy⟩ : ∃ y, vs.getD I 0 = y := ⟨_, rfl⟩
          rw [hy] at y0
          rw [hy]
          clear hsl hy yv x0 hneg hie
          have cv1 : ∀ t, (convert 36 9 (.slice A1 z c1)).run Tryd.prog (w1.drewN t) = .ok (.string (strOf (segB bs I 1 z))) (w1.drewN t) := fun t => convB c1 Hsl.out (hr1.drewN t)
          have cv2 : ∀ t, (convert 36 9 (.slice A2 z c2)).run Tryd.prog (w1.drewN t) = .ok (.string (strOf (segB bs I 1 z))) (w1.drewN t) := fun t => convB c2 Hsl.out (q4.drewN t)
          have hIb : (I : Int) < (b : Int) := by omega
          have hyy : (y != y) = false := by simp
          go_wp2
          go_quiet (fail)
          go_wp2
          go_roundw
          case rel => exact ⟨(I : Int) + 1, by omega, by omega, by go_num, below_drewN hbw1 _⟩
          case measure => simp [intOf]; omega
    · obtain rfl : i = (b : Int) + 1 := by omega
      have hi3 : decide ((b : Int) + 1 ≤ (b : Int)) = false := decide_eq_false (by omega)
      have HV := hide (show ∀ X, Below w.heap.size w X → VolIs X v r s b z N bs vs last from fun X hX => hV.below hX)
      have HR := hide (show ∀ X, Below w.heap.size w X → RVolIs X lo rv gb gv cb cv b z N rows sv bs vs last from fun X hX => hR.below hX)
      have HTb := hide (show ∀ X, Below w.heap.size w X → Tab X from fun X hX => Rd.below ht hX)
      have HT := hide (show ∀ X Y, Below w.heap.size w X → Below X.heap.size X Y → Below w.heap.size w Y from fun X Y hX hY => hX.trans (hY.mono hX.size))
      have Mk := hide (show ∀ X, Below w.heap.size w X → (Below w.heap.size w X ∧ X.cell? ⟨rv, 0, none⟩ = some (.int .i64 b) ∧ X.cell? ⟨rv, 1, none⟩ = some (.int .i64 z)) from fun X hX => ⟨hX, (hR.below hX).blk.cell (j := 0) rfl, (hR.below hX).blk.cell (j := 1) rfl⟩)
      have HL := hide hV.lb
      have S0 := Mk.out wr.drew hbw.drew
      have x1 := hRr.blk.cell (j := 1) rfl
      clear hib hi1 hi2
      go_wp2
      go_region_held_law (fun W => Below w.heap.size w W ∧ W.cell? ⟨rv, 0, none⟩ = some (.int .i64 b) ∧ W.cell? ⟨rv, 1, none⟩ = some (.int .i64 z)) (assumption) (first
        | (go_at_call 17; refine (shapeOf_any _ v r s b z N bs vs last (HV.out _ (And.left (by assumption)))).mono ?_; rintro x wz ⟨rfl, hbz⟩; have sz := Mk.out _ (HT.out _ _ (And.left (by assumption)) hbz))
        | (go_at_call 14; refine (bytes_any _ v r s b z N bs vs last (HV.out _ (And.left (by assumption)))).mono ?_; rintro x wa ⟨ua, rfl, hoa, hba⟩; obtain ⟨Aa, ca, rfl, _, _, _, hra, _⟩ := own_out hoa; have sa := Mk.out _ (HT.out _ _ (And.left (by assumption)) hba); have cva := convB ca HL.out hra)
        | (go_at_call 24; refine (rbytes_any _ lo rv gb gv cb cv b z N rows sv bs vs last (HR.out _ (And.left (by assumption)))).mono ?_; rintro x wb ⟨ub, rfl, hob, hbb⟩; obtain ⟨Ab, cb', rfl, _, _, _, hrb, _⟩ := own_out hob; have sb := Mk.out _ (HT.out _ _ (And.left (by assumption)) hbb); have cvb := convB cb' HL.out hrb; have cva' := convB ca HL.out (hra.below hbb))
        | (go_at_call 16; refine (vsum_any _ v r s b z N bs vs last (HV.out _ (And.left (by assumption))) (HTb.out _ (And.left (by assumption)))).mono ?_; rintro x wc ⟨rfl, hbc⟩; have sc := Mk.out _ (HT.out _ _ (And.left (by assumption)) hbc))
        | (go_at_call 25; refine (rsumOf_any _ lo rv gb gv cb cv b z N rows sv bs vs last (HR.out _ (And.left (by assumption)))).mono ?_; rintro x wd ⟨rfl, hbd⟩; have sd := Mk.out _ (HT.out _ _ (And.left (by assumption)) hbd)))
      all_goals
        go_wp2
        go_ret
        exact ⟨by first | rfl | (simp; done), by first | exact And.left sd | exact And.left sc⟩
set_option maxRecDepth 20000 in
set_option maxHeartbeats 6400000 in
theorem volumeRuns_walk (b z : Int) (PA : Option Addr) (pn pc : Nat) (pcs : List Value) (pps : List (Int × Int × List UInt8)) (A1 : Option Addr) (n1 c1 : Nat) (w : World) (hpn : pps.length = pn) (hpc : pn ≤ pc) (hpm : pc ≤ 9223372036854775807) (hpr : Rd w PA pcs) (hpP : PgRows w (fun _ => True) pcs pps) (hst : Stps2 w A1 n1) (hn1 : n1 ≤ c1) (hc1 : c1 ≤ 9223372036854775807) (ht : Tab w) :
    Calls Tryd.prog 3 #[shp b z, .slice PA pn pc, .slice A1 n1 c1] w fun x w' => x = .returned (.bool true) ∧ Below w.heap.size w w' := by
  obtain ⟨g, hg⟩ : ∃ g, w.heap.size = g := ⟨_, rfl⟩
  obtain ⟨w0, hw0⟩ : ∃ w0, w.alloc (.cells #[.int .i64 b, .int .i64 z] 23) = w0 := ⟨_, rfl⟩
  have hS : Blk w0 g [.int .i64 b, .int .i64 z] 23 := by rw [← hw0, ← hg]; exact Blk.new w [.int .i64 b, .int .i64 z] _
  have hb0 : Below w.heap.size w w0 := by rw [← hw0]; exact (Below.refl _ _).alloc (Nat.le_refl _) _
  have Hw0 := hide hw0
  have Haw := hide awake05_any
  clear hw0
  rcases shE_two b z with ⟨hsp, hse⟩ | hse
  · obtain ⟨⟨b1, b2⟩, z1, z2⟩ := hsp
    obtain ⟨B, rfl⟩ := Int.eq_ofNat_of_zero_le (show 0 ≤ b by omega)
    obtain ⟨Z, rfl⟩ := Int.eq_ofNat_of_zero_le (show 0 ≤ z by omega)
    obtain ⟨N, hN⟩ : ∃ N, B * Z = N := ⟨_, rfl⟩
    have hmp : mpA (B : Int) (Z : Int) (-1) pps = true ∨ mpA (B : Int) (Z : Int) (-1) pps = false := by cases mpA (B : Int) (Z : Int) (-1) pps <;> simp
    have HB := hide (fun W (hr : Rd W PA pcs) (hP : PgRows W (fun _ => True) pcs pps) => begin_okP B Z N W (by omega) (by omega) hN PA pn pc pcs pps hpn hpc hpm hr hP)
    have HBP := hide (fun W (hr : Rd W PA pcs) (hP : PgRows W (fun _ => True) pcs pps) => begin_badP B Z N W (by omega) (by omega) hN hse PA pn pc pcs pps hpn hpc hpm hr hP)
    have Hse := hide hse
    have HN := hide hN
    clear hse hN hpn
    go_enter Tryd.func3, Tryd.ntmps3
    go_wp2_with fail
    rw [Hw0.out]
    go_fit (Haw.out w0)
    rintro x w1' ⟨rfl, hb1'⟩
    have hb01' := hb0.trans (hb1'.mono hb0.size)
    have hS1' := hS.below hb1'
    have x0 := hS1'.cell (j := 0) rfl
    have x1 := hS1'.cell (j := 1) rfl
    go_wp2_with fail
    go_fit (small_any (B : Int) (Z : Int) w1')
    cases hsm : smB (B : Int) (Z : Int) with
    | false =>
      rintro x w3 ⟨rfl, hb3⟩
      have hb03 := hb01'.trans (hb3.mono hb01'.size)
      have hS3 := hS1'.below hb3
      clear x0 x1
      have x0 := hS3.cell (j := 0) rfl
      have x1 := hS3.cell (j := 1) rfl
      go_wp2_with fail
      go_fit (rshape_any (B : Int) (Z : Int) w3)
      rw [Hse.out]
      rintro x w4 ⟨rfl, hb4⟩
      go_wp2
      go_ret
      exact ⟨rfl, hb03.trans (hb4.mono hb03.size)⟩
    | true =>
      rintro x w1 ⟨rfl, hb1⟩
      have hb01 := hb01'.trans (hb1.mono hb01'.size)
      have hS1 := hS1'.below hb1
      have hst1 := hst.below hb01
      clear x0 x1 hsm
      have x0 := hS1.cell (j := 0) rfl
      have x1 := hS1.cell (j := 1) rfl
      rcases hmp with hmp | hmp
      rotate_left 1
      · have HM := hide hmp
        clear hmp
        go_wp2_with fail
        go_fit (HBP.out w1 (hpr.below hb01) (hpP.below hb01) HM.out)
        rintro x w2 ⟨rfl, hb2⟩
        go_wp2
        go_ret
        exact ⟨rfl, hb01.trans (hb2.mono hb01.size)⟩
      have HM := hide hmp
      clear hmp
      go_wp2_with fail
      go_fit (HB.out w1 (hpr.below hb01) (hpP.below hb01) HM.out)
      rintro x w2 ⟨v, r, s, rv, gb, gv, cb, cv, lo, sv, rfl, hBo, hAt, hb12⟩
      clear x0 x1
      go_wp2
      go_loopw [10] (fun i wr => ∃ (m : Nat), m ≤ n1 ∧ m ≤ 200 ∧ i = .int .i64 m ∧ Both wr w1.heap.size lo v r s rv gb gv cb cv B Z N sv ∧ Below w1.heap.size w1 wr) (fun i _ => n1 - (intOf i).toNat)
      case atStart => exact ⟨0, by omega, by omega, rfl, hBo, hb12⟩
      case round =>
        obtain ⟨m, hm1, hm2, rfl, hBr, hbr⟩ := hrel
        clear hBo
        by_cases hlt : m < n1 ∧ m < 200
        · obtain ⟨hlt1, hlt2⟩ := hlt
          obtain ⟨a, rfl, hop⟩ := hst1 m hlt1
          obtain ⟨rows, bs, vs, last, hV, hR⟩ := hBr
          obtain ⟨k', p', q', D', d', dc', ds', O', o', oc', os', num', A', m', mc', cs', ps', hk', k0, k1, k2, k3, k4, k5, k6, hd', hdc', hdm', ho', hD', hO', hm', hmc', hcm', hr', hP'⟩ := hop
          have hDB := rd_lt3 hD'
          have hOB := rd_lt3 hO'
          have c0 := cell_below hbr k0
          have c1' := cell_below hbr k1
          have c2' := cell_below hbr k2
          have c3 := cell_below hbr k3
          have c4 := cell_below hbr k4
          have c5 := cell_below hbr k5
          have c6 := cell_below hbr k6
          clear k0 k1 k2 k3 k4 k5 k6
          have szr := hbr.size
          by_cases hm0 : m' = 0
          · subst hm0
            have HC := hide (step_do w1.heap.size wr v r s rv gb gv cb cv B Z N sv rows bs vs last lo k' p' q' D' d' dc' ds' O' o' oc' os' num' A' mc' hk' hV hR hAt szr hd' hdc' hdm' ho' (hD'.below hbr) (hO'.below hbr) hDB hOB)
            clear hd' ho'
            go_wp2_with fail
            go_fit HC.out
            rintro x w5 ⟨rfl, hB5, hb5⟩
            go_wp2
            go_roundw
            case rel => exact ⟨m + 1, by omega, by omega, by go_num, hB5, hbr.trans hb5⟩
            case measure => simp [intOf]; omega
          · have HC := hide (step_patch w1.heap.size wr v r s rv gb gv cb cv B Z N sv rows bs vs last lo k' p' q' D' d' dc' O' o' oc' num' A' m' mc' cs' ps' hV hR hAt szr (by omega) hm' hmc' hcm' (hr'.below hbr) (rd_cells_lt hr' hP'.1 (by rintro rfl; simp at hm'; omega)) (hP'.below hbr) (fun hg => (hP'.goodlt hg (by omega)).below hbr))
            clear hd' ho' hm'
            go_wp2_with fail
            go_fit HC.out
            rintro x w5 ⟨rfl, hB5, hb5⟩
            go_wp2
            go_roundw
            case rel => exact ⟨m + 1, by omega, by omega, by go_num, hB5, hbr.trans hb5⟩
            case measure => simp [intOf]; omega
        · obtain ⟨rows, bs, vs, last, hV0, hR0⟩ := hBr
          rcases (show m = n1 ∨ (m < n1 ∧ m = 200) by omega) with rfl | ⟨hl2, rfl⟩
          · clear hlt
            have hVb := hV0
            go_wp2_with fail
            go_fit (same_any wr B lo v r s rv gb gv cb cv B Z N rows sv bs vs last hV0 hR0 ((Rd.below ht hb01).below hbr))
            rintro x w5 ⟨rfl, hb5⟩
            go_wp2
            go_ret
            exact ⟨rfl, hb01.trans ((hbr.trans (hb5.mono hbr.size)).mono hb01.size)⟩
          · clear hlt
            have hVb := hV0
            go_wp2_with fail
            go_fit (same_any wr B lo v r s rv gb gv cb cv B Z N rows sv bs vs last hV0 hR0 ((Rd.below ht hb01).below hbr))
            rintro x w5 ⟨rfl, hb5⟩
            go_wp2
            go_ret
            exact ⟨rfl, hb01.trans ((hbr.trans (hb5.mono hbr.size)).mono hb01.size)⟩
  · have HBg := hide (fun W => begin_badE b z W PA pn pc (by rw [hse]; decide))
    have Hse := hide hse
    clear hse
    go_enter Tryd.func3, Tryd.ntmps3
    go_wp2_with fail
    rw [Hw0.out]
    go_fit (Haw.out w0)
    rintro x w1' ⟨rfl, hb1'⟩
    have hb01' := hb0.trans (hb1'.mono hb0.size)
    have hS1' := hS.below hb1'
    have x0 := hS1'.cell (j := 0) rfl
    have x1 := hS1'.cell (j := 1) rfl
    go_wp2_with fail
    go_fit (small_any b z w1')
    cases hsm : smB b z with
    | false =>
      rintro x w3 ⟨rfl, hb3⟩
      have hb03 := hb01'.trans (hb3.mono hb01'.size)
      have hS3 := hS1'.below hb3
      clear x0 x1
      have x0 := hS3.cell (j := 0) rfl
      have x1 := hS3.cell (j := 1) rfl
      go_wp2_with fail
      go_fit (rshape_any b z w3)
      rw [Hse.out]
      rintro x w4 ⟨rfl, hb4⟩
      have hb04 := hb03.trans (hb4.mono hb03.size)
      have hS4 := hS3.below hb4
      clear x0 x1
      have x0 := hS4.cell (j := 0) rfl
      have x1 := hS4.cell (j := 1) rfl
      go_wp2_with fail
      go_fit (HBg.out w4)
      rintro x w5 ⟨rfl, hb5⟩
      go_wp2
      go_ret
      exact ⟨rfl, hb04.trans (hb5.mono hb04.size)⟩
    | true =>
      rintro x w4 ⟨rfl, hb4⟩
      have hb04 := hb01'.trans (hb4.mono hb01'.size)
      have hS4 := hS1'.below hb4
      clear x0 x1
      have x0 := hS4.cell (j := 0) rfl
      have x1 := hS4.cell (j := 1) rfl
      go_wp2_with fail
      go_fit (HBg.out w4)
      rintro x w5 ⟨rfl, hb5⟩
      go_wp2
      go_ret
      exact ⟨rfl, hb04.trans (hb5.mono hb04.size)⟩
end Go.Proofs.YtjilkaciopiabaaDoor
