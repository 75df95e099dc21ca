/- The law VolumeChanged, walked. -/
import Derived.Test.YtjilkaciopiabaaF05s
import Derived.Test.YtjilkaciopiabaaF05j
import Derived.Test.YtjilkaciopiabaaM05
import Derived.Test.YtjilkaciopiabaaStp
namespace Go.Proofs.Ytjilkaciopiabaa
open Go.RowKit Go.Px
set_option linter.unusedVariables false
theorem VolIs.upd {w w' : World} {v r s b z N : Nat} {bs : List UInt8} {vs : List Int} {last : Int} {v' r' s' : Nat} (h : VolIs w v r s b z N bs vs last) (hU : Upd v' r' s' w w') (hv : v ≠ v' ∧ v ≠ r' ∧ v ≠ s') (hr : r ≠ v' ∧ r ≠ r' ∧ r ≠ s') (hs : s ≠ v' ∧ s ≠ r' ∧ s ≠ s') : VolIs w' v r s b z N bs vs last :=
  { h with
    blk := (hU.blk v h.blk.lt hv.1 hv.2.1 hv.2.2).trans h.blk
    row := (hU.blk r h.row.lt hr.1 hr.2.1 hr.2.2).trans h.row
    ver := (hU.blk s h.ver.lt hs.1 hs.2.1 hs.2.2).trans h.ver }
theorem rd_lt {w : World} {A : Option Addr} {ds : List UInt8} (h : Rd w A (bys ds)) (hne : ds ≠ []) : ∀ a, A = some a → a.block < w.heap.size := by
  intro a ha
  cases ds with
  | nil => exact absurd rfl hne
  | cons x r =>
    obtain ⟨a', ha', hc⟩ := h 0 _ rfl
    rw [ha] at ha'
    injection ha' with ha'
    subst ha'
    have := World.block_lt_of_cell? w _ hc
    rwa [add_block] at this
theorem getD_zero_le (b i n : Nat) : (List.replicate b (0 : Int)).getD i 0 ≤ n := by
  simp [List.getD, List.getElem?_replicate]; split <;> simp
set_option maxRecDepth 20000 in
set_option maxHeartbeats 6400000 in
theorem volumeChanged_walk (b z : Int) (A1 : Option Addr) (n1 c1 : Nat) (A2 : Option Addr) (n2 c2 : Nat) (w : World) (hs1 : Stps w A1 n1) (hs2 : Stps w A2 n2) (hn1 : n1 ≤ c1) (hn2 : n2 ≤ c2) (hc1 : c1 ≤ 9223372036854775807) (hc2 : c2 ≤ 9223372036854775807) :
    Calls Try.prog 6 #[shp b z, .slice A1 n1 c1, .slice A2 n2 c2] w fun x w' => x = .returned (.bool true) ∧ Below w.heap.size w w' := by
  obtain ⟨g, hg⟩ : ∃ g, w.heap.size = g := ⟨_, rfl⟩
  obtain ⟨w0, hw0⟩ : ∃ w0, w.alloc (.cells #[.int .i64 b, .int .i64 z] 23) = w0 := ⟨_, rfl⟩
  have hS : Blk w0 g [.int .i64 b, .int .i64 z] 23 := by rw [← hw0, ← hg]; exact Blk.new w [.int .i64 b, .int .i64 z] _
  have hb0 : Below w.heap.size w w0 := by rw [← hw0]; exact (Below.refl _ _).alloc (Nat.le_refl _) _
  have Hw0 := hide hw0
  have Haw := hide awake05_any
  clear hw0
  rcases shE_two b z with ⟨hsp, hse⟩ | hse
  · obtain ⟨⟨b1, b2⟩, z1, z2⟩ := hsp
    obtain ⟨B, rfl⟩ := Int.eq_ofNat_of_zero_le (show 0 ≤ b by omega)
    obtain ⟨Z, rfl⟩ := Int.eq_ofNat_of_zero_le (show 0 ≤ z by omega)
    obtain ⟨N, hN⟩ : ∃ N, B * Z = N := ⟨_, rfl⟩
    have HB := hide (fun W => begin_ok B Z N W (by omega) (by omega) hN)
    have Hse := hide hse
    have HN := hide hN
    clear hse hN
    go_enter Try.func6, Try.ntmps6
    go_wp2_with fail
    rw [Hw0.out]
    go_fit (Haw.out w0)
    rintro x w1 ⟨rfl, hb1⟩
    have hb01 := hb0.trans (hb1.mono hb0.size)
    have hS1 := hS.below hb1
    have x0 := hS1.cell (j := 0) rfl
    have x1 := hS1.cell (j := 1) rfl
    go_wp2_with fail
    go_fit (HB.out w1)
    rintro x w2 ⟨v, r, s, rv, rfl, hV2, hb2, l1, l2, l3⟩
    have hb02 := hb01.trans (hb2.mono hb01.size)
    have hS2 := hS1.below hb2
    clear x0 x1
    have x0 := hS2.cell (j := 0) rfl
    have x1 := hS2.cell (j := 1) rfl
    go_wp2_with fail
    go_fit (HB.out w2)
    rintro x w3 ⟨v', r', s', rv', rfl, hW3, hb3, m1, m2, m3⟩
    have hb03 := hb02.trans (hb3.mono hb02.size)
    have hS3 := hS2.below hb3
    have hV3 := hV2.below hb3
    have vl := hV2.blk.lt
    have rl := hV2.row.lt
    have sl := hV2.ver.lt
    have sz01 := hb01.size
    clear x0 x1
    have x0 := hS3.cell (j := 0) rfl
    have x1 := hS3.cell (j := 1) rfl
    go_wp2_with fail
    go_fit (small_any (B : Int) (Z : Int) w3)
    cases hsm : smB (B : Int) (Z : Int) with
    | false =>
      rintro x w4 ⟨rfl, hb4⟩
      clear hsm
      go_wp2
      go_ret
      exact ⟨rfl, hb03.trans (hb4.mono hb03.size)⟩
    | true =>
      rintro x w4 ⟨rfl, hb4⟩
      have hb04 := hb03.trans (hb4.mono hb03.size)
      have hV4 := hV3.below hb4
      have hW4 := hW3.below hb4
      clear hsm x0 x1
      go_wp2
      go_loopw [13] (fun i wr => ∃ (j : Nat) (bs : List UInt8) (vs : List Int) (last : Int), j ≤ n1 ∧ j ≤ 200 ∧ i = .int .i64 j ∧ VolIs wr v r s B Z N bs vs last ∧ VolIs wr v' r' s' B Z N bs vs last ∧ (∀ i, i < B → vs.getD i 0 ≤ j) ∧ Below w.heap.size w wr) (fun i _ => n1 - (intOf i).toNat)
      case atStart => exact ⟨0, _, _, _, by omega, by omega, rfl, hV4, hW4, fun i _ => getD_zero_le B i 0, hb04⟩
      case round =>
        obtain ⟨j, bs, vs, last, hj1, hj2, rfl, hV, hW, hle, hbw⟩ := hrel
        by_cases hlt : j < n1 ∧ j < 200
        · obtain ⟨hlt1, hlt2⟩ := hlt
          obtain ⟨a, rfl, hop⟩ := hs1 j hlt1
          obtain ⟨k, p, m, D, d, dc, ds, O, o, oc, os, hk, k0, k1, k2, k3, k4, hd, ho, hD, hO⟩ := hop
          have hDv := rd_lt hD
          have hOv := rd_lt hO
          have c0 := cell_below hbw k0
          have c1' := cell_below hbw k1
          have c2' := cell_below hbw k2
          have c3 := cell_below hbw k3
          have c4 := cell_below hbw k4
          have Hd := hide hd
          have Ho := hide ho
          clear hd ho
          go_wp2_with fail
          go_fit (do_any wr v r s B Z N bs vs last k p m D d dc ds O o oc os ((j : Int) + 1) hk hV Hd.out Ho.out (hD.below hbw) (hO.below hbw) (fun hh a ha => by have := hDv hh a ha; exact ⟨by omega, by omega, by omega⟩) (fun hh a ha => by have := hOv hh a ha; exact ⟨by omega, by omega, by omega⟩))
          rintro x w5 ⟨A5, c5, rfl, _, _, hV5, hU5⟩
          have hb5 := hU5.below hbw hbw.size (by omega) (by omega) (by omega)
          have hW5 := hW.upd hU5 ⟨by omega, by omega, by omega⟩ ⟨by omega, by omega, by omega⟩ ⟨by omega, by omega, by omega⟩
          clear c0 c1' c2' c3 c4
          have c0 := cell_below hb5 k0
          have c1' := cell_below hb5 k1
          have c2' := cell_below hb5 k2
          have c3 := cell_below hb5 k3
          have c4 := cell_below hb5 k4
          go_wp2_with fail
          go_fit (do_any w5 v' r' s' B Z N bs vs last k p m D d dc ds O o oc os ((j : Int) + 1) hk hW5 Hd.out Ho.out (hD.below hb5) (hO.below hb5) (fun hh a ha => by have := hDv hh a ha; exact ⟨by omega, by omega, by omega⟩) (fun hh a ha => by have := hOv hh a ha; exact ⟨by omega, by omega, by omega⟩))
          rintro x w6 ⟨A6, c6, rfl, _, _, hW6, hU6⟩
          have hb6 := hU6.below hb5 hb5.size (by omega) (by omega) (by omega)
          have hV6 := hV5.upd hU6 ⟨by omega, by omega, by omega⟩ ⟨by omega, by omega, by omega⟩ ⟨by omega, by omega, by omega⟩
          have hle6 := do_versions (z := Z) (bs := bs) (last := last) (k := k) (p := p) (m := m) (ds := ds) (os := os) hV.lv hle (show (j : Int) ≤ (j : Int) + 1 by omega)
          go_wp2
          go_roundw
          case rel => exact ⟨j + 1, _, _, _, by omega, by omega, by go_num, hV6, hW6, fun i hi => by have := hle6 i hi; omega, hb6⟩
          case measure => simp [intOf]; omega
        · rcases (show j = n1 ∨ (j < n1 ∧ j = 200) by omega) with rfl | ⟨hl, rfl⟩
          · have hle0 : ∀ i, i < B → vs.getD i 0 ≤ (j : Int) := fun i hi => by have := hle i hi; omega
            clear hle
            go_wp2
            go_loopw [15] (fun i wr => ∃ (m : Nat) (bs' : List UInt8) (vs' : List Int) (last' : Int), m ≤ n2 ∧ m ≤ 200 ∧ i = .int .i64 m ∧ VolIs wr v r s B Z N bs' vs' last' ∧ VolIs wr v' r' s' B Z N bs vs last ∧ Since B Z (j : Int) bs vs bs' vs' ∧ (∀ i, i < B → vs'.getD i 0 ≤ (j : Int) + m) ∧ Below w.heap.size w wr) (fun i _ => n2 - (intOf i).toNat)
            case atStart => exact ⟨0, _, _, _, by omega, by omega, rfl, hV, hW, Since.refl _ _ _ _ _, fun i hi => by have := hle0 i hi; omega, hbw⟩
            case round =>
              obtain ⟨m, bs', vs', last', hm1, hm2, rfl, hV, hW, hsi, hle', hbw⟩ := hrel
              by_cases hlt : m < n2 ∧ m < 200
              · obtain ⟨hlt1, hlt2⟩ := hlt
                obtain ⟨a, rfl, hop⟩ := hs2 m hlt1
                obtain ⟨k, p, q, D, d, dc, ds, O, o, oc, os, hk, k0, k1, k2, k3, k4, hd, ho, hD, hO⟩ := hop
                have hDv := rd_lt hD
                have hOv := rd_lt hO
                have c0 := cell_below hbw k0
                have c1' := cell_below hbw k1
                have c2' := cell_below hbw k2
                have c3 := cell_below hbw k3
                have c4 := cell_below hbw k4
                have Hd := hide hd
                have Ho := hide ho
                clear hd ho
                go_wp2_with fail
                go_fit (do_any wr v r s B Z N bs' vs' last' k p q D d dc ds O o oc os ((j : Int) + (m : Int) + 1) hk hV Hd.out Ho.out (hD.below hbw) (hO.below hbw) (fun hh a ha => by have := hDv hh a ha; exact ⟨by omega, by omega, by omega⟩) (fun hh a ha => by have := hOv hh a ha; exact ⟨by omega, by omega, by omega⟩))
                rintro x w5 ⟨A5, c5, rfl, _, _, hV5, hU5⟩
                have hb5 := hU5.below hbw hbw.size (by omega) (by omega) (by omega)
                have hW5 := hW.upd hU5 ⟨by omega, by omega, by omega⟩ ⟨by omega, by omega, by omega⟩ ⟨by omega, by omega, by omega⟩
                have hle6 := do_versions (z := Z) (bs := bs') (last := last') (k := k) (p := p) (m := q) (ds := ds) (os := os) hV.lv hle' (show (j : Int) + (m : Int) ≤ (j : Int) + (m : Int) + 1 by omega)
                have hsi6 := hsi.step hV.lb hV.lv HN.out last' k p q ds os (show (j : Int) < (j : Int) + (m : Int) + 1 by omega)
                go_wp2
                go_roundw
                case rel => exact ⟨m + 1, _, _, _, by omega, by omega, by go_num, hV5, hW5, hsi6, fun i hi => by have := hle6 i hi; omega, hb5⟩
                case measure => simp [intOf]; omega
              · rcases (show m = n2 ∨ (m < n2 ∧ m = 200) by omega) with rfl | ⟨hl2, rfl⟩
                · clear hlt
                  go_wp2_with fail
                  go_fit (pages_any wr v r s B Z N bs' vs' last' (j : Int) hV)
                  rintro x w5 ⟨o5, cs5, rfl, ho5, hP5, hb5⟩
                  have hszw := hbw.size
                  have hb05 := hbw.trans (hb5.mono hbw.size)
                  have hV5 := hV.below hb5
                  have hW5 := hW.below hb5
                  have vl5 := hV.blk.lt
                  have rl5 := hV.row.lt
                  have sl5 := hV.ver.lt
                  have vl6 := hW.blk.lt
                  have rl6 := hW.row.lt
                  have sl6 := hW.ver.lt
                  obtain ⟨A5, c5, rfl, hl5, hc5, hcm5, hr5, ha5⟩ := own_out ho5
                  have hmay : mpA (B : Int) (Z : Int) (-1) (pgL Z bs' vs' (j : Int) B) = true := pgL_may hV.lb HN.out (fun i hi => by have := hle' i hi; omega) B (Nat.le_refl _)
                  obtain ⟨e1, e2⟩ := pages_later (n := (j : Int)) (by omega) (by omega) hW.lb hV.lb hW.lv hV.lv HN.out hsi hle0
                  obtain ⟨PL, hPL⟩ : ∃ x, pgL Z bs' vs' (j : Int) B = x := ⟨_, rfl⟩
                  rw [hPL] at hmay e1 e2 hP5 hl5 hc5
                  rw [hPL]
                  clear hPL ho5
                  go_wp2_with fail
                  go_fit (patch_ok w5 v' r' s' B Z N bs vs last A5 _ c5 cs5 PL hW5 rfl hc5 (by unfold maxLen at hcm5; omega) hr5 (fun a ha => by have := ha5 a ha; exact ⟨by omega, by omega, by omega⟩) (hP5.keep (fun A xs hr _ => hr) (fun Q hQ => ⟨by have := hQ.1; omega, by have := hQ.1; omega, by have := hQ.1; omega⟩)) hmay)
                  rintro x w6 ⟨rfl, hW6, hU6⟩
                  rw [e1, e2] at hW6
                  have hV6 := hV5.upd hU6 ⟨by omega, by omega, by omega⟩ ⟨by omega, by omega, by omega⟩ ⟨by omega, by omega, by omega⟩
                  have hb06 := hU6.below hb05 hb05.size (by omega) (by omega) (by omega)
                  clear e1 e2 hmay hle' hle0 hsi hP5 hr5 ha5 hl5 hcm5 hc5 hU6
                  obtain ⟨L6, hL6⟩ : ∃ x, layL last PL = x := ⟨_, rfl⟩
                  rw [hL6] at hW6
                  clear hL6
                  have HV := hide (show ∀ X, Below w6.heap.size w6 X → VolIs X v r s B Z N bs' vs' last' from fun X hX => hV6.below hX)
                  have HW := hide (show ∀ X, Below w6.heap.size w6 X → VolIs X v' r' s' B Z N bs' vs' L6 from fun X hX => hW6.below hX)
                  have HT := hide (show ∀ X Y, Below w6.heap.size w6 X → Below X.heap.size X Y → Below w6.heap.size w6 Y from fun X Y hX hY => hX.trans (hY.mono hX.size))
                  have HL := hide hV6.lb
                  have HE := hide (show ∀ X, Below w6.heap.size w6 X → Below w.heap.size w X from fun X hX => hb06.trans (hX.mono hb06.size))
                  have S0 : Below w6.heap.size w6 w6.drew := (Below.refl _ _).drew
                  obtain ⟨PZ, hPZ⟩ : ∃ x, pgL Z bs' vs' 0 B = x := ⟨_, rfl⟩
                  have HPZ := hide hPZ
                  clear hPZ
                  go_wp2
                  go_region_held_law (fun W => Below w6.heap.size w6 W) (assumption) (first
                    | (go_at_call_of 16 (Value.pointer (some ⟨v, 0, none⟩)); refine (bytes_any _ v r s B Z N bs' vs' last' (HV.out _ (by assumption))).mono ?_; rintro x wa ⟨ua, rfl, hoa, hba⟩; obtain ⟨Aa, ca, rfl, _, _, _, hra, _⟩ := own_out hoa; have sa := HT.out _ _ (by assumption) hba; have cva := convB ca HL.out hra)
                    | (go_at_call_of 16 (Value.pointer (some ⟨v', 0, none⟩)); refine (bytes_any _ v' r' s' B Z N bs' vs' L6 (HW.out _ (by assumption))).mono ?_; rintro x wb ⟨ub, rfl, hob, hbb⟩; obtain ⟨Ab, cb, rfl, _, _, _, hrb, _⟩ := own_out hob; have sb := HT.out _ _ (by assumption) hbb; have cvb := convB cb HL.out hrb; have cva' := convB ca HL.out (hra.below hbb))
                    | (go_at_call_of 13 (Value.pointer (some ⟨v, 0, none⟩)); refine (pages_any _ v r s B Z N bs' vs' last' 0 (HV.out _ (by assumption))).mono ?_; rw [HPZ.out]; rintro x wc ⟨oc, cc, rfl, hoc, hPc, hbc⟩; obtain ⟨Ac, kc, rfl, hlc, hcc, hcmc, hrc, hac⟩ := own_out hoc; have sc := HT.out _ _ (by assumption) hbc)
                    | (go_at_call_of 13 (Value.pointer (some ⟨v', 0, none⟩)); refine (pages_any _ v' r' s' B Z N bs' vs' L6 0 (HW.out _ (by assumption))).mono ?_; rw [HPZ.out]; rintro x wd ⟨od, cd, rfl, hod, hPd, hbd⟩; obtain ⟨Ad, kd, rfl, hld, hcd, hcmd, hrd, had⟩ := own_out hod; have sd := HT.out _ _ (by assumption) hbd; have hrc' := hrc.below hbd; have hPc' := hPc.below hbd)
                    | (go_at_call 12; refine (samePages_eq Ac PZ.length kc cc Ad kd cd PZ _ _ _ rfl hcc hcmc hrc' hrd hPc' hPd).mono ?_; rintro x we ⟨rfl, qe, rfl⟩; have se := below_drewN sd qe))
                  all_goals
                    go_wp2
                    go_ret
                    exact ⟨by simp, HE.out _ (by assumption)⟩
                · clear hlt
                  go_wp2_with fail
                  go_fit (pages_any wr v r s B Z N bs' vs' last' (j : Int) hV)
                  rintro x w5 ⟨o5, cs5, rfl, ho5, hP5, hb5⟩
                  have hszw := hbw.size
                  have hb05 := hbw.trans (hb5.mono hbw.size)
                  have hV5 := hV.below hb5
                  have hW5 := hW.below hb5
                  have vl5 := hV.blk.lt
                  have rl5 := hV.row.lt
                  have sl5 := hV.ver.lt
                  have vl6 := hW.blk.lt
                  have rl6 := hW.row.lt
                  have sl6 := hW.ver.lt
                  obtain ⟨A5, c5, rfl, hl5, hc5, hcm5, hr5, ha5⟩ := own_out ho5
                  have hmay : mpA (B : Int) (Z : Int) (-1) (pgL Z bs' vs' (j : Int) B) = true := pgL_may hV.lb HN.out (fun i hi => by have := hle' i hi; omega) B (Nat.le_refl _)
                  obtain ⟨e1, e2⟩ := pages_later (n := (j : Int)) (by omega) (by omega) hW.lb hV.lb hW.lv hV.lv HN.out hsi hle0
                  obtain ⟨PL, hPL⟩ : ∃ x, pgL Z bs' vs' (j : Int) B = x := ⟨_, rfl⟩
                  rw [hPL] at hmay e1 e2 hP5 hl5 hc5
                  rw [hPL]
                  clear hPL ho5
                  go_wp2_with fail
                  go_fit (patch_ok w5 v' r' s' B Z N bs vs last A5 _ c5 cs5 PL hW5 rfl hc5 (by unfold maxLen at hcm5; omega) hr5 (fun a ha => by have := ha5 a ha; exact ⟨by omega, by omega, by omega⟩) (hP5.keep (fun A xs hr _ => hr) (fun Q hQ => ⟨by have := hQ.1; omega, by have := hQ.1; omega, by have := hQ.1; omega⟩)) hmay)
                  rintro x w6 ⟨rfl, hW6, hU6⟩
                  rw [e1, e2] at hW6
                  have hV6 := hV5.upd hU6 ⟨by omega, by omega, by omega⟩ ⟨by omega, by omega, by omega⟩ ⟨by omega, by omega, by omega⟩
                  have hb06 := hU6.below hb05 hb05.size (by omega) (by omega) (by omega)
                  clear e1 e2 hmay hle' hle0 hsi hP5 hr5 ha5 hl5 hcm5 hc5 hU6
                  obtain ⟨L6, hL6⟩ : ∃ x, layL last PL = x := ⟨_, rfl⟩
                  rw [hL6] at hW6
                  clear hL6
                  have HV := hide (show ∀ X, Below w6.heap.size w6 X → VolIs X v r s B Z N bs' vs' last' from fun X hX => hV6.below hX)
                  have HW := hide (show ∀ X, Below w6.heap.size w6 X → VolIs X v' r' s' B Z N bs' vs' L6 from fun X hX => hW6.below hX)
                  have HT := hide (show ∀ X Y, Below w6.heap.size w6 X → Below X.heap.size X Y → Below w6.heap.size w6 Y from fun X Y hX hY => hX.trans (hY.mono hX.size))
                  have HL := hide hV6.lb
                  have HE := hide (show ∀ X, Below w6.heap.size w6 X → Below w.heap.size w X from fun X hX => hb06.trans (hX.mono hb06.size))
                  have S0 : Below w6.heap.size w6 w6.drew := (Below.refl _ _).drew
                  obtain ⟨PZ, hPZ⟩ : ∃ x, pgL Z bs' vs' 0 B = x := ⟨_, rfl⟩
                  have HPZ := hide hPZ
                  clear hPZ
                  go_wp2
                  go_region_held_law (fun W => Below w6.heap.size w6 W) (assumption) (first
                    | (go_at_call_of 16 (Value.pointer (some ⟨v, 0, none⟩)); refine (bytes_any _ v r s B Z N bs' vs' last' (HV.out _ (by assumption))).mono ?_; rintro x wa ⟨ua, rfl, hoa, hba⟩; obtain ⟨Aa, ca, rfl, _, _, _, hra, _⟩ := own_out hoa; have sa := HT.out _ _ (by assumption) hba; have cva := convB ca HL.out hra)
                    | (go_at_call_of 16 (Value.pointer (some ⟨v', 0, none⟩)); refine (bytes_any _ v' r' s' B Z N bs' vs' L6 (HW.out _ (by assumption))).mono ?_; rintro x wb ⟨ub, rfl, hob, hbb⟩; obtain ⟨Ab, cb, rfl, _, _, _, hrb, _⟩ := own_out hob; have sb := HT.out _ _ (by assumption) hbb; have cvb := convB cb HL.out hrb; have cva' := convB ca HL.out (hra.below hbb))
                    | (go_at_call_of 13 (Value.pointer (some ⟨v, 0, none⟩)); refine (pages_any _ v r s B Z N bs' vs' last' 0 (HV.out _ (by assumption))).mono ?_; rw [HPZ.out]; rintro x wc ⟨oc, cc, rfl, hoc, hPc, hbc⟩; obtain ⟨Ac, kc, rfl, hlc, hcc, hcmc, hrc, hac⟩ := own_out hoc; have sc := HT.out _ _ (by assumption) hbc)
                    | (go_at_call_of 13 (Value.pointer (some ⟨v', 0, none⟩)); refine (pages_any _ v' r' s' B Z N bs' vs' L6 0 (HW.out _ (by assumption))).mono ?_; rw [HPZ.out]; rintro x wd ⟨od, cd, rfl, hod, hPd, hbd⟩; obtain ⟨Ad, kd, rfl, hld, hcd, hcmd, hrd, had⟩ := own_out hod; have sd := HT.out _ _ (by assumption) hbd; have hrc' := hrc.below hbd; have hPc' := hPc.below hbd)
                    | (go_at_call 12; refine (samePages_eq Ac PZ.length kc cc Ad kd cd PZ _ _ _ rfl hcc hcmc hrc' hrd hPc' hPd).mono ?_; rintro x we ⟨rfl, qe, rfl⟩; have se := below_drewN sd qe))
                  all_goals
                    go_wp2
                    go_ret
                    exact ⟨by simp, HE.out _ (by assumption)⟩
          · have hle0 : ∀ i, i < B → vs.getD i 0 ≤ (200 : Int) := fun i hi => by have := hle i hi; omega
            clear hle
            go_wp2
            go_loopw [15] (fun i wr => ∃ (m : Nat) (bs' : List UInt8) (vs' : List Int) (last' : Int), m ≤ n2 ∧ m ≤ 200 ∧ i = .int .i64 m ∧ VolIs wr v r s B Z N bs' vs' last' ∧ VolIs wr v' r' s' B Z N bs vs last ∧ Since B Z (200 : Int) bs vs bs' vs' ∧ (∀ i, i < B → vs'.getD i 0 ≤ (200 : Int) + m) ∧ Below w.heap.size w wr) (fun i _ => n2 - (intOf i).toNat)
            case atStart => exact ⟨0, _, _, _, by omega, by omega, rfl, hV, hW, Since.refl _ _ _ _ _, fun i hi => by have := hle0 i hi; omega, hbw⟩
            case round =>
              obtain ⟨m, bs', vs', last', hm1, hm2, rfl, hV, hW, hsi, hle', hbw⟩ := hrel
              by_cases hlt : m < n2 ∧ m < 200
              · obtain ⟨hlt1, hlt2⟩ := hlt
                obtain ⟨a, rfl, hop⟩ := hs2 m hlt1
                obtain ⟨k, p, q, D, d, dc, ds, O, o, oc, os, hk, k0, k1, k2, k3, k4, hd, ho, hD, hO⟩ := hop
                have hDv := rd_lt hD
                have hOv := rd_lt hO
                have c0 := cell_below hbw k0
                have c1' := cell_below hbw k1
                have c2' := cell_below hbw k2
                have c3 := cell_below hbw k3
                have c4 := cell_below hbw k4
                have Hd := hide hd
                have Ho := hide ho
                clear hd ho
                go_wp2_with fail
                go_fit (do_any wr v r s B Z N bs' vs' last' k p q D d dc ds O o oc os ((200 : Int) + (m : Int) + 1) hk hV Hd.out Ho.out (hD.below hbw) (hO.below hbw) (fun hh a ha => by have := hDv hh a ha; exact ⟨by omega, by omega, by omega⟩) (fun hh a ha => by have := hOv hh a ha; exact ⟨by omega, by omega, by omega⟩))
                rintro x w5 ⟨A5, c5, rfl, _, _, hV5, hU5⟩
                have hb5 := hU5.below hbw hbw.size (by omega) (by omega) (by omega)
                have hW5 := hW.upd hU5 ⟨by omega, by omega, by omega⟩ ⟨by omega, by omega, by omega⟩ ⟨by omega, by omega, by omega⟩
                have hle6 := do_versions (z := Z) (bs := bs') (last := last') (k := k) (p := p) (m := q) (ds := ds) (os := os) hV.lv hle' (show (200 : Int) + (m : Int) ≤ (200 : Int) + (m : Int) + 1 by omega)
                have hsi6 := hsi.step hV.lb hV.lv HN.out last' k p q ds os (show (200 : Int) < (200 : Int) + (m : Int) + 1 by omega)
                go_wp2
                go_roundw
                case rel => exact ⟨m + 1, _, _, _, by omega, by omega, by go_num, hV5, hW5, hsi6, fun i hi => by have := hle6 i hi; omega, hb5⟩
                case measure => simp [intOf]; omega
              · rcases (show m = n2 ∨ (m < n2 ∧ m = 200) by omega) with rfl | ⟨hl2, rfl⟩
                · clear hlt
                  go_wp2_with fail
                  go_fit (pages_any wr v r s B Z N bs' vs' last' (200 : Int) hV)
                  rintro x w5 ⟨o5, cs5, rfl, ho5, hP5, hb5⟩
                  have hszw := hbw.size
                  have hb05 := hbw.trans (hb5.mono hbw.size)
                  have hV5 := hV.below hb5
                  have hW5 := hW.below hb5
                  have vl5 := hV.blk.lt
                  have rl5 := hV.row.lt
                  have sl5 := hV.ver.lt
                  have vl6 := hW.blk.lt
                  have rl6 := hW.row.lt
                  have sl6 := hW.ver.lt
                  obtain ⟨A5, c5, rfl, hl5, hc5, hcm5, hr5, ha5⟩ := own_out ho5
                  have hmay : mpA (B : Int) (Z : Int) (-1) (pgL Z bs' vs' (200 : Int) B) = true := pgL_may hV.lb HN.out (fun i hi => by have := hle' i hi; omega) B (Nat.le_refl _)
                  obtain ⟨e1, e2⟩ := pages_later (n := (200 : Int)) (by omega) (by omega) hW.lb hV.lb hW.lv hV.lv HN.out hsi hle0
                  obtain ⟨PL, hPL⟩ : ∃ x, pgL Z bs' vs' (200 : Int) B = x := ⟨_, rfl⟩
                  rw [hPL] at hmay e1 e2 hP5 hl5 hc5
                  rw [hPL]
                  clear hPL ho5
                  go_wp2_with fail
                  go_fit (patch_ok w5 v' r' s' B Z N bs vs last A5 _ c5 cs5 PL hW5 rfl hc5 (by unfold maxLen at hcm5; omega) hr5 (fun a ha => by have := ha5 a ha; exact ⟨by omega, by omega, by omega⟩) (hP5.keep (fun A xs hr _ => hr) (fun Q hQ => ⟨by have := hQ.1; omega, by have := hQ.1; omega, by have := hQ.1; omega⟩)) hmay)
                  rintro x w6 ⟨rfl, hW6, hU6⟩
                  rw [e1, e2] at hW6
                  have hV6 := hV5.upd hU6 ⟨by omega, by omega, by omega⟩ ⟨by omega, by omega, by omega⟩ ⟨by omega, by omega, by omega⟩
                  have hb06 := hU6.below hb05 hb05.size (by omega) (by omega) (by omega)
                  clear e1 e2 hmay hle' hle0 hsi hP5 hr5 ha5 hl5 hcm5 hc5 hU6
                  obtain ⟨L6, hL6⟩ : ∃ x, layL last PL = x := ⟨_, rfl⟩
                  rw [hL6] at hW6
                  clear hL6
                  have HV := hide (show ∀ X, Below w6.heap.size w6 X → VolIs X v r s B Z N bs' vs' last' from fun X hX => hV6.below hX)
                  have HW := hide (show ∀ X, Below w6.heap.size w6 X → VolIs X v' r' s' B Z N bs' vs' L6 from fun X hX => hW6.below hX)
                  have HT := hide (show ∀ X Y, Below w6.heap.size w6 X → Below X.heap.size X Y → Below w6.heap.size w6 Y from fun X Y hX hY => hX.trans (hY.mono hX.size))
                  have HL := hide hV6.lb
                  have HE := hide (show ∀ X, Below w6.heap.size w6 X → Below w.heap.size w X from fun X hX => hb06.trans (hX.mono hb06.size))
                  have S0 : Below w6.heap.size w6 w6.drew := (Below.refl _ _).drew
                  obtain ⟨PZ, hPZ⟩ : ∃ x, pgL Z bs' vs' 0 B = x := ⟨_, rfl⟩
                  have HPZ := hide hPZ
                  clear hPZ
                  go_wp2
                  go_region_held_law (fun W => Below w6.heap.size w6 W) (assumption) (first
                    | (go_at_call_of 16 (Value.pointer (some ⟨v, 0, none⟩)); refine (bytes_any _ v r s B Z N bs' vs' last' (HV.out _ (by assumption))).mono ?_; rintro x wa ⟨ua, rfl, hoa, hba⟩; obtain ⟨Aa, ca, rfl, _, _, _, hra, _⟩ := own_out hoa; have sa := HT.out _ _ (by assumption) hba; have cva := convB ca HL.out hra)
                    | (go_at_call_of 16 (Value.pointer (some ⟨v', 0, none⟩)); refine (bytes_any _ v' r' s' B Z N bs' vs' L6 (HW.out _ (by assumption))).mono ?_; rintro x wb ⟨ub, rfl, hob, hbb⟩; obtain ⟨Ab, cb, rfl, _, _, _, hrb, _⟩ := own_out hob; have sb := HT.out _ _ (by assumption) hbb; have cvb := convB cb HL.out hrb; have cva' := convB ca HL.out (hra.below hbb))
                    | (go_at_call_of 13 (Value.pointer (some ⟨v, 0, none⟩)); refine (pages_any _ v r s B Z N bs' vs' last' 0 (HV.out _ (by assumption))).mono ?_; rw [HPZ.out]; rintro x wc ⟨oc, cc, rfl, hoc, hPc, hbc⟩; obtain ⟨Ac, kc, rfl, hlc, hcc, hcmc, hrc, hac⟩ := own_out hoc; have sc := HT.out _ _ (by assumption) hbc)
                    | (go_at_call_of 13 (Value.pointer (some ⟨v', 0, none⟩)); refine (pages_any _ v' r' s' B Z N bs' vs' L6 0 (HW.out _ (by assumption))).mono ?_; rw [HPZ.out]; rintro x wd ⟨od, cd, rfl, hod, hPd, hbd⟩; obtain ⟨Ad, kd, rfl, hld, hcd, hcmd, hrd, had⟩ := own_out hod; have sd := HT.out _ _ (by assumption) hbd; have hrc' := hrc.below hbd; have hPc' := hPc.below hbd)
                    | (go_at_call 12; refine (samePages_eq Ac PZ.length kc cc Ad kd cd PZ _ _ _ rfl hcc hcmc hrc' hrd hPc' hPd).mono ?_; rintro x we ⟨rfl, qe, rfl⟩; have se := below_drewN sd qe))
                  all_goals
                    go_wp2
                    go_ret
                    exact ⟨by simp, HE.out _ (by assumption)⟩
                · clear hlt
                  go_wp2_with fail
                  go_fit (pages_any wr v r s B Z N bs' vs' last' (200 : Int) hV)
                  rintro x w5 ⟨o5, cs5, rfl, ho5, hP5, hb5⟩
                  have hszw := hbw.size
                  have hb05 := hbw.trans (hb5.mono hbw.size)
                  have hV5 := hV.below hb5
                  have hW5 := hW.below hb5
                  have vl5 := hV.blk.lt
                  have rl5 := hV.row.lt
                  have sl5 := hV.ver.lt
                  have vl6 := hW.blk.lt
                  have rl6 := hW.row.lt
                  have sl6 := hW.ver.lt
                  obtain ⟨A5, c5, rfl, hl5, hc5, hcm5, hr5, ha5⟩ := own_out ho5
                  have hmay : mpA (B : Int) (Z : Int) (-1) (pgL Z bs' vs' (200 : Int) B) = true := pgL_may hV.lb HN.out (fun i hi => by have := hle' i hi; omega) B (Nat.le_refl _)
                  obtain ⟨e1, e2⟩ := pages_later (n := (200 : Int)) (by omega) (by omega) hW.lb hV.lb hW.lv hV.lv HN.out hsi hle0
                  obtain ⟨PL, hPL⟩ : ∃ x, pgL Z bs' vs' (200 : Int) B = x := ⟨_, rfl⟩
                  rw [hPL] at hmay e1 e2 hP5 hl5 hc5
                  rw [hPL]
                  clear hPL ho5
                  go_wp2_with fail
                  go_fit (patch_ok w5 v' r' s' B Z N bs vs last A5 _ c5 cs5 PL hW5 rfl hc5 (by unfold maxLen at hcm5; omega) hr5 (fun a ha => by have := ha5 a ha; exact ⟨by omega, by omega, by omega⟩) (hP5.keep (fun A xs hr _ => hr) (fun Q hQ => ⟨by have := hQ.1; omega, by have := hQ.1; omega, by have := hQ.1; omega⟩)) hmay)
                  rintro x w6 ⟨rfl, hW6, hU6⟩
                  rw [e1, e2] at hW6
                  have hV6 := hV5.upd hU6 ⟨by omega, by omega, by omega⟩ ⟨by omega, by omega, by omega⟩ ⟨by omega, by omega, by omega⟩
                  have hb06 := hU6.below hb05 hb05.size (by omega) (by omega) (by omega)
                  clear e1 e2 hmay hle' hle0 hsi hP5 hr5 ha5 hl5 hcm5 hc5 hU6
                  obtain ⟨L6, hL6⟩ : ∃ x, layL last PL = x := ⟨_, rfl⟩
                  rw [hL6] at hW6
                  clear hL6
                  have HV := hide (show ∀ X, Below w6.heap.size w6 X → VolIs X v r s B Z N bs' vs' last' from fun X hX => hV6.below hX)
                  have HW := hide (show ∀ X, Below w6.heap.size w6 X → VolIs X v' r' s' B Z N bs' vs' L6 from fun X hX => hW6.below hX)
                  have HT := hide (show ∀ X Y, Below w6.heap.size w6 X → Below X.heap.size X Y → Below w6.heap.size w6 Y from fun X Y hX hY => hX.trans (hY.mono hX.size))
                  have HL := hide hV6.lb
                  have HE := hide (show ∀ X, Below w6.heap.size w6 X → Below w.heap.size w X from fun X hX => hb06.trans (hX.mono hb06.size))
                  have S0 : Below w6.heap.size w6 w6.drew := (Below.refl _ _).drew
                  obtain ⟨PZ, hPZ⟩ : ∃ x, pgL Z bs' vs' 0 B = x := ⟨_, rfl⟩
                  have HPZ := hide hPZ
                  clear hPZ
                  go_wp2
                  go_region_held_law (fun W => Below w6.heap.size w6 W) (assumption) (first
                    | (go_at_call_of 16 (Value.pointer (some ⟨v, 0, none⟩)); refine (bytes_any _ v r s B Z N bs' vs' last' (HV.out _ (by assumption))).mono ?_; rintro x wa ⟨ua, rfl, hoa, hba⟩; obtain ⟨Aa, ca, rfl, _, _, _, hra, _⟩ := own_out hoa; have sa := HT.out _ _ (by assumption) hba; have cva := convB ca HL.out hra)
                    | (go_at_call_of 16 (Value.pointer (some ⟨v', 0, none⟩)); refine (bytes_any _ v' r' s' B Z N bs' vs' L6 (HW.out _ (by assumption))).mono ?_; rintro x wb ⟨ub, rfl, hob, hbb⟩; obtain ⟨Ab, cb, rfl, _, _, _, hrb, _⟩ := own_out hob; have sb := HT.out _ _ (by assumption) hbb; have cvb := convB cb HL.out hrb; have cva' := convB ca HL.out (hra.below hbb))
                    | (go_at_call_of 13 (Value.pointer (some ⟨v, 0, none⟩)); refine (pages_any _ v r s B Z N bs' vs' last' 0 (HV.out _ (by assumption))).mono ?_; rw [HPZ.out]; rintro x wc ⟨oc, cc, rfl, hoc, hPc, hbc⟩; obtain ⟨Ac, kc, rfl, hlc, hcc, hcmc, hrc, hac⟩ := own_out hoc; have sc := HT.out _ _ (by assumption) hbc)
                    | (go_at_call_of 13 (Value.pointer (some ⟨v', 0, none⟩)); refine (pages_any _ v' r' s' B Z N bs' vs' L6 0 (HW.out _ (by assumption))).mono ?_; rw [HPZ.out]; rintro x wd ⟨od, cd, rfl, hod, hPd, hbd⟩; obtain ⟨Ad, kd, rfl, hld, hcd, hcmd, hrd, had⟩ := own_out hod; have sd := HT.out _ _ (by assumption) hbd; have hrc' := hrc.below hbd; have hPc' := hPc.below hbd)
                    | (go_at_call 12; refine (samePages_eq Ac PZ.length kc cc Ad kd cd PZ _ _ _ rfl hcc hcmc hrc' hrd hPc' hPd).mono ?_; rintro x we ⟨rfl, qe, rfl⟩; have se := below_drewN sd qe))
                  all_goals
                    go_wp2
                    go_ret
                    exact ⟨by simp, HE.out _ (by assumption)⟩
  · have HBg := hide (fun W => begin_bad b z W (by rw [hse]; decide))
    have Hse := hide hse
    clear hse
    go_enter Try.func6, Try.ntmps6
    go_wp2_with fail
    rw [Hw0.out]
    go_fit (Haw.out w0)
    rintro x w1 ⟨rfl, hb1⟩
    have hb01 := hb0.trans (hb1.mono hb0.size)
    have hS1 := hS.below hb1
    have x0 := hS1.cell (j := 0) rfl
    have x1 := hS1.cell (j := 1) rfl
    go_wp2_with fail
    go_fit (HBg.out w1)
    rintro x w2 ⟨rfl, hb2⟩
    have hb02 := hb01.trans (hb2.mono hb01.size)
    have hS2 := hS1.below hb2
    clear x0 x1
    have x0 := hS2.cell (j := 0) rfl
    have x1 := hS2.cell (j := 1) rfl
    go_wp2_with fail
    go_fit (HBg.out w2)
    rintro x w3 ⟨rfl, hb3⟩
    have hb03 := hb02.trans (hb3.mono hb02.size)
    go_wp2
    go_ret
    exact ⟨rfl, hb03⟩
end Go.Proofs.Ytjilkaciopiabaa
