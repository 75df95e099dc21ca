/- The law VolumeReads, walked (written by gen_g5g.py). -/
import Derived.Test.YtjilkaciopiabaaG05f
namespace Go.Proofs.Ytjilkaciopiabaa
open Go.RowKit Go.Px
set_option linter.unusedVariables false
theorem Both.below {w w' : World} {B lo v r s rv gb gv cb cv b z N : Nat} {sv : List Value} (h : Both w B lo v r s rv gb gv cb cv b z N sv) (hb : Below w.heap.size w w') : Both w' B lo v r s rv gb gv cb cv b z N sv := by
  obtain ⟨rows, bs, vs, last, h1, h2⟩ := h
  exact ⟨rows, bs, vs, last, h1.below hb, h2.below hb⟩
theorem splB_take {bs xs : List UInt8} {off : Nat} (h : off ≤ bs.length) : (splB bs off xs).take off = bs.take off := by
  unfold splB
  rw [List.append_assoc, List.take_append_of_le_length (by rw [List.length_take]; omega), List.take_of_length_le (by rw [List.length_take]; omega)]
theorem splB_drop {bs xs : List UInt8} {off : Nat} (h : off ≤ bs.length) : (splB bs off xs).drop (off + xs.length) = bs.drop (off + xs.length) := by
  unfold splB
  rw [List.drop_append_of_le_length (by simp only [List.length_append, List.length_take]; omega), List.drop_eq_nil_of_le (by simp only [List.length_append, List.length_take]; omega), List.nil_append]
theorem splB_seg {bs xs : List UInt8} {P M z : Nat} (h : P * z ≤ bs.length) (hx : xs.length = M * z) : segB (splB bs (P * z) xs) P M z = xs := by
  unfold segB splB
  rw [List.append_assoc, List.drop_append_of_le_length (by rw [List.length_take]; omega), List.drop_eq_nil_of_le (by rw [List.length_take]; omega), List.nil_append, List.take_append_of_le_length (by omega), List.take_of_length_le (by omega)]
theorem read_fit {b z : Nat} {P M : Nat} (hb : 1 ≤ b ∧ b ≤ 4096) (hz : 1 ≤ z ∧ z ≤ 4096) (hM : 1 ≤ M ∧ M ≤ 64) (hP : P + M ≤ b) : ftE b z 1 P M 0 0 = 0 ∧ ftC b z 1 P M 0 0 = 1 := by
  have h1 : ftE b z 1 P M 0 0 = 0 := by
    have hs : shE b z = 0 := by unfold shE; rw [if_pos ⟨⟨by omega, by omega⟩, by omega, by omega⟩]
    unfold ftE
    rw [hs, if_neg (by decide)]
    rcases fmE_two 1 P M 0 0 with ⟨_, h⟩ | h
    · exact h
    · exfalso
      unfold fmE at h
      rw [if_pos (by unfold fmP; omega)] at h
      cases h
  refine ⟨h1, ?_⟩
  unfold ftC
  rw [h1, if_neg (by decide), if_neg (by decide), if_neg (by decide), if_neg (by omega), if_neg (by omega)]
theorem do_read (b z : Nat) (bs : List UInt8) (vs : List Int) (P M : Nat) (num : Int) (hb : 1 ≤ b ∧ b ≤ 4096) (hz : 1 ≤ z ∧ z ≤ 4096) (hM : 1 ≤ M ∧ M ≤ 64) (hP : P + M ≤ b) (hn1 : 1 ≤ num) (hn2 : num ≤ 4611686018427387904) :
    doE b z num 1 P M ([] : List UInt8).length ([] : List UInt8).length num = 0 ∧ doKE b z bs num 1 P M [] [] num = 1 ∧ doDE b z bs num 1 P M [] [] num = segB bs P M z ∧ doBE b z bs num 1 P M [] [] num = bs := by
  obtain ⟨h1, h2⟩ := read_fit hb hz hM hP
  have hs : serB num = true := decide_eq_true ⟨hn1, hn2⟩
  have hE : doE b z num 1 P M ([] : List UInt8).length ([] : List UInt8).length num = 0 := by unfold doE; rw [if_pos ⟨hs, by omega⟩]; exact h1
  refine ⟨hE, ?_, ?_, ?_⟩
  · unfold doKE; rw [if_pos hE]; unfold doK; exact (if_pos h2).trans (if_neg (by omega))
  · unfold doDE; rw [if_pos hE]; unfold doD; exact (if_pos h2).trans (if_pos rfl)
  · unfold doBE; rw [if_pos hE]; unfold doB doW; simp
/-- What a request makes: nothing, or just the bytes of its blocks. -/
theorem do_cases (b z N : Nat) (bs : List UInt8) (vs : List Int) (last : Int) (k : Nat) (p n : Int) (ds os : List UInt8) (num : Int) (hb : 1 ≤ b ∧ b ≤ 4096) (hz : 1 ≤ z ∧ z ≤ 4096) :
    (doE b z last k p n ds.length os.length num ≠ 0 ∧ doBE b z bs last k p n ds os num = bs) ∨
    (doE b z last k p n ds.length os.length num = 0 ∧ doKE b z bs last k p n ds os num ≠ 1 ∧ doBE b z bs last k p n ds os num = bs) ∨
    (doE b z last k p n ds.length os.length num = 0 ∧ doKE b z bs last k p n ds os num = 1 ∧ chB k = false ∧ doBE b z bs last k p n ds os num = bs) ∨
    (doE b z last k p n ds.length os.length num = 0 ∧ doKE b z bs last k p n ds os num = 1 ∧ doLE b z last k p n ds os num = num ∧ 1 ≤ num ∧ num ≤ 4611686018427387904 ∧
      ∃ (P M : Nat) (xs : List UInt8), p = P ∧ (1 ≤ M ∧ M ≤ 64) ∧ P + M ≤ b ∧ xs.length = M * z ∧ doBE b z bs last k p n ds os num = splB bs (P * z) xs ∧
        ((k = 2 ∧ n = M ∧ xs = ds) ∨ (k = 3 ∧ n = M ∧ xs = List.replicate (M * z) 0) ∨ (k = 5 ∧ M = 1 ∧ xs = ds))) := by
  by_cases hE : doE b z last k p n ds.length os.length num = 0
  · unfold doKE doBE doLE
    simp only [hE, if_true]
    have hE' := hE
    unfold doE at hE'
    split at hE'
    case isFalse => cases hE'
    rename_i hn
    obtain ⟨n1, n2⟩ := serB_out hn.1
    by_cases hc : ftC b z k p n ds.length os.length = 1
    · obtain ⟨p1, q1, hg⟩ := fit_good hE' hc
      obtain ⟨P, rfl⟩ := Int.eq_ofNat_of_zero_le p1
      obtain ⟨M, rfl⟩ := Int.eq_ofNat_of_zero_le q1
      rcases hg with rfl | ⟨rfl, g1, g2, g3⟩ | ⟨hkk, g1, g2, g3, g4⟩
      · refine .inr (.inr (.inl ⟨trivial, ?_, rfl, ?_⟩))
        · unfold doK; rw [if_pos hc, if_neg (by omega)]
        · unfold doB doW; simp
      · cases hsg : (segB bs P 1 z == os) with
        | false =>
          refine .inr (.inl ⟨trivial, ?_, ?_⟩)
          · unfold doK; rw [if_pos hc, if_pos ⟨rfl, hsg⟩]; decide
          · unfold doB doW; simp [hsg]
        | true =>
          refine .inr (.inr (.inr ⟨trivial, ?_, trivial, n1, n2, P, 1, ds, rfl, ⟨by omega, by omega⟩, by omega, by omega, ?_, .inr (.inr ⟨rfl, rfl, rfl⟩)⟩))
          · unfold doK; rw [if_pos hc, if_neg (by rw [Int.toNat_natCast, hsg]; simp)]
          · unfold doB; rw [if_pos (by unfold doW; simp [hsg, hc])]; rfl
      · have hk1 : doK b z bs k P M ds.length os = 1 := by unfold doK; rw [if_pos hc, if_neg (by omega)]
        rcases hkk with rfl | rfl | rfl
        · exact .inr (.inr (.inl ⟨trivial, hk1, rfl, by unfold doB doW; simp⟩))
        · refine .inr (.inr (.inr ⟨trivial, hk1, trivial, n1, n2, P, M, ds, rfl, ⟨by omega, by omega⟩, by omega, ?_, ?_, .inl ⟨rfl, rfl, rfl⟩⟩))
          · have := g4 rfl; exact Int.ofNat.inj (by simpa using this)
          · unfold doB; rw [if_pos (by unfold doW; simp [hc])]; rfl
        · refine .inr (.inr (.inr ⟨trivial, hk1, trivial, n1, n2, P, M, _, rfl, ⟨by omega, by omega⟩, by omega, by simp, ?_, .inr (.inl ⟨rfl, rfl, rfl⟩)⟩))
          unfold doB; rw [if_pos (by unfold doW; simp [hc])]; rfl
    · refine .inr (.inl ⟨trivial, ?_, ?_⟩)
      · unfold doK; rw [if_neg hc]
        obtain ⟨C, hC⟩ := ftC_nat b z k p n ds.length os.length
        rw [hC]
        intro e
        apply hc
        rw [hC]
        omega
      · unfold doB doW; simp [hc]
  · refine .inl ⟨hE, ?_⟩
    unfold doBE
    rw [if_neg hE]
set_option maxRecDepth 20000 in
set_option maxHeartbeats 6400000 in
theorem volumeReads_walk (b z : Int) (A1 : Option Addr) (n1 c1 : Nat) (k : Nat) (p q : Int) (D : Option Addr) (d dc : Nat) (ds : List UInt8) (O : Option Addr) (o oc : Nat) (os : List UInt8) (w : World) (hst : Stps2 w A1 n1) (hn1 : n1 ≤ c1) (hc1 : c1 ≤ 9223372036854775807) (hk : k < 256) (hd : ds.length = d) (hdc : d ≤ dc) (hdm : dc ≤ 9223372036854775807) (ho : os.length = o) (hDD : Rd w D (bys ds)) (hOO : Rd w O (bys os)) :
    Calls Try.prog 5 #[shp b z, .slice A1 n1 c1, opv k p q D d dc O o oc] w fun x w' => x = .returned (.bool true) ∧ Below w.heap.size w w' := by
  obtain ⟨g, hg⟩ : ∃ g, w.heap.size = g := ⟨_, rfl⟩
  obtain ⟨w0, hw0⟩ : ∃ w0, (w.alloc (.cells #[.int .i64 b, .int .i64 z] 23)).alloc (.cells #[.int .u8 k, .int .i64 p, .int .i64 q, .slice D d dc, .slice O o oc] 37) = w0 := ⟨_, rfl⟩
  have hS : Blk w0 g [.int .i64 b, .int .i64 z] 23 := by rw [← hw0, ← hg]; exact (Blk.new w [.int .i64 b, .int .i64 z] _).alloc _
  have hOp : Blk w0 (g + 1) [.int .u8 k, .int .i64 p, .int .i64 q, .slice D d dc, .slice O o oc] 37 := by
    rw [← hw0, ← hg]
    have := Blk.new (w.alloc (.cells #[.int .i64 b, .int .i64 z] 23)) [.int .u8 k, .int .i64 p, .int .i64 q, .slice D d dc, .slice O o oc] 37
    rwa [World.size_alloc] at this
  have hb0 : Below w.heap.size w w0 := by rw [← hw0]; exact ((Below.refl _ _).alloc (Nat.le_refl _) _).alloc (by simp) _
  have Hw0 := hide hw0
  have Haw := hide awake05_any
  have Hd := hide hd
  have Ho := hide ho
  clear hd ho
  clear hw0
  rcases shE_two b z with ⟨hsp, hse⟩ | hse
  · obtain ⟨⟨b1, b2⟩, z1, z2⟩ := hsp
    obtain ⟨B, rfl⟩ := Int.eq_ofNat_of_zero_le (show 0 ≤ b by omega)
    obtain ⟨Z, rfl⟩ := Int.eq_ofNat_of_zero_le (show 0 ≤ z by omega)
    obtain ⟨N, hN⟩ : ∃ N, B * Z = N := ⟨_, rfl⟩
    have HB := hide (fun W => begin_okP B Z N W (by omega) (by omega) hN none 0 0 [] [] rfl (by omega) (by omega) Rd.nil PgRows.nil rfl)
    have Hse := hide hse
    have HN := hide hN
    clear hse hN
    go_enter Try.func5, Try.ntmps5
    go_wp2_with fail
    rw [Hw0.out]
    go_fit (Haw.out w0)
    rintro x w1 ⟨rfl, hb1⟩
    have hb01 := hb0.trans (hb1.mono hb0.size)
    have hS1 := hS.below hb1
    have hO1 := hOp.below hb1
    have hDw := hDD.below hb01
    have hOw := hOO.below hb01
    have hst1 := hst.below hb01
    have x0 := hS1.cell (j := 0) rfl
    have x1 := hS1.cell (j := 1) rfl
    go_wp2_with fail
    go_fit (HB.out w1)
    rintro x w2 ⟨v, r, s, rv, gb, gv, cb, cv, lo, sv, rfl, hBo, hAt, hb12⟩
    have hS2 := hS1.below hb12
    have gl := hS1.lt
    have gl1 := hO1.lt
    obtain ⟨bl1, bl2, bl3⟩ := hAt.h1
    clear x0 x1
    have x0 := hS2.cell (j := 0) rfl
    have x1 := hS2.cell (j := 1) rfl
    go_wp2_with fail
    go_fit (small_any (B : Int) (Z : Int) w2)
    cases hsm : smB (B : Int) (Z : Int) with
    | false =>
      rintro x w3 ⟨rfl, hb3⟩
      go_wp2
      go_ret
      exact ⟨rfl, hb01.trans ((hb12.trans (hb3.mono hb12.size)).mono hb01.size)⟩
    | true =>
      rintro x w3 ⟨rfl, hb3⟩
      have hb13 := hb12.trans (hb3.mono hb12.size)
      have hBo3 := hBo.below hb3
      clear x0 x1 hsm
      go_wp2
      go_loopw [10] (fun i wr => ∃ (m : Nat), m ≤ n1 ∧ m ≤ 200 ∧ i = .int .i64 m ∧ Both wr w1.heap.size lo v r s rv gb gv cb cv B Z N sv ∧ Below w1.heap.size w1 wr) (fun i _ => n1 - (intOf i).toNat)
      case atStart => exact ⟨0, by omega, by omega, rfl, hBo3, hb13⟩
      case round =>
        obtain ⟨m, hm1, hm2, rfl, hBr, hbr⟩ := hrel
        clear hBo hBo3 hb13 hb3
        by_cases hlt : m < n1 ∧ m < 200
        · obtain ⟨hlt1, hlt2⟩ := hlt
          obtain ⟨a, rfl, hop⟩ := hst1 m hlt1
          obtain ⟨rows, bs, vs, last, hV, hR⟩ := hBr
          obtain ⟨k', p', q', D', d', dc', ds', O', o', oc', os', num', A', m', mc', cs', ps', hk', k0, k1, k2, k3, k4, k5, k6, hd', hdc', hdm', ho', hD', hO', hm', hmc', hcm', hr', hP'⟩ := hop
          have hDB := rd_lt3 hD'
          have hOB := rd_lt3 hO'
          have c0 := cell_below hbr k0
          have c1' := cell_below hbr k1
          have c2' := cell_below hbr k2
          have c3 := cell_below hbr k3
          have c4 := cell_below hbr k4
          have c5 := cell_below hbr k5
          have c6 := cell_below hbr k6
          clear k0 k1 k2 k3 k4 k5 k6
          have szr := hbr.size
          by_cases hm0 : m' = 0
          · subst hm0
            have HC := hide (step_do w1.heap.size wr v r s rv gb gv cb cv B Z N sv rows bs vs last lo k' p' q' D' d' dc' ds' O' o' oc' os' num' A' mc' hk' hV hR hAt szr hd' hdc' hdm' ho' (hD'.below hbr) (hO'.below hbr) hDB hOB)
            clear hd' ho'
            go_wp2_with fail
            go_fit HC.out
            rintro x w5 ⟨rfl, hB5, hb5⟩
            go_wp2
            go_roundw
            case rel => exact ⟨m + 1, by omega, by omega, by go_num, hB5, hbr.trans hb5⟩
            case measure => simp [intOf]; omega
          · have HC := hide (step_patch w1.heap.size wr v r s rv gb gv cb cv B Z N sv rows bs vs last lo k' p' q' D' d' dc' O' o' oc' num' A' m' mc' cs' ps' hV hR hAt szr (by omega) hm' hmc' hcm' (hr'.below hbr) (rd_cells_lt hr' hP'.1 (by rintro rfl; simp at hm'; omega)) (hP'.below hbr) (fun hg => (hP'.goodlt hg (by omega)).below hbr))
            clear hd' ho' hm'
            go_wp2_with fail
            go_fit HC.out
            rintro x w5 ⟨rfl, hB5, hb5⟩
            go_wp2
            go_roundw
            case rel => exact ⟨m + 1, by omega, by omega, by go_num, hB5, hbr.trans hb5⟩
            case measure => simp [intOf]; omega
        · obtain ⟨rows, bs, vs, last, hV0, hR0⟩ := hBr
          rcases (show m = n1 ∨ (m < n1 ∧ m = 200) by omega) with rfl | ⟨hl2, rfl⟩
          · clear hlt
            have hOr := hO1.below hbr
            have hDr := hDw.below hbr
            have hOsr := hOw.below hbr
            have hV := hV0
            have vlt := hV.blk.lt
            have rlt := hV.row.lt
            have slt := hV.ver.lt
            have hNl := hV.lb
            have szr := hbr.size
            have hNb : N ≤ 4096 * 4096 := by rw [← hV.hN]; exact Nat.mul_le_mul hV.hb.2 hV.hz.2
            have k0 := hOr.cell (j := 0) rfl
            have k1 := hOr.cell (j := 1) rfl
            have k2 := hOr.cell (j := 2) rfl
            have k3 := hOr.cell (j := 3) rfl
            have k4 := hOr.cell (j := 4) rfl
            go_wp2_with fail
            go_fit (bytes_any wr v r s B Z N bs vs last hV)
            rintro x w3 ⟨u3, rfl, ho3, hb3⟩
            obtain ⟨A3, c3, rfl, _, hc3, hcm3, hr3, ha3⟩ := own_out ho3
            have hV3 := hV.below hb3
            have hb13 := hbr.trans (hb3.mono hbr.size)
            have hO3 := hO1.below hb13
            clear k0 k1 k2 k3 k4
            have k0 := hO3.cell (j := 0) rfl
            have k1 := hO3.cell (j := 1) rfl
            have k2 := hO3.cell (j := 2) rfl
            have k3 := hO3.cell (j := 3) rfl
            have k4 := hO3.cell (j := 4) rfl
            have c1 := do_any w3 v r s B Z N bs vs last k p q D d dc ds O o oc os 4611686018427387904 hk hV3 Hd.out Ho.out (hDw.below hb13) (hOw.below hb13) (fun hh a ha => by have := rd_lt3 hDw hh a ha; omega) (fun hh a ha => by have := rd_lt3 hOw hh a ha; omega)
            have hcs := do_cases B Z N bs vs last k p q ds os 4611686018427387904 hV.hb hV.hz
            generalize doE B Z last k p q ds.length os.length 4611686018427387904 = E at c1 hcs
            generalize doKE B Z bs last k p q ds os 4611686018427387904 = K at c1 hcs
            generalize doDE B Z bs last k p q ds os 4611686018427387904 = DD at c1
            generalize doBE B Z bs last k p q ds os 4611686018427387904 = BB at c1 hcs
            generalize doVE B Z bs vs last k p q ds os 4611686018427387904 = VV at c1
            generalize doLE B Z last k p q ds os 4611686018427387904 = LL at c1 hcs
            have C1 := hide c1
            have hS3 := hS1.below hb13
            clear c1
            go_wp2_with fail
            go_fit C1.out
            clear C1
            rintro x w4 ⟨A4, c4, rfl, hr4, ha4, hV4, hU4⟩
            have sz3 := hb3.size
            have sz4 := hU4.size
            have hO4 := (hU4.blk (g + 1) hO3.lt (by omega) (by omega) (by omega)).trans hO3
            have hS4 := (hU4.blk g hS3.lt (by omega) (by omega) (by omega)).trans hS3
            have hr34 : Rd w4 A3 (bys bs) := rd_updB hr3 hU4 (fun hh a ha => by have := ha3 a ha; omega)
            have hb14 : Below w1.heap.size w1 w4 := hU4.below hb13 hb13.size (by omega) (by omega) (by omega)
            have hD4 := hDw.below hb14
            obtain ⟨g5, hg5⟩ : ∃ x, w4.heap.size = x := ⟨_, rfl⟩
            obtain ⟨w5, hw5⟩ : ∃ x, w4.alloc (.cells #[.int .u8 K, .slice A4 DD.length c4] 49) = x := ⟨_, rfl⟩
            have hR5 : Blk w5 g5 [.int .u8 K, .slice A4 DD.length c4] 49 := by rw [← hw5, ← hg5]; exact Blk.new w4 [.int .u8 K, .slice A4 DD.length c4] _
            have hb45 : Below w4.heap.size w4 w5 := by rw [← hw5]; exact (Below.refl _ _).alloc (Nat.le_refl _) _
            have hb15 := hb14.trans (hb45.mono hb14.size)
            have hV5 := hV4.below hb45
            have Hw5 := hide hw5
            have sz5 := hb45.size
            clear hw5 k0 k1 k2 k3 k4
            go_wp2_with fail
            rw [Hw5.out]
            go_fit (bytes_any w5 v r s B Z N BB VV LL hV5)
            rintro x w6 ⟨u6, rfl, ho6, hb6⟩
            obtain ⟨A6, c6, rfl, _, hc6, hcm6, hr6, ha6⟩ := own_out ho6
            have hb16 := hb15.trans (hb6.mono hb15.size)
            have hb56 := hb45.trans (hb6.mono hb45.size)
            have hR6 := hR5.below hb6
            have hO6 := Blk.below hO4 hb56
            have hS6 := Blk.below hS4 hb56
            have hV6 := hV5.below hb6
            have hr36 := hr34.below hb56
            have hD6 := hDw.below hb16
            have hNl6 := hV6.lb
            have k0 := hR6.cell (j := 0) rfl
            have o0 := Blk.cell hO6 (j := 0) rfl
            have o1 := Blk.cell hO6 (j := 1) rfl
            have o2 := Blk.cell hO6 (j := 2) rfl
            have o3 := Blk.cell hO6 (j := 3) rfl
            have o4 := Blk.cell hO6 (j := 4) rfl
            have s0 := Blk.cell hS6 (j := 0) rfl
            have s1 := Blk.cell hS6 (j := 1) rfl
            rcases hcs with ⟨hE, rfl⟩ | ⟨rfl, hK, rfl⟩ | ⟨rfl, rfl, hch, rfl⟩ | ⟨rfl, rfl, rfl, hn1, hn2, P, M, xs, rfl, hM, hPM, hxl, rfl, hkk⟩
            · have q1 : (E != 0) = true := by simpa using hE
              have cv1 := convB c3 hNl hr36
              have cv2 := convB c6 hNl hr6
              go_wp2
              go_ret
              exact ⟨by simp, hb01.trans (hb16.mono hb01.size)⟩
            · have q1 : ((K : Int) != 1) = true := by simp; omega
              have cv1 := convB c3 hNl hr36
              have cv2 := convB c6 hNl hr6
              go_wp2
              go_ret
              exact ⟨by simp, hb01.trans (hb16.mono hb01.size)⟩
            · go_wp2_with fail
              go_fit (rchanges_any k p q D d dc O o oc w6 hk)
              rw [hch]
              rintro x w7 ⟨rfl, hb7⟩
              have cv1 := convB c3 hNl (hr36.below hb7)
              have cv2 := convB c6 hNl (hr6.below hb7)
              go_wp2
              go_ret
              exact ⟨by simp, hb01.trans ((hb16.trans (hb7.mono hb16.size)).mono hb01.size)⟩
            · have hin : P * Z + M * Z ≤ N := by rw [← Nat.add_mul, ← HN.out]; exact Nat.mul_le_mul_right _ hPM
              have hMz : 1 ≤ M * Z := Nat.mul_pos hM.1 (by omega)
              obtain ⟨F, hF⟩ : ∃ F, P * Z = F := ⟨_, rfl⟩
              obtain ⟨L, hL⟩ : ∃ L, M * Z = L := ⟨_, rfl⟩
              obtain ⟨G, hG⟩ : ∃ G, F + L = G := ⟨_, rfl⟩
              rw [hF, hL] at hin
              rw [hL] at hMz
              have hdr := do_read B Z (splB bs (P * Z) xs) VV P M 4611686018427387904 hV.hb hV.hz hM hPM (by omega) (by omega)
              rw [splB_seg (by rw [hF, hNl]; omega) hxl] at hdr
              rw [hF] at hdr hV6 hr6 hNl6
              have C2 := fun W (hV : VolIs W v r s B Z N (splB bs F xs) VV 4611686018427387904) => do_any W v r s B Z N (splB bs F xs) VV 4611686018427387904 1 P M none 0 0 [] none 0 0 [] 4611686018427387904 (by decide) hV rfl rfl Rd.nil Rd.nil (fun h => absurd rfl h) (fun h => absurd rfl h)
              rw [hdr.1, hdr.2.1, hdr.2.2.1, hdr.2.2.2] at C2
              rw [hL] at hxl
              have HC2 := hide C2
              have hFI : (P : Int) * (Z : Int) = (F : Int) := by rw [← hF]; simp
              have hGI : ((P : Int) + (M : Int)) * (Z : Int) = (G : Int) := by rw [← hG, ← hF, ← hL]; simp [Int.add_mul]
              have hLI : (M : Int) * (Z : Int) = (L : Int) := by rw [← hL]; simp
              have tk : (splB bs F xs).take F = bs.take F := splB_take (by omega)
              have dp : (splB bs F xs).drop G = bs.drop G := by rw [← hG, ← hxl]; exact splB_drop (by omega)
              have Htk := hide tk
              have Hdp := hide dp
              have Hxl := hide hxl
              have Hr6 := hide hr6
              have Hr36 := hide hr36
              have HD6 := hide hD6
              have HrN : Hid (bs.length = N ∧ (splB bs F xs).length = N) := ⟨hNl, hNl6⟩
              clear C2 hdr tk dp hr6 hr36 hD6 hNl hNl6 hF hxl
              rw [hL] at hkk
              clear hL
              rcases hkk with ⟨rfl, rfl, rfl⟩ | ⟨rfl, rfl, hxz⟩ | ⟨rfl, rfl, rfl⟩
              · have hch : chB 2 = true := rfl
                go_wp2_with fail
                go_fit (rchanges_any 2 P M D d dc O o oc w6 (by decide))
                rw [hch]
                rintro x w7 ⟨rfl, hb7⟩
                have hV7 := hV6.below hb7
                have hO7 := hO6.below hb7
                have hS7 := hS6.below hb7
                have hb17 := hb16.trans (hb7.mono hb16.size)
                have vlt7 := hV6.blk.lt
                clear k0 o0 o1 o2 o3 o4 s0 s1
                have o0 := Blk.cell hO7 (j := 0) rfl
                have o1 := Blk.cell hO7 (j := 1) rfl
                have o2 := Blk.cell hO7 (j := 2) rfl
                have o3 := Blk.cell hO7 (j := 3) rfl
                go_wp2_with fail
                go_fit (HC2.out w7 hV7)
                rintro x w8 ⟨A8, c8, rfl, hr8, ha8, hV8, hU8⟩
                have sz7 := hb7.size
                have hO8 := (hU8.blk (g + 1) hO7.lt (by omega) (by omega) (by omega)).trans hO7
                have hS8 := (hU8.blk g hS7.lt (by omega) (by omega) (by omega)).trans hS7
                have hb18 : Below w1.heap.size w1 w8 := hU8.below hb17 hb17.size (by omega) (by omega) (by omega)
                have r6 := rd_updB (Hr6.out.below hb7) hU8 (fun hh a ha => by have := ha6 a ha; have := hb45.size; omega)
                have r3 := rd_updB (Hr36.out.below hb7) hU8 (fun hh a ha => by have := ha3 a ha; omega)
                have rD := hDw.below hb18
                have sz8 := hb18.size
                obtain ⟨wf, hX9⟩ : ∃ x, w8.alloc (.cells #[.int .u8 1, .slice A8 xs.length c8] 49) = x := ⟨_, rfl⟩
                have hb89 : Below w8.heap.size w8 wf := by rw [← hX9]; exact (Below.refl _ _).alloc (Nat.le_refl _) _
                obtain ⟨g9, hg9⟩ : ∃ x, w8.heap.size = x := ⟨_, rfl⟩
                have hR9 : Blk wf g9 [.int .u8 1, .slice A8 xs.length c8] 49 := by rw [← hX9, ← hg9]; exact Blk.new w8 [.int .u8 1, .slice A8 xs.length c8] _
                have hO9 := Blk.below hO8 hb89
                have hS9 := Blk.below hS8 hb89
                have q0 : (w8.alloc (.cells #[.int .u8 1, .slice A8 xs.length c8] 49)).cell? ⟨g + 1, 0, none⟩ = some (.int .u8 2) := by rw [hX9]; exact Blk.cell hO9 (j := 0) rfl
                have q3 : (w8.alloc (.cells #[.int .u8 1, .slice A8 xs.length c8] 49)).cell? ⟨g + 1, 3, none⟩ = some (.slice D d dc) := by rw [hX9]; exact Blk.cell hO9 (j := 3) rfl
                have q5 : (w8.alloc (.cells #[.int .u8 1, .slice A8 xs.length c8] 49)).cell? ⟨g, 1, none⟩ = some (.int .i64 Z) := by rw [hX9]; exact Blk.cell hS9 (j := 1) rfl
                have HX9 := hide hX9
                clear o0 o1 o2 o3 hX9
                have hbf := hb89
                have hR := hR9
                have hO := hO9
                have hS := hS9
                go_wp2_with fail
                rw [HX9.out]
                clear q0 q3 q5
                have g1 := hR.cell (j := 1) rfl
                have o1 := Blk.cell hO (j := 1) rfl
                have s1 := Blk.cell hS (j := 1) rfl
                go_wp2
                go_quiet (fail)
                go_wp2_with fail
                have cvA : ∀ t, (convert 35 9 (.slice A8 xs.length c8)).run Try.prog (wf.drewN t) = .ok (.string (strOf xs)) (wf.drewN t) := fun t => convB c8 rfl ((hr8.below hbf).drewN t)
                have cvW : ∀ t, (convert 35 9 (.slice D d dc)).run Try.prog (wf.drewN t) = .ok (.string (strOf xs)) (wf.drewN t) := fun t => convB dc Hd.out ((rD.below hbf).drewN t)
                have cv1 : ∀ t, (convert 35 9 (.slice A6 F c6)).run Try.prog (wf.drewN t) = .ok (.string (strOf (bs.take F))) (wf.drewN t) := fun t => by
                  have h := (r6.below hbf).take F
                  rw [← bys_take, Htk.out] at h
                  exact convB c6 (by rw [List.length_take, HrN.out.1]; omega) (h.drewN t)
                have cv2 : ∀ t, (convert 35 9 (.slice A3 F c3)).run Try.prog (wf.drewN t) = .ok (.string (strOf (bs.take F))) (wf.drewN t) := fun t => by
                  have h := (r3.below hbf).take F
                  rw [← bys_take] at h
                  exact convB c3 (by rw [List.length_take, HrN.out.1]; omega) (h.drewN t)
                have cv3 : ∀ t, (convert 35 9 (.slice (Px.cutA A6 c6 G 1) (N - G) (c6 - G))).run Try.prog (wf.drewN t) = .ok (.string (strOf (bs.drop G))) (wf.drewN t) := fun t => by
                  have h := (r6.below hbf).cutA (n := N) (k := G) (cap := c6) (by rw [bys_length, HrN.out.2]; exact Nat.le_refl _) (by omega) hc6
                  rw [← bys_drop, Hdp.out] at h
                  exact convB (c6 - G) (by rw [List.length_drop, HrN.out.1]) (h.drewN t)
                have cv4 : ∀ t, (convert 35 9 (.slice (Px.cutA A3 c3 G 1) (N - G) (c3 - G))).run Try.prog (wf.drewN t) = .ok (.string (strOf (bs.drop G))) (wf.drewN t) := fun t => by
                  have h := (r3.below hbf).cutA (n := N) (k := G) (cap := c3) (by rw [bys_length, HrN.out.1]; exact Nat.le_refl _) (by omega) hc3
                  rw [← bys_drop] at h
                  exact convB (c3 - G) (by rw [List.length_drop, HrN.out.1]) (h.drewN t)
                have f1 : (F : Int) ≤ (c6 : Int) := by omega
                have f2 : (F : Int) ≤ (c3 : Int) := by omega
                have f3 : (G : Int) ≤ (N : Int) := by omega
                have f4 : F ≤ c6 := by omega
                have f5 : F ≤ c3 := by omega
                have f6 : G ≤ N := by omega
                go_quiet (fail)
                go_wp2
                go_ret
                exact ⟨by simp, hb01.trans ((below_drewN (below_drewN (hb18.trans (hbf.mono sz8)) _) _).mono hb01.size)⟩
              · have hch : chB 3 = true := rfl
                have Hxz := hide hxz
                clear hxz
                go_wp2_with fail
                go_fit (rchanges_any 3 P M D d dc O o oc w6 (by decide))
                rw [hch]
                rintro x w7 ⟨rfl, hb7⟩
                have hV7 := hV6.below hb7
                have hO7 := hO6.below hb7
                have hS7 := hS6.below hb7
                have hb17 := hb16.trans (hb7.mono hb16.size)
                have vlt7 := hV6.blk.lt
                clear k0 o0 o1 o2 o3 o4 s0 s1
                have o0 := Blk.cell hO7 (j := 0) rfl
                have o1 := Blk.cell hO7 (j := 1) rfl
                have o2 := Blk.cell hO7 (j := 2) rfl
                have o3 := Blk.cell hO7 (j := 3) rfl
                go_wp2_with fail
                go_fit (HC2.out w7 hV7)
                rintro x w8 ⟨A8, c8, rfl, hr8, ha8, hV8, hU8⟩
                have sz7 := hb7.size
                have hO8 := (hU8.blk (g + 1) hO7.lt (by omega) (by omega) (by omega)).trans hO7
                have hS8 := (hU8.blk g hS7.lt (by omega) (by omega) (by omega)).trans hS7
                have hb18 : Below w1.heap.size w1 w8 := hU8.below hb17 hb17.size (by omega) (by omega) (by omega)
                have r6 := rd_updB (Hr6.out.below hb7) hU8 (fun hh a ha => by have := ha6 a ha; have := hb45.size; omega)
                have r3 := rd_updB (Hr36.out.below hb7) hU8 (fun hh a ha => by have := ha3 a ha; omega)
                have rD := hDw.below hb18
                have sz8 := hb18.size
                obtain ⟨X9, hX9⟩ : ∃ x, w8.alloc (.cells #[.int .u8 1, .slice A8 xs.length c8] 49) = x := ⟨_, rfl⟩
                have hb89 : Below w8.heap.size w8 X9 := by rw [← hX9]; exact (Below.refl _ _).alloc (Nat.le_refl _) _
                obtain ⟨g9, hg9⟩ : ∃ x, w8.heap.size = x := ⟨_, rfl⟩
                have hR9 : Blk X9 g9 [.int .u8 1, .slice A8 xs.length c8] 49 := by rw [← hX9, ← hg9]; exact Blk.new w8 [.int .u8 1, .slice A8 xs.length c8] _
                have hO9 := Blk.below hO8 hb89
                have hS9 := Blk.below hS8 hb89
                have q0 : (w8.alloc (.cells #[.int .u8 1, .slice A8 xs.length c8] 49)).cell? ⟨g + 1, 0, none⟩ = some (.int .u8 3) := by rw [hX9]; exact Blk.cell hO9 (j := 0) rfl
                have q3 : (w8.alloc (.cells #[.int .u8 1, .slice A8 xs.length c8] 49)).cell? ⟨g + 1, 3, none⟩ = some (.slice D d dc) := by rw [hX9]; exact Blk.cell hO9 (j := 3) rfl
                have q5 : (w8.alloc (.cells #[.int .u8 1, .slice A8 xs.length c8] 49)).cell? ⟨g, 1, none⟩ = some (.int .i64 Z) := by rw [hX9]; exact Blk.cell hS9 (j := 1) rfl
                have HX9 := hide hX9
                clear o0 o1 o2 o3 hX9
                have hm1 := fun W => run_mkB (P := Try.prog) (t := 35) (e := 5) (z := .int .u8 0) (bytes := 1) Try.underlying35 (by kernel_rfl) rfl (N := L) (by omega) (by omega) W
                obtain ⟨wf, hwf⟩ : ∃ x, (w8.alloc (.cells #[.int .u8 1, .slice A8 xs.length c8] 49)).alloc (.cells (Array.replicate L (.int .u8 0)) 5) = x := ⟨_, rfl⟩
                have hb9f : Below X9.heap.size X9 wf := by rw [← hwf, HX9.out]; exact (Below.refl _ _).alloc (Nat.le_refl _) _
                have hbf := hb89.trans (hb9f.mono hb89.size)
                have hgz : X9.heap.size = g9 + 1 := by rw [← HX9.out, World.size_alloc, hg9]
                have hrz : Rd wf (some ⟨g9 + 1, 0, none⟩) (bys xs) := by
                  have h := Rd.newN X9 (List.replicate L (.int .u8 0)) 5 (0, 0)
                  rw [List.toArray_replicate, hgz, ← HX9.out, hwf] at h
                  rw [Hxz.out, show bys (List.replicate L 0) = List.replicate L (.int .u8 0) by simp [bys]]
                  exact h
                have hR := hR9.below hb9f
                have hO := hO9.below hb9f
                have hS := hS9.below hb9f
                have Hwf := hide hwf
                clear hwf
                go_wp2_with fail
                rw [Hwf.out]
                clear q0 q3 q5 hm1
                have g1 := hR.cell (j := 1) rfl
                have o1 := Blk.cell hO (j := 1) rfl
                have s1 := Blk.cell hS (j := 1) rfl
                go_wp2
                go_quiet (fail)
                go_wp2_with fail
                have cvA : ∀ t, (convert 35 9 (.slice A8 xs.length c8)).run Try.prog (wf.drewN t) = .ok (.string (strOf xs)) (wf.drewN t) := fun t => convB c8 rfl ((hr8.below hbf).drewN t)
                have cvW : ∀ t, (convert 35 9 (.slice (some ⟨g9 + 1, 0, none⟩) L L)).run Try.prog (wf.drewN t) = .ok (.string (strOf xs)) (wf.drewN t) := fun t => convB L Hxl.out (hrz.drewN t)
                have cv1 : ∀ t, (convert 35 9 (.slice A6 F c6)).run Try.prog (wf.drewN t) = .ok (.string (strOf (bs.take F))) (wf.drewN t) := fun t => by
                  have h := (r6.below hbf).take F
                  rw [← bys_take, Htk.out] at h
                  exact convB c6 (by rw [List.length_take, HrN.out.1]; omega) (h.drewN t)
                have cv2 : ∀ t, (convert 35 9 (.slice A3 F c3)).run Try.prog (wf.drewN t) = .ok (.string (strOf (bs.take F))) (wf.drewN t) := fun t => by
                  have h := (r3.below hbf).take F
                  rw [← bys_take] at h
                  exact convB c3 (by rw [List.length_take, HrN.out.1]; omega) (h.drewN t)
                have cv3 : ∀ t, (convert 35 9 (.slice (Px.cutA A6 c6 G 1) (N - G) (c6 - G))).run Try.prog (wf.drewN t) = .ok (.string (strOf (bs.drop G))) (wf.drewN t) := fun t => by
                  have h := (r6.below hbf).cutA (n := N) (k := G) (cap := c6) (by rw [bys_length, HrN.out.2]; exact Nat.le_refl _) (by omega) hc6
                  rw [← bys_drop, Hdp.out] at h
                  exact convB (c6 - G) (by rw [List.length_drop, HrN.out.1]) (h.drewN t)
                have cv4 : ∀ t, (convert 35 9 (.slice (Px.cutA A3 c3 G 1) (N - G) (c3 - G))).run Try.prog (wf.drewN t) = .ok (.string (strOf (bs.drop G))) (wf.drewN t) := fun t => by
                  have h := (r3.below hbf).cutA (n := N) (k := G) (cap := c3) (by rw [bys_length, HrN.out.1]; exact Nat.le_refl _) (by omega) hc3
                  rw [← bys_drop] at h
                  exact convB (c3 - G) (by rw [List.length_drop, HrN.out.1]) (h.drewN t)
                have f1 : (F : Int) ≤ (c6 : Int) := by omega
                have f2 : (F : Int) ≤ (c3 : Int) := by omega
                have f3 : (G : Int) ≤ (N : Int) := by omega
                have f4 : F ≤ c6 := by omega
                have f5 : F ≤ c3 := by omega
                have f6 : G ≤ N := by omega
                go_quiet (fail)
                go_wp2
                go_ret
                exact ⟨by simp, hb01.trans ((below_drewN (below_drewN (hb18.trans (hbf.mono sz8)) _) _).mono hb01.size)⟩
              · have hch : chB 5 = true := rfl
                have hG1 : ((P : Int) + 1) * (Z : Int) = (G : Int) := hGI
                clear hGI
                go_wp2_with fail
                go_fit (rchanges_any 5 P q D d dc O o oc w6 (by decide))
                rw [hch]
                rintro x w7 ⟨rfl, hb7⟩
                have hV7 := hV6.below hb7
                have hO7 := hO6.below hb7
                have hS7 := hS6.below hb7
                have hb17 := hb16.trans (hb7.mono hb16.size)
                have vlt7 := hV6.blk.lt
                clear k0 o0 o1 o2 o3 o4 s0 s1
                have o0 := Blk.cell hO7 (j := 0) rfl
                have o1 := Blk.cell hO7 (j := 1) rfl
                have o2 := Blk.cell hO7 (j := 2) rfl
                have o3 := Blk.cell hO7 (j := 3) rfl
                go_wp2_with fail
                go_fit (HC2.out w7 hV7)
                rintro x w8 ⟨A8, c8, rfl, hr8, ha8, hV8, hU8⟩
                have sz7 := hb7.size
                have hO8 := (hU8.blk (g + 1) hO7.lt (by omega) (by omega) (by omega)).trans hO7
                have hS8 := (hU8.blk g hS7.lt (by omega) (by omega) (by omega)).trans hS7
                have hb18 : Below w1.heap.size w1 w8 := hU8.below hb17 hb17.size (by omega) (by omega) (by omega)
                have r6 := rd_updB (Hr6.out.below hb7) hU8 (fun hh a ha => by have := ha6 a ha; have := hb45.size; omega)
                have r3 := rd_updB (Hr36.out.below hb7) hU8 (fun hh a ha => by have := ha3 a ha; omega)
                have rD := hDw.below hb18
                have sz8 := hb18.size
                obtain ⟨wf, hX9⟩ : ∃ x, w8.alloc (.cells #[.int .u8 1, .slice A8 xs.length c8] 49) = x := ⟨_, rfl⟩
                have hb89 : Below w8.heap.size w8 wf := by rw [← hX9]; exact (Below.refl _ _).alloc (Nat.le_refl _) _
                obtain ⟨g9, hg9⟩ : ∃ x, w8.heap.size = x := ⟨_, rfl⟩
                have hR9 : Blk wf g9 [.int .u8 1, .slice A8 xs.length c8] 49 := by rw [← hX9, ← hg9]; exact Blk.new w8 [.int .u8 1, .slice A8 xs.length c8] _
                have hO9 := Blk.below hO8 hb89
                have hS9 := Blk.below hS8 hb89
                have q0 : (w8.alloc (.cells #[.int .u8 1, .slice A8 xs.length c8] 49)).cell? ⟨g + 1, 0, none⟩ = some (.int .u8 5) := by rw [hX9]; exact Blk.cell hO9 (j := 0) rfl
                have q3 : (w8.alloc (.cells #[.int .u8 1, .slice A8 xs.length c8] 49)).cell? ⟨g + 1, 3, none⟩ = some (.slice D d dc) := by rw [hX9]; exact Blk.cell hO9 (j := 3) rfl
                have q5 : (w8.alloc (.cells #[.int .u8 1, .slice A8 xs.length c8] 49)).cell? ⟨g, 1, none⟩ = some (.int .i64 Z) := by rw [hX9]; exact Blk.cell hS9 (j := 1) rfl
                have HX9 := hide hX9
                clear o0 o1 o2 o3 hX9
                have hbf := hb89
                have hR := hR9
                have hO := hO9
                have hS := hS9
                go_wp2_with fail
                rw [HX9.out]
                clear q0 q3 q5
                have g1 := hR.cell (j := 1) rfl
                have o1 := Blk.cell hO (j := 1) rfl
                have s1 := Blk.cell hS (j := 1) rfl
                go_wp2
                go_quiet (fail)
                go_wp2_with fail
                have cvA : ∀ t, (convert 35 9 (.slice A8 xs.length c8)).run Try.prog (wf.drewN t) = .ok (.string (strOf xs)) (wf.drewN t) := fun t => convB c8 rfl ((hr8.below hbf).drewN t)
                have cvW : ∀ t, (convert 35 9 (.slice D d dc)).run Try.prog (wf.drewN t) = .ok (.string (strOf xs)) (wf.drewN t) := fun t => convB dc Hd.out ((rD.below hbf).drewN t)
                have cv1 : ∀ t, (convert 35 9 (.slice A6 F c6)).run Try.prog (wf.drewN t) = .ok (.string (strOf (bs.take F))) (wf.drewN t) := fun t => by
                  have h := (r6.below hbf).take F
                  rw [← bys_take, Htk.out] at h
                  exact convB c6 (by rw [List.length_take, HrN.out.1]; omega) (h.drewN t)
                have cv2 : ∀ t, (convert 35 9 (.slice A3 F c3)).run Try.prog (wf.drewN t) = .ok (.string (strOf (bs.take F))) (wf.drewN t) := fun t => by
                  have h := (r3.below hbf).take F
                  rw [← bys_take] at h
                  exact convB c3 (by rw [List.length_take, HrN.out.1]; omega) (h.drewN t)
                have cv3 : ∀ t, (convert 35 9 (.slice (Px.cutA A6 c6 G 1) (N - G) (c6 - G))).run Try.prog (wf.drewN t) = .ok (.string (strOf (bs.drop G))) (wf.drewN t) := fun t => by
                  have h := (r6.below hbf).cutA (n := N) (k := G) (cap := c6) (by rw [bys_length, HrN.out.2]; exact Nat.le_refl _) (by omega) hc6
                  rw [← bys_drop, Hdp.out] at h
                  exact convB (c6 - G) (by rw [List.length_drop, HrN.out.1]) (h.drewN t)
                have cv4 : ∀ t, (convert 35 9 (.slice (Px.cutA A3 c3 G 1) (N - G) (c3 - G))).run Try.prog (wf.drewN t) = .ok (.string (strOf (bs.drop G))) (wf.drewN t) := fun t => by
                  have h := (r3.below hbf).cutA (n := N) (k := G) (cap := c3) (by rw [bys_length, HrN.out.1]; exact Nat.le_refl _) (by omega) hc3
                  rw [← bys_drop] at h
                  exact convB (c3 - G) (by rw [List.length_drop, HrN.out.1]) (h.drewN t)
                have f1 : (F : Int) ≤ (c6 : Int) := by omega
                have f2 : (F : Int) ≤ (c3 : Int) := by omega
                have f3 : (G : Int) ≤ (N : Int) := by omega
                have f4 : F ≤ c6 := by omega
                have f5 : F ≤ c3 := by omega
                have f6 : G ≤ N := by omega
                go_quiet (fail)
                go_wp2
                go_ret
                exact ⟨by simp, hb01.trans ((below_drewN (below_drewN (hb18.trans (hbf.mono sz8)) _) _).mono hb01.size)⟩
          · clear hlt
            have hOr := hO1.below hbr
            have hDr := hDw.below hbr
            have hOsr := hOw.below hbr
            have hV := hV0
            have vlt := hV.blk.lt
            have rlt := hV.row.lt
            have slt := hV.ver.lt
            have hNl := hV.lb
            have szr := hbr.size
            have hNb : N ≤ 4096 * 4096 := by rw [← hV.hN]; exact Nat.mul_le_mul hV.hb.2 hV.hz.2
            have k0 := hOr.cell (j := 0) rfl
            have k1 := hOr.cell (j := 1) rfl
            have k2 := hOr.cell (j := 2) rfl
            have k3 := hOr.cell (j := 3) rfl
            have k4 := hOr.cell (j := 4) rfl
            go_wp2_with fail
            go_fit (bytes_any wr v r s B Z N bs vs last hV)
            rintro x w3 ⟨u3, rfl, ho3, hb3⟩
            obtain ⟨A3, c3, rfl, _, hc3, hcm3, hr3, ha3⟩ := own_out ho3
            have hV3 := hV.below hb3
            have hb13 := hbr.trans (hb3.mono hbr.size)
            have hO3 := hO1.below hb13
            clear k0 k1 k2 k3 k4
            have k0 := hO3.cell (j := 0) rfl
            have k1 := hO3.cell (j := 1) rfl
            have k2 := hO3.cell (j := 2) rfl
            have k3 := hO3.cell (j := 3) rfl
            have k4 := hO3.cell (j := 4) rfl
            have c1 := do_any w3 v r s B Z N bs vs last k p q D d dc ds O o oc os 4611686018427387904 hk hV3 Hd.out Ho.out (hDw.below hb13) (hOw.below hb13) (fun hh a ha => by have := rd_lt3 hDw hh a ha; omega) (fun hh a ha => by have := rd_lt3 hOw hh a ha; omega)
            have hcs := do_cases B Z N bs vs last k p q ds os 4611686018427387904 hV.hb hV.hz
            generalize doE B Z last k p q ds.length os.length 4611686018427387904 = E at c1 hcs
            generalize doKE B Z bs last k p q ds os 4611686018427387904 = K at c1 hcs
            generalize doDE B Z bs last k p q ds os 4611686018427387904 = DD at c1
            generalize doBE B Z bs last k p q ds os 4611686018427387904 = BB at c1 hcs
            generalize doVE B Z bs vs last k p q ds os 4611686018427387904 = VV at c1
            generalize doLE B Z last k p q ds os 4611686018427387904 = LL at c1 hcs
            have C1 := hide c1
            have hS3 := hS1.below hb13
            clear c1
            go_wp2_with fail
            go_fit C1.out
            clear C1
            rintro x w4 ⟨A4, c4, rfl, hr4, ha4, hV4, hU4⟩
            have sz3 := hb3.size
            have sz4 := hU4.size
            have hO4 := (hU4.blk (g + 1) hO3.lt (by omega) (by omega) (by omega)).trans hO3
            have hS4 := (hU4.blk g hS3.lt (by omega) (by omega) (by omega)).trans hS3
            have hr34 : Rd w4 A3 (bys bs) := rd_updB hr3 hU4 (fun hh a ha => by have := ha3 a ha; omega)
            have hb14 : Below w1.heap.size w1 w4 := hU4.below hb13 hb13.size (by omega) (by omega) (by omega)
            have hD4 := hDw.below hb14
            obtain ⟨g5, hg5⟩ : ∃ x, w4.heap.size = x := ⟨_, rfl⟩
            obtain ⟨w5, hw5⟩ : ∃ x, w4.alloc (.cells #[.int .u8 K, .slice A4 DD.length c4] 49) = x := ⟨_, rfl⟩
            have hR5 : Blk w5 g5 [.int .u8 K, .slice A4 DD.length c4] 49 := by rw [← hw5, ← hg5]; exact Blk.new w4 [.int .u8 K, .slice A4 DD.length c4] _
            have hb45 : Below w4.heap.size w4 w5 := by rw [← hw5]; exact (Below.refl _ _).alloc (Nat.le_refl _) _
            have hb15 := hb14.trans (hb45.mono hb14.size)
            have hV5 := hV4.below hb45
            have Hw5 := hide hw5
            have sz5 := hb45.size
            clear hw5 k0 k1 k2 k3 k4
            go_wp2_with fail
            rw [Hw5.out]
            go_fit (bytes_any w5 v r s B Z N BB VV LL hV5)
            rintro x w6 ⟨u6, rfl, ho6, hb6⟩
            obtain ⟨A6, c6, rfl, _, hc6, hcm6, hr6, ha6⟩ := own_out ho6
            have hb16 := hb15.trans (hb6.mono hb15.size)
            have hb56 := hb45.trans (hb6.mono hb45.size)
            have hR6 := hR5.below hb6
            have hO6 := Blk.below hO4 hb56
            have hS6 := Blk.below hS4 hb56
            have hV6 := hV5.below hb6
            have hr36 := hr34.below hb56
            have hD6 := hDw.below hb16
            have hNl6 := hV6.lb
            have k0 := hR6.cell (j := 0) rfl
            have o0 := Blk.cell hO6 (j := 0) rfl
            have o1 := Blk.cell hO6 (j := 1) rfl
            have o2 := Blk.cell hO6 (j := 2) rfl
            have o3 := Blk.cell hO6 (j := 3) rfl
            have o4 := Blk.cell hO6 (j := 4) rfl
            have s0 := Blk.cell hS6 (j := 0) rfl
            have s1 := Blk.cell hS6 (j := 1) rfl
            rcases hcs with ⟨hE, rfl⟩ | ⟨rfl, hK, rfl⟩ | ⟨rfl, rfl, hch, rfl⟩ | ⟨rfl, rfl, rfl, hn1, hn2, P, M, xs, rfl, hM, hPM, hxl, rfl, hkk⟩
            · have q1 : (E != 0) = true := by simpa using hE
              have cv1 := convB c3 hNl hr36
              have cv2 := convB c6 hNl hr6
              go_wp2
              go_ret
              exact ⟨by simp, hb01.trans (hb16.mono hb01.size)⟩
            · have q1 : ((K : Int) != 1) = true := by simp; omega
              have cv1 := convB c3 hNl hr36
              have cv2 := convB c6 hNl hr6
              go_wp2
              go_ret
              exact ⟨by simp, hb01.trans (hb16.mono hb01.size)⟩
            · go_wp2_with fail
              go_fit (rchanges_any k p q D d dc O o oc w6 hk)
              rw [hch]
              rintro x w7 ⟨rfl, hb7⟩
              have cv1 := convB c3 hNl (hr36.below hb7)
              have cv2 := convB c6 hNl (hr6.below hb7)
              go_wp2
              go_ret
              exact ⟨by simp, hb01.trans ((hb16.trans (hb7.mono hb16.size)).mono hb01.size)⟩
            · have hin : P * Z + M * Z ≤ N := by rw [← Nat.add_mul, ← HN.out]; exact Nat.mul_le_mul_right _ hPM
              have hMz : 1 ≤ M * Z := Nat.mul_pos hM.1 (by omega)
              obtain ⟨F, hF⟩ : ∃ F, P * Z = F := ⟨_, rfl⟩
              obtain ⟨L, hL⟩ : ∃ L, M * Z = L := ⟨_, rfl⟩
              obtain ⟨G, hG⟩ : ∃ G, F + L = G := ⟨_, rfl⟩
              rw [hF, hL] at hin
              rw [hL] at hMz
              have hdr := do_read B Z (splB bs (P * Z) xs) VV P M 4611686018427387904 hV.hb hV.hz hM hPM (by omega) (by omega)
              rw [splB_seg (by rw [hF, hNl]; omega) hxl] at hdr
              rw [hF] at hdr hV6 hr6 hNl6
              have C2 := fun W (hV : VolIs W v r s B Z N (splB bs F xs) VV 4611686018427387904) => do_any W v r s B Z N (splB bs F xs) VV 4611686018427387904 1 P M none 0 0 [] none 0 0 [] 4611686018427387904 (by decide) hV rfl rfl Rd.nil Rd.nil (fun h => absurd rfl h) (fun h => absurd rfl h)
              rw [hdr.1, hdr.2.1, hdr.2.2.1, hdr.2.2.2] at C2
              rw [hL] at hxl
              have HC2 := hide C2
              have hFI : (P : Int) * (Z : Int) = (F : Int) := by rw [← hF]; simp
              have hGI : ((P : Int) + (M : Int)) * (Z : Int) = (G : Int) := by rw [← hG, ← hF, ← hL]; simp [Int.add_mul]
              have hLI : (M : Int) * (Z : Int) = (L : Int) := by rw [← hL]; simp
              have tk : (splB bs F xs).take F = bs.take F := splB_take (by omega)
              have dp : (splB bs F xs).drop G = bs.drop G := by rw [← hG, ← hxl]; exact splB_drop (by omega)
              have Htk := hide tk
              have Hdp := hide dp
              have Hxl := hide hxl
              have Hr6 := hide hr6
              have Hr36 := hide hr36
              have HD6 := hide hD6
              have HrN : Hid (bs.length = N ∧ (splB bs F xs).length = N) := ⟨hNl, hNl6⟩
              clear C2 hdr tk dp hr6 hr36 hD6 hNl hNl6 hF hxl
              rw [hL] at hkk
              clear hL
              rcases hkk with ⟨rfl, rfl, rfl⟩ | ⟨rfl, rfl, hxz⟩ | ⟨rfl, rfl, rfl⟩
              · have hch : chB 2 = true := rfl
                go_wp2_with fail
                go_fit (rchanges_any 2 P M D d dc O o oc w6 (by decide))
                rw [hch]
                rintro x w7 ⟨rfl, hb7⟩
                have hV7 := hV6.below hb7
                have hO7 := hO6.below hb7
                have hS7 := hS6.below hb7
                have hb17 := hb16.trans (hb7.mono hb16.size)
                have vlt7 := hV6.blk.lt
                clear k0 o0 o1 o2 o3 o4 s0 s1
                have o0 := Blk.cell hO7 (j := 0) rfl
                have o1 := Blk.cell hO7 (j := 1) rfl
                have o2 := Blk.cell hO7 (j := 2) rfl
                have o3 := Blk.cell hO7 (j := 3) rfl
                go_wp2_with fail
                go_fit (HC2.out w7 hV7)
                rintro x w8 ⟨A8, c8, rfl, hr8, ha8, hV8, hU8⟩
                have sz7 := hb7.size
                have hO8 := (hU8.blk (g + 1) hO7.lt (by omega) (by omega) (by omega)).trans hO7
                have hS8 := (hU8.blk g hS7.lt (by omega) (by omega) (by omega)).trans hS7
                have hb18 : Below w1.heap.size w1 w8 := hU8.below hb17 hb17.size (by omega) (by omega) (by omega)
                have r6 := rd_updB (Hr6.out.below hb7) hU8 (fun hh a ha => by have := ha6 a ha; have := hb45.size; omega)
                have r3 := rd_updB (Hr36.out.below hb7) hU8 (fun hh a ha => by have := ha3 a ha; omega)
                have rD := hDw.below hb18
                have sz8 := hb18.size
                obtain ⟨wf, hX9⟩ : ∃ x, w8.alloc (.cells #[.int .u8 1, .slice A8 xs.length c8] 49) = x := ⟨_, rfl⟩
                have hb89 : Below w8.heap.size w8 wf := by rw [← hX9]; exact (Below.refl _ _).alloc (Nat.le_refl _) _
                obtain ⟨g9, hg9⟩ : ∃ x, w8.heap.size = x := ⟨_, rfl⟩
                have hR9 : Blk wf g9 [.int .u8 1, .slice A8 xs.length c8] 49 := by rw [← hX9, ← hg9]; exact Blk.new w8 [.int .u8 1, .slice A8 xs.length c8] _
                have hO9 := Blk.below hO8 hb89
                have hS9 := Blk.below hS8 hb89
                have q0 : (w8.alloc (.cells #[.int .u8 1, .slice A8 xs.length c8] 49)).cell? ⟨g + 1, 0, none⟩ = some (.int .u8 2) := by rw [hX9]; exact Blk.cell hO9 (j := 0) rfl
                have q3 : (w8.alloc (.cells #[.int .u8 1, .slice A8 xs.length c8] 49)).cell? ⟨g + 1, 3, none⟩ = some (.slice D d dc) := by rw [hX9]; exact Blk.cell hO9 (j := 3) rfl
                have q5 : (w8.alloc (.cells #[.int .u8 1, .slice A8 xs.length c8] 49)).cell? ⟨g, 1, none⟩ = some (.int .i64 Z) := by rw [hX9]; exact Blk.cell hS9 (j := 1) rfl
                have HX9 := hide hX9
                clear o0 o1 o2 o3 hX9
                have hbf := hb89
                have hR := hR9
                have hO := hO9
                have hS := hS9
                go_wp2_with fail
                rw [HX9.out]
                clear q0 q3 q5
                have g1 := hR.cell (j := 1) rfl
                have o1 := Blk.cell hO (j := 1) rfl
                have s1 := Blk.cell hS (j := 1) rfl
                go_wp2
                go_quiet (fail)
                go_wp2_with fail
                have cvA : ∀ t, (convert 35 9 (.slice A8 xs.length c8)).run Try.prog (wf.drewN t) = .ok (.string (strOf xs)) (wf.drewN t) := fun t => convB c8 rfl ((hr8.below hbf).drewN t)
                have cvW : ∀ t, (convert 35 9 (.slice D d dc)).run Try.prog (wf.drewN t) = .ok (.string (strOf xs)) (wf.drewN t) := fun t => convB dc Hd.out ((rD.below hbf).drewN t)
                have cv1 : ∀ t, (convert 35 9 (.slice A6 F c6)).run Try.prog (wf.drewN t) = .ok (.string (strOf (bs.take F))) (wf.drewN t) := fun t => by
                  have h := (r6.below hbf).take F
                  rw [← bys_take, Htk.out] at h
                  exact convB c6 (by rw [List.length_take, HrN.out.1]; omega) (h.drewN t)
                have cv2 : ∀ t, (convert 35 9 (.slice A3 F c3)).run Try.prog (wf.drewN t) = .ok (.string (strOf (bs.take F))) (wf.drewN t) := fun t => by
                  have h := (r3.below hbf).take F
                  rw [← bys_take] at h
                  exact convB c3 (by rw [List.length_take, HrN.out.1]; omega) (h.drewN t)
                have cv3 : ∀ t, (convert 35 9 (.slice (Px.cutA A6 c6 G 1) (N - G) (c6 - G))).run Try.prog (wf.drewN t) = .ok (.string (strOf (bs.drop G))) (wf.drewN t) := fun t => by
                  have h := (r6.below hbf).cutA (n := N) (k := G) (cap := c6) (by rw [bys_length, HrN.out.2]; exact Nat.le_refl _) (by omega) hc6
                  rw [← bys_drop, Hdp.out] at h
                  exact convB (c6 - G) (by rw [List.length_drop, HrN.out.1]) (h.drewN t)
                have cv4 : ∀ t, (convert 35 9 (.slice (Px.cutA A3 c3 G 1) (N - G) (c3 - G))).run Try.prog (wf.drewN t) = .ok (.string (strOf (bs.drop G))) (wf.drewN t) := fun t => by
                  have h := (r3.below hbf).cutA (n := N) (k := G) (cap := c3) (by rw [bys_length, HrN.out.1]; exact Nat.le_refl _) (by omega) hc3
                  rw [← bys_drop] at h
                  exact convB (c3 - G) (by rw [List.length_drop, HrN.out.1]) (h.drewN t)
                have f1 : (F : Int) ≤ (c6 : Int) := by omega
                have f2 : (F : Int) ≤ (c3 : Int) := by omega
                have f3 : (G : Int) ≤ (N : Int) := by omega
                have f4 : F ≤ c6 := by omega
                have f5 : F ≤ c3 := by omega
                have f6 : G ≤ N := by omega
                go_quiet (fail)
                go_wp2
                go_ret
                exact ⟨by simp, hb01.trans ((below_drewN (below_drewN (hb18.trans (hbf.mono sz8)) _) _).mono hb01.size)⟩
              · have hch : chB 3 = true := rfl
                have Hxz := hide hxz
                clear hxz
                go_wp2_with fail
                go_fit (rchanges_any 3 P M D d dc O o oc w6 (by decide))
                rw [hch]
                rintro x w7 ⟨rfl, hb7⟩
                have hV7 := hV6.below hb7
                have hO7 := hO6.below hb7
                have hS7 := hS6.below hb7
                have hb17 := hb16.trans (hb7.mono hb16.size)
                have vlt7 := hV6.blk.lt
                clear k0 o0 o1 o2 o3 o4 s0 s1
                have o0 := Blk.cell hO7 (j := 0) rfl
                have o1 := Blk.cell hO7 (j := 1) rfl
                have o2 := Blk.cell hO7 (j := 2) rfl
                have o3 := Blk.cell hO7 (j := 3) rfl
                go_wp2_with fail
                go_fit (HC2.out w7 hV7)
                rintro x w8 ⟨A8, c8, rfl, hr8, ha8, hV8, hU8⟩
                have sz7 := hb7.size
                have hO8 := (hU8.blk (g + 1) hO7.lt (by omega) (by omega) (by omega)).trans hO7
                have hS8 := (hU8.blk g hS7.lt (by omega) (by omega) (by omega)).trans hS7
                have hb18 : Below w1.heap.size w1 w8 := hU8.below hb17 hb17.size (by omega) (by omega) (by omega)
                have r6 := rd_updB (Hr6.out.below hb7) hU8 (fun hh a ha => by have := ha6 a ha; have := hb45.size; omega)
                have r3 := rd_updB (Hr36.out.below hb7) hU8 (fun hh a ha => by have := ha3 a ha; omega)
                have rD := hDw.below hb18
                have sz8 := hb18.size
                obtain ⟨X9, hX9⟩ : ∃ x, w8.alloc (.cells #[.int .u8 1, .slice A8 xs.length c8] 49) = x := ⟨_, rfl⟩
                have hb89 : Below w8.heap.size w8 X9 := by rw [← hX9]; exact (Below.refl _ _).alloc (Nat.le_refl _) _
                obtain ⟨g9, hg9⟩ : ∃ x, w8.heap.size = x := ⟨_, rfl⟩
                have hR9 : Blk X9 g9 [.int .u8 1, .slice A8 xs.length c8] 49 := by rw [← hX9, ← hg9]; exact Blk.new w8 [.int .u8 1, .slice A8 xs.length c8] _
                have hO9 := Blk.below hO8 hb89
                have hS9 := Blk.below hS8 hb89
                have q0 : (w8.alloc (.cells #[.int .u8 1, .slice A8 xs.length c8] 49)).cell? ⟨g + 1, 0, none⟩ = some (.int .u8 3) := by rw [hX9]; exact Blk.cell hO9 (j := 0) rfl
                have q3 : (w8.alloc (.cells #[.int .u8 1, .slice A8 xs.length c8] 49)).cell? ⟨g + 1, 3, none⟩ = some (.slice D d dc) := by rw [hX9]; exact Blk.cell hO9 (j := 3) rfl
                have q5 : (w8.alloc (.cells #[.int .u8 1, .slice A8 xs.length c8] 49)).cell? ⟨g, 1, none⟩ = some (.int .i64 Z) := by rw [hX9]; exact Blk.cell hS9 (j := 1) rfl
                have HX9 := hide hX9
                clear o0 o1 o2 o3 hX9
                have hm1 := fun W => run_mkB (P := Try.prog) (t := 35) (e := 5) (z := .int .u8 0) (bytes := 1) Try.underlying35 (by kernel_rfl) rfl (N := L) (by omega) (by omega) W
                obtain ⟨wf, hwf⟩ : ∃ x, (w8.alloc (.cells #[.int .u8 1, .slice A8 xs.length c8] 49)).alloc (.cells (Array.replicate L (.int .u8 0)) 5) = x := ⟨_, rfl⟩
                have hb9f : Below X9.heap.size X9 wf := by rw [← hwf, HX9.out]; exact (Below.refl _ _).alloc (Nat.le_refl _) _
                have hbf := hb89.trans (hb9f.mono hb89.size)
                have hgz : X9.heap.size = g9 + 1 := by rw [← HX9.out, World.size_alloc, hg9]
                have hrz : Rd wf (some ⟨g9 + 1, 0, none⟩) (bys xs) := by
                  have h := Rd.newN X9 (List.replicate L (.int .u8 0)) 5 (0, 0)
                  rw [List.toArray_replicate, hgz, ← HX9.out, hwf] at h
                  rw [Hxz.out, show bys (List.replicate L 0) = List.replicate L (.int .u8 0) by simp [bys]]
                  exact h
                have hR := hR9.below hb9f
                have hO := hO9.below hb9f
                have hS := hS9.below hb9f
                have Hwf := hide hwf
                clear hwf
                go_wp2_with fail
                rw [Hwf.out]
                clear q0 q3 q5 hm1
                have g1 := hR.cell (j := 1) rfl
                have o1 := Blk.cell hO (j := 1) rfl
                have s1 := Blk.cell hS (j := 1) rfl
                go_wp2
                go_quiet (fail)
                go_wp2_with fail
                have cvA : ∀ t, (convert 35 9 (.slice A8 xs.length c8)).run Try.prog (wf.drewN t) = .ok (.string (strOf xs)) (wf.drewN t) := fun t => convB c8 rfl ((hr8.below hbf).drewN t)
                have cvW : ∀ t, (convert 35 9 (.slice (some ⟨g9 + 1, 0, none⟩) L L)).run Try.prog (wf.drewN t) = .ok (.string (strOf xs)) (wf.drewN t) := fun t => convB L Hxl.out (hrz.drewN t)
                have cv1 : ∀ t, (convert 35 9 (.slice A6 F c6)).run Try.prog (wf.drewN t) = .ok (.string (strOf (bs.take F))) (wf.drewN t) := fun t => by
                  have h := (r6.below hbf).take F
                  rw [← bys_take, Htk.out] at h
                  exact convB c6 (by rw [List.length_take, HrN.out.1]; omega) (h.drewN t)
                have cv2 : ∀ t, (convert 35 9 (.slice A3 F c3)).run Try.prog (wf.drewN t) = .ok (.string (strOf (bs.take F))) (wf.drewN t) := fun t => by
                  have h := (r3.below hbf).take F
                  rw [← bys_take] at h
                  exact convB c3 (by rw [List.length_take, HrN.out.1]; omega) (h.drewN t)
                have cv3 : ∀ t, (convert 35 9 (.slice (Px.cutA A6 c6 G 1) (N - G) (c6 - G))).run Try.prog (wf.drewN t) = .ok (.string (strOf (bs.drop G))) (wf.drewN t) := fun t => by
                  have h := (r6.below hbf).cutA (n := N) (k := G) (cap := c6) (by rw [bys_length, HrN.out.2]; exact Nat.le_refl _) (by omega) hc6
                  rw [← bys_drop, Hdp.out] at h
                  exact convB (c6 - G) (by rw [List.length_drop, HrN.out.1]) (h.drewN t)
                have cv4 : ∀ t, (convert 35 9 (.slice (Px.cutA A3 c3 G 1) (N - G) (c3 - G))).run Try.prog (wf.drewN t) = .ok (.string (strOf (bs.drop G))) (wf.drewN t) := fun t => by
                  have h := (r3.below hbf).cutA (n := N) (k := G) (cap := c3) (by rw [bys_length, HrN.out.1]; exact Nat.le_refl _) (by omega) hc3
                  rw [← bys_drop] at h
                  exact convB (c3 - G) (by rw [List.length_drop, HrN.out.1]) (h.drewN t)
                have f1 : (F : Int) ≤ (c6 : Int) := by omega
                have f2 : (F : Int) ≤ (c3 : Int) := by omega
                have f3 : (G : Int) ≤ (N : Int) := by omega
                have f4 : F ≤ c6 := by omega
                have f5 : F ≤ c3 := by omega
                have f6 : G ≤ N := by omega
                go_quiet (fail)
                go_wp2
                go_ret
                exact ⟨by simp, hb01.trans ((below_drewN (below_drewN (hb18.trans (hbf.mono sz8)) _) _).mono hb01.size)⟩
              · have hch : chB 5 = true := rfl
                have hG1 : ((P : Int) + 1) * (Z : Int) = (G : Int) := hGI
                clear hGI
                go_wp2_with fail
                go_fit (rchanges_any 5 P q D d dc O o oc w6 (by decide))
                rw [hch]
                rintro x w7 ⟨rfl, hb7⟩
                have hV7 := hV6.below hb7
                have hO7 := hO6.below hb7
                have hS7 := hS6.below hb7
                have hb17 := hb16.trans (hb7.mono hb16.size)
                have vlt7 := hV6.blk.lt
                clear k0 o0 o1 o2 o3 o4 s0 s1
                have o0 := Blk.cell hO7 (j := 0) rfl
                have o1 := Blk.cell hO7 (j := 1) rfl
                have o2 := Blk.cell hO7 (j := 2) rfl
                have o3 := Blk.cell hO7 (j := 3) rfl
                go_wp2_with fail
                go_fit (HC2.out w7 hV7)
                rintro x w8 ⟨A8, c8, rfl, hr8, ha8, hV8, hU8⟩
                have sz7 := hb7.size
                have hO8 := (hU8.blk (g + 1) hO7.lt (by omega) (by omega) (by omega)).trans hO7
                have hS8 := (hU8.blk g hS7.lt (by omega) (by omega) (by omega)).trans hS7
                have hb18 : Below w1.heap.size w1 w8 := hU8.below hb17 hb17.size (by omega) (by omega) (by omega)
                have r6 := rd_updB (Hr6.out.below hb7) hU8 (fun hh a ha => by have := ha6 a ha; have := hb45.size; omega)
                have r3 := rd_updB (Hr36.out.below hb7) hU8 (fun hh a ha => by have := ha3 a ha; omega)
                have rD := hDw.below hb18
                have sz8 := hb18.size
                obtain ⟨wf, hX9⟩ : ∃ x, w8.alloc (.cells #[.int .u8 1, .slice A8 xs.length c8] 49) = x := ⟨_, rfl⟩
                have hb89 : Below w8.heap.size w8 wf := by rw [← hX9]; exact (Below.refl _ _).alloc (Nat.le_refl _) _
                obtain ⟨g9, hg9⟩ : ∃ x, w8.heap.size = x := ⟨_, rfl⟩
                have hR9 : Blk wf g9 [.int .u8 1, .slice A8 xs.length c8] 49 := by rw [← hX9, ← hg9]; exact Blk.new w8 [.int .u8 1, .slice A8 xs.length c8] _
                have hO9 := Blk.below hO8 hb89
                have hS9 := Blk.below hS8 hb89
                have q0 : (w8.alloc (.cells #[.int .u8 1, .slice A8 xs.length c8] 49)).cell? ⟨g + 1, 0, none⟩ = some (.int .u8 5) := by rw [hX9]; exact Blk.cell hO9 (j := 0) rfl
                have q3 : (w8.alloc (.cells #[.int .u8 1, .slice A8 xs.length c8] 49)).cell? ⟨g + 1, 3, none⟩ = some (.slice D d dc) := by rw [hX9]; exact Blk.cell hO9 (j := 3) rfl
                have q5 : (w8.alloc (.cells #[.int .u8 1, .slice A8 xs.length c8] 49)).cell? ⟨g, 1, none⟩ = some (.int .i64 Z) := by rw [hX9]; exact Blk.cell hS9 (j := 1) rfl
                have HX9 := hide hX9
                clear o0 o1 o2 o3 hX9
                have hbf := hb89
                have hR := hR9
                have hO := hO9
                have hS := hS9
                go_wp2_with fail
                rw [HX9.out]
                clear q0 q3 q5
                have g1 := hR.cell (j := 1) rfl
                have o1 := Blk.cell hO (j := 1) rfl
                have s1 := Blk.cell hS (j := 1) rfl
                go_wp2
                go_quiet (fail)
                go_wp2_with fail
                have cvA : ∀ t, (convert 35 9 (.slice A8 xs.length c8)).run Try.prog (wf.drewN t) = .ok (.string (strOf xs)) (wf.drewN t) := fun t => convB c8 rfl ((hr8.below hbf).drewN t)
                have cvW : ∀ t, (convert 35 9 (.slice D d dc)).run Try.prog (wf.drewN t) = .ok (.string (strOf xs)) (wf.drewN t) := fun t => convB dc Hd.out ((rD.below hbf).drewN t)
                have cv1 : ∀ t, (convert 35 9 (.slice A6 F c6)).run Try.prog (wf.drewN t) = .ok (.string (strOf (bs.take F))) (wf.drewN t) := fun t => by
                  have h := (r6.below hbf).take F
                  rw [← bys_take, Htk.out] at h
                  exact convB c6 (by rw [List.length_take, HrN.out.1]; omega) (h.drewN t)
                have cv2 : ∀ t, (convert 35 9 (.slice A3 F c3)).run Try.prog (wf.drewN t) = .ok (.string (strOf (bs.take F))) (wf.drewN t) := fun t => by
                  have h := (r3.below hbf).take F
                  rw [← bys_take] at h
                  exact convB c3 (by rw [List.length_take, HrN.out.1]; omega) (h.drewN t)
                have cv3 : ∀ t, (convert 35 9 (.slice (Px.cutA A6 c6 G 1) (N - G) (c6 - G))).run Try.prog (wf.drewN t) = .ok (.string (strOf (bs.drop G))) (wf.drewN t) := fun t => by
                  have h := (r6.below hbf).cutA (n := N) (k := G) (cap := c6) (by rw [bys_length, HrN.out.2]; exact Nat.le_refl _) (by omega) hc6
                  rw [← bys_drop, Hdp.out] at h
                  exact convB (c6 - G) (by rw [List.length_drop, HrN.out.1]) (h.drewN t)
                have cv4 : ∀ t, (convert 35 9 (.slice (Px.cutA A3 c3 G 1) (N - G) (c3 - G))).run Try.prog (wf.drewN t) = .ok (.string (strOf (bs.drop G))) (wf.drewN t) := fun t => by
                  have h := (r3.below hbf).cutA (n := N) (k := G) (cap := c3) (by rw [bys_length, HrN.out.1]; exact Nat.le_refl _) (by omega) hc3
                  rw [← bys_drop] at h
                  exact convB (c3 - G) (by rw [List.length_drop, HrN.out.1]) (h.drewN t)
                have f1 : (F : Int) ≤ (c6 : Int) := by omega
                have f2 : (F : Int) ≤ (c3 : Int) := by omega
                have f3 : (G : Int) ≤ (N : Int) := by omega
                have f4 : F ≤ c6 := by omega
                have f5 : F ≤ c3 := by omega
                have f6 : G ≤ N := by omega
                go_quiet (fail)
                go_wp2
                go_ret
                exact ⟨by simp, hb01.trans ((below_drewN (below_drewN (hb18.trans (hbf.mono sz8)) _) _).mono hb01.size)⟩
  · have HBg := hide (fun W => begin_badE b z W none 0 0 (by rw [hse]; decide))
    have Hse := hide hse
    clear hse
    go_enter Try.func5, Try.ntmps5
    go_wp2_with fail
    rw [Hw0.out]
    go_fit (Haw.out w0)
    rintro x w1 ⟨rfl, hb1⟩
    have hb01 := hb0.trans (hb1.mono hb0.size)
    have hS1 := hS.below hb1
    have x0 := hS1.cell (j := 0) rfl
    have x1 := hS1.cell (j := 1) rfl
    go_wp2_with fail
    go_fit (HBg.out w1)
    rintro x w2 ⟨rfl, hb2⟩
    go_wp2
    go_ret
    exact ⟨rfl, hb01.trans (hb2.mono hb01.size)⟩
end Go.Proofs.Ytjilkaciopiabaa
