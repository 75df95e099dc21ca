/- Texts joined (shake.py). -/
import Derived.Test.YtlcbelmbonaooaaK74
import Derived.Test.YtlcbelmbonaooaaK78
import Derived.Test.YtlcbelmbonaooaaK79
namespace Go.Proofs.Ytlcbelmbonaooaa
set_option maxRecDepth 20000
open Go.RowKit Go.Px Go.Maps
set_option linter.unusedVariables false
theorem bare_any (k : Nat) (p n : Int) (D : Option Addr) (d dc : Nat) (ds : List UInt8) (O : Option Addr) (o oc : Nat) (os : List UInt8) (w : World) (hd : ds.length = d) (ho : os.length = o) (hD : Rd w D (bys ds)) (hO : Rd w O (bys os)) :
    Calls Try.prog 99 #[opv k p n D d dc O o oc] w fun x w' => x = .returned (.bool (noB k p n ds os)) ∧ Below w.heap.size w w' := by
  have Hd := hide hd
  have Ho := hide ho
  clear hd ho
  obtain ⟨w0, hw0⟩ : ∃ x, w.alloc (.cells #[.int .u8 k, .int .i64 p, .int .i64 n, .slice D d dc, .slice O o oc] 28) = x := ⟨_, rfl⟩
  have hB : Blk w0 w.heap.size [.int .u8 k, .int .i64 p, .int .i64 n, .slice D d dc, .slice O o oc] 28 := by rw [← hw0]; exact Blk.new w [.int .u8 k, .int .i64 p, .int .i64 n, .slice D d dc, .slice O o oc] _
  have hb0 : Below w.heap.size w w0 := by rw [← hw0]; exact (Below.refl _ _).alloc (Nat.le_refl _) _
  have Hw0 := hide hw0
  clear hw0
  have y0 := Blk.cell hB (j := 0) rfl; have y1 := Blk.cell hB (j := 1) rfl; have y2 := Blk.cell hB (j := 2) rfl; have y3 := Blk.cell hB (j := 3) rfl; have y4 := Blk.cell hB (j := 4) rfl
  go_enter Try.func99, Try.ntmps99
  go_wp2_with fail
  rw [Hw0.out]
  go_fit (rosame_any k p n D d dc ds O o oc os 0 0 0 none 0 0 [] none 0 0 [] w0 Hd.out Ho.out rfl rfl (hD.below hb0) (hO.below hb0) Rd.nil Rd.nil)
  rintro xx w1 ⟨rfl, hb1⟩
  go_wp2
  go_ret
  exact ⟨rfl, hb0.trans (hb1.mono hb0.size)⟩
set_option maxRecDepth 20000 in
set_option maxHeartbeats 6400000 in
theorem rentry_any {w : World} {Q : Nat → Prop} {x : EntryD} {cs : List Value} (h : tyEntry.Is w Q x cs) : Calls Try.prog 93 #[.agg cs.toArray] w fun e w' => e = .returned (.int .i64 (enE x)) ∧ Below w.heap.size w w' := by
  obtain ⟨eKind, eNum, eView, eClient, eSerial, eOpKind, eOpAt, eOpN, eOpData, eOpDataA, eOpDatan, eOpDatac, eOpOld, eOpOldA, eOpOldn, eOpOldc, eGroupEpoch, eGroupMembers, eGroupMembersA, eGroupMembersn, eGroupMembersc, eGroupMembersv, rfl, rfl, hu_eKind, h1_eNum, h2_eNum, h1_eView, h2_eView, h1_eClient, h2_eClient, h1_eSerial, h2_eSerial, hu_eOpKind, h1_eOpAt, h2_eOpAt, h1_eOpN, h2_eOpN, hl_eOpData, hc_eOpData, hm_eOpData, hr_eOpData, hq_eOpData, hl_eOpOld, hc_eOpOld, hm_eOpOld, hr_eOpOld, hq_eOpOld, h1_eGroupEpoch, h2_eGroupEpoch, hl_eGroupMembers, hc_eGroupMembers, hm_eGroupMembers, hr_eGroupMembers, hq_eGroupMembers, he_eGroupMembers⟩ := Entry_out h
  obtain ⟨hmi, _⟩ := i64rows he_eGroupMembers
  subst hmi
  obtain ⟨g, hg⟩ : ∃ g, w.heap.size = g := ⟨_, rfl⟩
  obtain ⟨w0, hw0⟩ : ∃ x, (w.alloc (.cells #[.int .u8 eKind, .int .i64 eNum, .int .i64 eView, .int .i64 eClient, .int .i64 eSerial, .int .u8 eOpKind, .int .i64 eOpAt, .int .i64 eOpN, .slice eOpDataA eOpDatan eOpDatac, .slice eOpOldA eOpOldn eOpOldc, .int .i64 eGroupEpoch, .slice eGroupMembersA eGroupMembersn eGroupMembersc] 114)).alloc (.cells #[.int .i64 eNum, .int .i64 eClient, .int .i64 eSerial] 3) = x := ⟨_, rfl⟩
  have hE0 : Blk w0 g [.int .u8 eKind, .int .i64 eNum, .int .i64 eView, .int .i64 eClient, .int .i64 eSerial, .int .u8 eOpKind, .int .i64 eOpAt, .int .i64 eOpN, .slice eOpDataA eOpDatan eOpDatac, .slice eOpOldA eOpOldn eOpOldc, .int .i64 eGroupEpoch, .slice eGroupMembersA eGroupMembersn eGroupMembersc] 114 := by rw [← hw0, ← hg]; exact (Blk.new w [.int .u8 eKind, .int .i64 eNum, .int .i64 eView, .int .i64 eClient, .int .i64 eSerial, .int .u8 eOpKind, .int .i64 eOpAt, .int .i64 eOpN, .slice eOpDataA eOpDatan eOpDatac, .slice eOpOldA eOpOldn eOpOldc, .int .i64 eGroupEpoch, .slice eGroupMembersA eGroupMembersn eGroupMembersc] _).alloc _
  have hI0 : Blk w0 (g + 1) [.int .i64 eNum, .int .i64 eClient, .int .i64 eSerial] 3 := by
    rw [← hw0, ← hg]
    have := Blk.new (w.alloc (.cells #[.int .u8 eKind, .int .i64 eNum, .int .i64 eView, .int .i64 eClient, .int .i64 eSerial, .int .u8 eOpKind, .int .i64 eOpAt, .int .i64 eOpN, .slice eOpDataA eOpDatan eOpDatac, .slice eOpOldA eOpOldn eOpOldc, .int .i64 eGroupEpoch, .slice eGroupMembersA eGroupMembersn eGroupMembersc] 114)) [.int .i64 eNum, .int .i64 eClient, .int .i64 eSerial] 3
    rwa [World.size_alloc] at this
  have hbw0 : Below w.heap.size w w0 := by rw [← hw0]; exact ((Below.refl _ _).alloc (Nat.le_refl _) _).alloc (by simp) _
  have Hw0 := hide hw0
  have hrD := hr_eOpData.below hbw0
  have hrO := hr_eOpOld.below hbw0
  have hrM := hr_eGroupMembers.below hbw0
  have HlD := hide hl_eOpData
  have HlO := hide hl_eOpOld
  have HlM := hide hl_eGroupMembers
  rw [hg] at hbw0
  clear hw0 hl_eOpData hl_eOpOld hl_eGroupMembers hq_eOpData hq_eOpOld hq_eGroupMembers he_eGroupMembers hr_eOpData hr_eOpOld hr_eGroupMembers
  go_enter Try.func93, Try.ntmps93
  go_wp2_with fail
  rw [Hw0.out]
  go_loopw [13] (fun iv wr => ∃ k : Nat, k ≤ 3 ∧ iv = .int .i64 k ∧ Below w0.heap.size w0 wr ∧ (1 ≤ k → serB eNum = true) ∧ (2 ≤ k → serB eClient = true) ∧ (3 ≤ k → serB eSerial = true)) (fun iv _ => 3 - (intOf iv).toNat)
  case atStart => exact ⟨0, by omega, rfl, Below.refl _ _, by omega, by omega, by omega⟩
  case round =>
    obtain ⟨k, hk, rfl, hB, s1, s2, s3⟩ := hrel
    have hE1 := hE0.below hB
    have hI1 := hI0.below hB
    have hBw := hbw0.trans (hB.mono (by have := hbw0.size; omega))
    have Hse := hide (And.intro s1 (And.intro s2 s3))
    clear s1 s2 s3
    obtain rfl | rfl | rfl | rfl : k = 0 ∨ k = 1 ∨ k = 2 ∨ k = 3 := by omega
    · have x1 := hI1.cell (j := 0) rfl
      by_cases v1 : 1 ≤ eNum
      · by_cases v2 : eNum ≤ 4611686018427387904
        · have hs : serB eNum = true := decide_eq_true ⟨v1, v2⟩
          have Hs := hide hs
          clear hs
          go_wp2
          go_roundw
          case rel => exact ⟨1, by omega, by go_num, hB, fun _ => Hs.out, fun hh => by omega, fun hh => by omega⟩
          case measure => simp [intOf]
        · have HV := hide (show enE (eKind, eNum, eView, eClient, eSerial, (eOpKind, eOpAt, eOpN, eOpData, eOpOld), (eGroupEpoch, eGroupMembers)) = 71 from enE_no (by simp [entryB, show serB eNum = false from decide_eq_false (by omega)]))
          go_wp2
          go_ret
          exact ⟨by rw [HV.out]; rfl, by first | exact hBw | (rw [hg]; exact hBw)⟩
      · have HV := hide (show enE (eKind, eNum, eView, eClient, eSerial, (eOpKind, eOpAt, eOpN, eOpData, eOpOld), (eGroupEpoch, eGroupMembers)) = 71 from enE_no (by simp [entryB, show serB eNum = false from decide_eq_false (by omega)]))
        go_wp2
        go_ret
        exact ⟨by rw [HV.out]; rfl, by first | exact hBw | (rw [hg]; exact hBw)⟩
    · have x1 := hI1.cell (j := 1) rfl
      by_cases v1 : 1 ≤ eClient
      · by_cases v2 : eClient ≤ 4611686018427387904
        · have hs : serB eClient = true := decide_eq_true ⟨v1, v2⟩
          have Hs := hide hs
          clear hs
          go_wp2
          go_roundw
          case rel => exact ⟨2, by omega, by go_num, hB, Hse.out.1 ∘ (fun _ => by omega), fun _ => Hs.out, fun hh => by omega⟩
          case measure => simp [intOf]
        · have HV := hide (show enE (eKind, eNum, eView, eClient, eSerial, (eOpKind, eOpAt, eOpN, eOpData, eOpOld), (eGroupEpoch, eGroupMembers)) = 71 from enE_no (by simp [entryB, show serB eClient = false from decide_eq_false (by omega)]))
          go_wp2
          go_ret
          exact ⟨by rw [HV.out]; rfl, by first | exact hBw | (rw [hg]; exact hBw)⟩
      · have HV := hide (show enE (eKind, eNum, eView, eClient, eSerial, (eOpKind, eOpAt, eOpN, eOpData, eOpOld), (eGroupEpoch, eGroupMembers)) = 71 from enE_no (by simp [entryB, show serB eClient = false from decide_eq_false (by omega)]))
        go_wp2
        go_ret
        exact ⟨by rw [HV.out]; rfl, by first | exact hBw | (rw [hg]; exact hBw)⟩
    · have x1 := hI1.cell (j := 2) rfl
      by_cases v1 : 1 ≤ eSerial
      · by_cases v2 : eSerial ≤ 4611686018427387904
        · have hs : serB eSerial = true := decide_eq_true ⟨v1, v2⟩
          have Hs := hide hs
          clear hs
          go_wp2
          go_roundw
          case rel => exact ⟨3, by omega, by go_num, hB, Hse.out.1 ∘ (fun _ => by omega), Hse.out.2.1 ∘ (fun _ => by omega), fun _ => Hs.out⟩
          case measure => simp [intOf]
        · have HV := hide (show enE (eKind, eNum, eView, eClient, eSerial, (eOpKind, eOpAt, eOpN, eOpData, eOpOld), (eGroupEpoch, eGroupMembers)) = 71 from enE_no (by simp [entryB, show serB eSerial = false from decide_eq_false (by omega)]))
          go_wp2
          go_ret
          exact ⟨by rw [HV.out]; rfl, by first | exact hBw | (rw [hg]; exact hBw)⟩
      · have HV := hide (show enE (eKind, eNum, eView, eClient, eSerial, (eOpKind, eOpAt, eOpN, eOpData, eOpOld), (eGroupEpoch, eGroupMembers)) = 71 from enE_no (by simp [entryB, show serB eSerial = false from decide_eq_false (by omega)]))
        go_wp2
        go_ret
        exact ⟨by rw [HV.out]; rfl, by first | exact hBw | (rw [hg]; exact hBw)⟩
    · obtain ⟨sa, sb, sc⟩ := Hse.out
      have h1 := sa (by omega)
      have h2 := sb (by omega)
      have h3 := sc (by omega)
      have H1 := hide h1
      have H2 := hide h2
      have H3 := hide h3
      clear sa sb sc h1 h2 h3 Hse
      have y0 := Blk.cell hE1 (j := 0) rfl; have y1 := Blk.cell hE1 (j := 1) rfl; have y2 := Blk.cell hE1 (j := 2) rfl; have y3 := Blk.cell hE1 (j := 3) rfl; have y4 := Blk.cell hE1 (j := 4) rfl; have y5 := Blk.cell hE1 (j := 5) rfl; have y6 := Blk.cell hE1 (j := 6) rfl; have y7 := Blk.cell hE1 (j := 7) rfl; have y8 := Blk.cell hE1 (j := 8) rfl; have y9 := Blk.cell hE1 (j := 9) rfl; have y10 := Blk.cell hE1 (j := 10) rfl; have y11 := Blk.cell hE1 (j := 11) rfl
      by_cases v1 : 0 ≤ eView
      case neg =>
        have HV := hide (show enE (eKind, eNum, eView, eClient, eSerial, (eOpKind, eOpAt, eOpN, eOpData, eOpOld), (eGroupEpoch, eGroupMembers)) = 71 from enE_no (by simp [entryB, show numB eView = false from decide_eq_false (by omega)]))
        go_wp2
        go_ret
        exact ⟨by rw [HV.out]; rfl, by first | exact hBw | (rw [hg]; exact hBw)⟩
      by_cases v2 : eView ≤ 4611686018427387904
      case neg =>
        have HV := hide (show enE (eKind, eNum, eView, eClient, eSerial, (eOpKind, eOpAt, eOpN, eOpData, eOpOld), (eGroupEpoch, eGroupMembers)) = 71 from enE_no (by simp [entryB, show numB eView = false from decide_eq_false (by omega)]))
        go_wp2
        go_ret
        exact ⟨by rw [HV.out]; rfl, by first | exact hBw | (rw [hg]; exact hBw)⟩
      have H4 := hide (show numB eView = true from decide_eq_true ⟨v1, v2⟩)
      have HK := hide (show entryB (eKind, eNum, eView, eClient, eSerial, (eOpKind, eOpAt, eOpN, eOpData, eOpOld), (eGroupEpoch, eGroupMembers)) = kindB (eKind, eNum, eView, eClient, eSerial, (eOpKind, eOpAt, eOpN, eOpData, eOpOld), (eGroupEpoch, eGroupMembers)) by simp [entryB, H1.out, H2.out, H3.out, H4.out])
      obtain rfl | rfl | ⟨k1, k2⟩ : eKind = 1 ∨ eKind = 2 ∨ (eKind ≠ 1 ∧ eKind ≠ 2) := by omega
      · obtain ⟨F, hF⟩ : ∃ y, fmE eOpKind eOpAt eOpN eOpDatan eOpOldn = y := ⟨_, rfl⟩
        have HKv := hide (show kindB (1, eNum, eView, eClient, eSerial, (eOpKind, eOpAt, eOpN, eOpData, eOpOld), eGroupEpoch, eGroupMembers) = ((F == 0) && ((eGroupEpoch == 0) && ((eGroupMembersn : Int) == 0))) by
          show ((fmE eOpKind eOpAt eOpN eOpData.length eOpOld.length == 0) && ngB eGroupEpoch eGroupMembers.length) = _
          rw [HlD.out, HlO.out, HlM.out, hF]; rfl)
        go_wp2_with fail
        go_fit (rform_any eOpKind eOpAt eOpN eOpDataA eOpDatan eOpDatac eOpOldA eOpOldn eOpOldc wr hu_eOpKind)
        rw [hF]
        rintro xx w1 ⟨rfl, hb1⟩
        have hBz := hBw.trans (hb1.mono (by have := hBw.size; omega))
        clear hF y0 y1 y2 y3 y4 y5 y6 y7 y8 y9 y10 y11
        have y0 := Blk.cell (hE1.below hb1) (j := 0) rfl; have y1 := Blk.cell (hE1.below hb1) (j := 1) rfl; have y2 := Blk.cell (hE1.below hb1) (j := 2) rfl; have y3 := Blk.cell (hE1.below hb1) (j := 3) rfl; have y4 := Blk.cell (hE1.below hb1) (j := 4) rfl; have y5 := Blk.cell (hE1.below hb1) (j := 5) rfl; have y6 := Blk.cell (hE1.below hb1) (j := 6) rfl; have y7 := Blk.cell (hE1.below hb1) (j := 7) rfl; have y8 := Blk.cell (hE1.below hb1) (j := 8) rfl; have y9 := Blk.cell (hE1.below hb1) (j := 9) rfl; have y10 := Blk.cell (hE1.below hb1) (j := 10) rfl; have y11 := Blk.cell (hE1.below hb1) (j := 11) rfl
        rcases bool_two (F == 0) with q1 | q1
        · rcases bool_two (eGroupEpoch == 0) with q2 | q2
          · rcases bool_two ((eGroupMembersn : Int) == 0) with q3 | q3
            · have HV := hide (show enE (1, eNum, eView, eClient, eSerial, (eOpKind, eOpAt, eOpN, eOpData, eOpOld), eGroupEpoch, eGroupMembers) = 0 from enE_ok (by rw [HK.out, HKv.out, q1, q2, q3]; rfl))
              go_wp2
              go_ret
              exact ⟨by rw [HV.out]; rfl, by first | exact hBz | (rw [hg]; exact hBz)⟩
            · have HV := hide (show enE (1, eNum, eView, eClient, eSerial, (eOpKind, eOpAt, eOpN, eOpData, eOpOld), eGroupEpoch, eGroupMembers) = 71 from enE_no (by rw [HK.out, HKv.out, q1, q2, q3]; rfl))
              go_wp2
              go_ret
              exact ⟨by rw [HV.out]; rfl, by first | exact hBz | (rw [hg]; exact hBz)⟩
          · have HV := hide (show enE (1, eNum, eView, eClient, eSerial, (eOpKind, eOpAt, eOpN, eOpData, eOpOld), eGroupEpoch, eGroupMembers) = 71 from enE_no (by rw [HK.out, HKv.out, q1, q2]; rfl))
            go_wp2
            go_ret
            exact ⟨by rw [HV.out]; rfl, by first | exact hBz | (rw [hg]; exact hBz)⟩
        · have HV := hide (show enE (1, eNum, eView, eClient, eSerial, (eOpKind, eOpAt, eOpN, eOpData, eOpOld), eGroupEpoch, eGroupMembers) = 71 from enE_no (by rw [HK.out, HKv.out, q1]; rfl))
          go_wp2
          go_ret
          exact ⟨by rw [HV.out]; rfl, by first | exact hBz | (rw [hg]; exact hBz)⟩
      · have HKv := hide (show kindB (2, eNum, eView, eClient, eSerial, (eOpKind, eOpAt, eOpN, eOpData, eOpOld), eGroupEpoch, eGroupMembers) = (grpOk eGroupEpoch eGroupMembers && noB eOpKind eOpAt eOpN eOpData eOpOld) from rfl)
        have hrD1 := hrD.below hB
        have hrO1 := hrO.below hB
        have hrM1 := hrM.below hB
        go_wp2_with fail
        go_fit (bare_any eOpKind eOpAt eOpN eOpDataA eOpDatan eOpDatac eOpData eOpOldA eOpOldn eOpOldc eOpOld wr HlD.out HlO.out hrD1 hrO1)
        rintro xx w1 ⟨rfl, hb1⟩
        have hBz := hBw.trans (hb1.mono (by have := hBw.size; omega))
        clear y0 y1 y2 y3 y4 y5 y6 y7 y8 y9 y10 y11
        have y0 := Blk.cell (hE1.below hb1) (j := 0) rfl; have y1 := Blk.cell (hE1.below hb1) (j := 1) rfl; have y2 := Blk.cell (hE1.below hb1) (j := 2) rfl; have y3 := Blk.cell (hE1.below hb1) (j := 3) rfl; have y4 := Blk.cell (hE1.below hb1) (j := 4) rfl; have y5 := Blk.cell (hE1.below hb1) (j := 5) rfl; have y6 := Blk.cell (hE1.below hb1) (j := 6) rfl; have y7 := Blk.cell (hE1.below hb1) (j := 7) rfl; have y8 := Blk.cell (hE1.below hb1) (j := 8) rfl; have y9 := Blk.cell (hE1.below hb1) (j := 9) rfl; have y10 := Blk.cell (hE1.below hb1) (j := 10) rfl; have y11 := Blk.cell (hE1.below hb1) (j := 11) rfl
        rcases bool_two (noB eOpKind eOpAt eOpN eOpData eOpOld) with q1 | q1
        · have Q1 := hide q1
          rw [q1]
          clear q1
          go_wp2_with fail
          go_fit (rgroup_any eGroupEpoch eGroupMembersA eGroupMembersn eGroupMembersc eGroupMembers w1 HlM.out (hrM1.below hb1))
          rintro xx w2 ⟨rfl, hb2⟩
          have hBy := hBz.trans (hb2.mono (by have := hBz.size; omega))
          cases hgo : grpOk eGroupEpoch eGroupMembers with
          | true =>
            have HV := hide (show enE (2, eNum, eView, eClient, eSerial, (eOpKind, eOpAt, eOpN, eOpData, eOpOld), eGroupEpoch, eGroupMembers) = 0 from enE_ok (by rw [HK.out, HKv.out, Q1.out, hgo]; rfl))
            rw [gE_ok hgo]
            clear hgo
            go_wp2
            go_ret
            exact ⟨by rw [HV.out]; rfl, by first | exact hBy | (rw [hg]; exact hBy)⟩
          | false =>
            have HV := hide (show enE (2, eNum, eView, eClient, eSerial, (eOpKind, eOpAt, eOpN, eOpData, eOpOld), eGroupEpoch, eGroupMembers) = 71 from enE_no (by rw [HK.out, HKv.out, Q1.out, hgo]; rfl))
            rw [gE_bad hgo]
            clear hgo
            go_wp2
            go_ret
            exact ⟨by rw [HV.out]; rfl, by first | exact hBy | (rw [hg]; exact hBy)⟩
        · have HV := hide (show enE (2, eNum, eView, eClient, eSerial, (eOpKind, eOpAt, eOpN, eOpData, eOpOld), eGroupEpoch, eGroupMembers) = 71 from enE_no (by rw [HK.out, HKv.out, q1, Bool.and_false]))
          rw [q1]
          clear q1
          go_wp2
          go_ret
          exact ⟨by rw [HV.out]; rfl, by first | exact hBz | (rw [hg]; exact hBz)⟩
      · have e1 : ((eKind : Int) == 1) = false := by simp; omega
        have e2 : ((eKind : Int) == 2) = false := by simp; omega
        have HV := hide (show enE (eKind, eNum, eView, eClient, eSerial, (eOpKind, eOpAt, eOpN, eOpData, eOpOld), (eGroupEpoch, eGroupMembers)) = 71 from enE_no (by rw [HK.out]; unfold kindB; rw [if_neg k1, if_neg k2]))
        clear k1 k2
        go_wp2
        go_ret
        exact ⟨by rw [HV.out]; rfl, by first | exact hBw | (rw [hg]; exact hBw)⟩
end Go.Proofs.Ytlcbelmbonaooaa
namespace Go.Proofs.Ytlcbelmbonaooaa
set_option maxRecDepth 20000
open Go.RowKit Go.Px Go.Maps
set_option linter.unusedVariables false
set_option linter.unusedSimpArgs false
def eqE (x y : EntryD) : Bool := ((x.1 : Int) == (y.1 : Int)) && ((x.2.1 == y.2.1) && ((x.2.2.1 == y.2.2.1) && ((x.2.2.2.1 == y.2.2.2.1) && ((x.2.2.2.2.1 == y.2.2.2.2.1) &&
  (eqO x.2.2.2.2.2.1.1 x.2.2.2.2.2.1.2.1 x.2.2.2.2.2.1.2.2.1 x.2.2.2.2.2.1.2.2.2.1 x.2.2.2.2.2.1.2.2.2.2 y.2.2.2.2.2.1.1 y.2.2.2.2.2.1.2.1 y.2.2.2.2.2.1.2.2.1 y.2.2.2.2.2.1.2.2.2.1 y.2.2.2.2.2.1.2.2.2.2 && eqG x.2.2.2.2.2.2.1 x.2.2.2.2.2.2.2 y.2.2.2.2.2.2.1 y.2.2.2.2.2.2.2)))))
theorem eqE_self (x : EntryD) : eqE x x = true := by unfold eqE; simp [eqO, eqG, eqB]
set_option maxRecDepth 20000 in
set_option maxHeartbeats 3200000 in
theorem rsameE_any {w : World} {Q Q' : Nat → Prop} {x y : EntryD} {cs ds : List Value} (h : tyEntry.Is w Q x cs) (h' : tyEntry.Is w Q' y ds) : Calls Try.prog 85 #[.agg cs.toArray, .agg ds.toArray] w fun e w' => e = .returned (.bool (eqE x y)) ∧ Below w.heap.size w w' := by
  obtain ⟨eKind, eNum, eView, eClient, eSerial, eOpKind, eOpAt, eOpN, eOpData, eOpDataA, eOpDatan, eOpDatac, eOpOld, eOpOldA, eOpOldn, eOpOldc, eGroupEpoch, eGroupMembers, eGroupMembersA, eGroupMembersn, eGroupMembersc, eGroupMembersv, rfl, rfl, hu_eKind, h1_eNum, h2_eNum, h1_eView, h2_eView, h1_eClient, h2_eClient, h1_eSerial, h2_eSerial, hu_eOpKind, h1_eOpAt, h2_eOpAt, h1_eOpN, h2_eOpN, hl_eOpData, hc_eOpData, hm_eOpData, hr_eOpData, hq_eOpData, hl_eOpOld, hc_eOpOld, hm_eOpOld, hr_eOpOld, hq_eOpOld, h1_eGroupEpoch, h2_eGroupEpoch, hl_eGroupMembers, hc_eGroupMembers, hm_eGroupMembers, hr_eGroupMembers, hq_eGroupMembers, he_eGroupMembers⟩ := Entry_out h
  obtain ⟨fKind, fNum, fView, fClient, fSerial, fOpKind, fOpAt, fOpN, fOpData, fOpDataA, fOpDatan, fOpDatac, fOpOld, fOpOldA, fOpOldn, fOpOldc, fGroupEpoch, fGroupMembers, fGroupMembersA, fGroupMembersn, fGroupMembersc, fGroupMembersv, rfl, rfl, hu_fKind, h1_fNum, h2_fNum, h1_fView, h2_fView, h1_fClient, h2_fClient, h1_fSerial, h2_fSerial, hu_fOpKind, h1_fOpAt, h2_fOpAt, h1_fOpN, h2_fOpN, hl_fOpData, hc_fOpData, hm_fOpData, hr_fOpData, hq_fOpData, hl_fOpOld, hc_fOpOld, hm_fOpOld, hr_fOpOld, hq_fOpOld, h1_fGroupEpoch, h2_fGroupEpoch, hl_fGroupMembers, hc_fGroupMembers, hm_fGroupMembers, hr_fGroupMembers, hq_fGroupMembers, he_fGroupMembers⟩ := Entry_out h'
  obtain ⟨hmi, _⟩ := i64rows he_eGroupMembers
  subst hmi
  obtain ⟨hmi', _⟩ := i64rows he_fGroupMembers
  subst hmi'
  obtain ⟨g, hg⟩ : ∃ g, w.heap.size = g := ⟨_, rfl⟩
  obtain ⟨w0, hw0⟩ : ∃ x, (w.alloc (.cells #[.int .u8 eKind, .int .i64 eNum, .int .i64 eView, .int .i64 eClient, .int .i64 eSerial, .int .u8 eOpKind, .int .i64 eOpAt, .int .i64 eOpN, .slice eOpDataA eOpDatan eOpDatac, .slice eOpOldA eOpOldn eOpOldc, .int .i64 eGroupEpoch, .slice eGroupMembersA eGroupMembersn eGroupMembersc] 114)).alloc (.cells #[.int .u8 fKind, .int .i64 fNum, .int .i64 fView, .int .i64 fClient, .int .i64 fSerial, .int .u8 fOpKind, .int .i64 fOpAt, .int .i64 fOpN, .slice fOpDataA fOpDatan fOpDatac, .slice fOpOldA fOpOldn fOpOldc, .int .i64 fGroupEpoch, .slice fGroupMembersA fGroupMembersn fGroupMembersc] 114) = x := ⟨_, rfl⟩
  have hS : Blk w0 g [.int .u8 eKind, .int .i64 eNum, .int .i64 eView, .int .i64 eClient, .int .i64 eSerial, .int .u8 eOpKind, .int .i64 eOpAt, .int .i64 eOpN, .slice eOpDataA eOpDatan eOpDatac, .slice eOpOldA eOpOldn eOpOldc, .int .i64 eGroupEpoch, .slice eGroupMembersA eGroupMembersn eGroupMembersc] 114 := by rw [← hw0, ← hg]; exact (Blk.new w [.int .u8 eKind, .int .i64 eNum, .int .i64 eView, .int .i64 eClient, .int .i64 eSerial, .int .u8 eOpKind, .int .i64 eOpAt, .int .i64 eOpN, .slice eOpDataA eOpDatan eOpDatac, .slice eOpOldA eOpOldn eOpOldc, .int .i64 eGroupEpoch, .slice eGroupMembersA eGroupMembersn eGroupMembersc] _).alloc _
  have hT : Blk w0 (g + 1) [.int .u8 fKind, .int .i64 fNum, .int .i64 fView, .int .i64 fClient, .int .i64 fSerial, .int .u8 fOpKind, .int .i64 fOpAt, .int .i64 fOpN, .slice fOpDataA fOpDatan fOpDatac, .slice fOpOldA fOpOldn fOpOldc, .int .i64 fGroupEpoch, .slice fGroupMembersA fGroupMembersn fGroupMembersc] 114 := by
    rw [← hw0, ← hg]
    have := Blk.new (w.alloc (.cells #[.int .u8 eKind, .int .i64 eNum, .int .i64 eView, .int .i64 eClient, .int .i64 eSerial, .int .u8 eOpKind, .int .i64 eOpAt, .int .i64 eOpN, .slice eOpDataA eOpDatan eOpDatac, .slice eOpOldA eOpOldn eOpOldc, .int .i64 eGroupEpoch, .slice eGroupMembersA eGroupMembersn eGroupMembersc] 114)) [.int .u8 fKind, .int .i64 fNum, .int .i64 fView, .int .i64 fClient, .int .i64 fSerial, .int .u8 fOpKind, .int .i64 fOpAt, .int .i64 fOpN, .slice fOpDataA fOpDatan fOpDatac, .slice fOpOldA fOpOldn fOpOldc, .int .i64 fGroupEpoch, .slice fGroupMembersA fGroupMembersn fGroupMembersc] 114
    rwa [World.size_alloc] at this
  have hb0 : Below w.heap.size w w0 := by rw [← hw0]; exact ((Below.refl _ _).alloc (Nat.le_refl _) _).alloc (by simp) _
  have HO := hide (fun W (hW : Below w.heap.size w W) => rosame_any eOpKind eOpAt eOpN eOpDataA eOpDatan eOpDatac eOpData eOpOldA eOpOldn eOpOldc eOpOld fOpKind fOpAt fOpN fOpDataA fOpDatan fOpDatac fOpData fOpOldA fOpOldn fOpOldc fOpOld W hl_eOpData hl_eOpOld hl_fOpData hl_fOpOld (hr_eOpData.below hW) (hr_eOpOld.below hW) (hr_fOpData.below hW) (hr_fOpOld.below hW))
  have HG := hide (fun W (hW : Below w.heap.size w W) => rsameg_any eGroupEpoch eGroupMembersA eGroupMembersn eGroupMembersc eGroupMembers fGroupEpoch fGroupMembersA fGroupMembersn fGroupMembersc fGroupMembers W hl_eGroupMembers hl_fGroupMembers (by omega) (by omega) (hr_eGroupMembers.below hW) (hr_fGroupMembers.below hW))
  have Hw0 := hide hw0
  have Hg := hide hg
  clear hw0 hl_eOpData hl_eOpOld hl_fOpData hl_fOpOld hl_eGroupMembers hl_fGroupMembers
  have y0 := Blk.cell hS (j := 0) rfl; have y1 := Blk.cell hS (j := 1) rfl; have y2 := Blk.cell hS (j := 2) rfl; have y3 := Blk.cell hS (j := 3) rfl; have y4 := Blk.cell hS (j := 4) rfl; have y5 := Blk.cell hS (j := 5) rfl; have y6 := Blk.cell hS (j := 6) rfl; have y7 := Blk.cell hS (j := 7) rfl; have y8 := Blk.cell hS (j := 8) rfl; have y9 := Blk.cell hS (j := 9) rfl; have y10 := Blk.cell hS (j := 10) rfl; have y11 := Blk.cell hS (j := 11) rfl
  have z0 := Blk.cell hT (j := 0) rfl; have z1 := Blk.cell hT (j := 1) rfl; have z2 := Blk.cell hT (j := 2) rfl; have z3 := Blk.cell hT (j := 3) rfl; have z4 := Blk.cell hT (j := 4) rfl; have z5 := Blk.cell hT (j := 5) rfl; have z6 := Blk.cell hT (j := 6) rfl; have z7 := Blk.cell hT (j := 7) rfl; have z8 := Blk.cell hT (j := 8) rfl; have z9 := Blk.cell hT (j := 9) rfl; have z10 := Blk.cell hT (j := 10) rfl; have z11 := Blk.cell hT (j := 11) rfl
  rcases bool_two ((eKind : Int) == (fKind : Int)) with q0 | q0
  rotate_left
  · have HF := hide (show eqE (eKind, eNum, eView, eClient, eSerial, (eOpKind, eOpAt, eOpN, eOpData, eOpOld), (eGroupEpoch, eGroupMembers)) (fKind, fNum, fView, fClient, fSerial, (fOpKind, fOpAt, fOpN, fOpData, fOpOld), (fGroupEpoch, fGroupMembers)) = false by unfold eqE; simp only [q0, Bool.false_and, Bool.and_false, Bool.true_and])
    go_enter Try.func85, Try.ntmps85
    go_wp2
    go_ret
    exact ⟨by rw [HF.out]; first | rfl | trivial, by rw [Hw0.out]; exact hb0⟩
  rcases bool_two (eNum == fNum) with q1 | q1
  rotate_left
  · have HF := hide (show eqE (eKind, eNum, eView, eClient, eSerial, (eOpKind, eOpAt, eOpN, eOpData, eOpOld), (eGroupEpoch, eGroupMembers)) (fKind, fNum, fView, fClient, fSerial, (fOpKind, fOpAt, fOpN, fOpData, fOpOld), (fGroupEpoch, fGroupMembers)) = false by unfold eqE; simp only [q0, q1, Bool.false_and, Bool.and_false, Bool.true_and])
    go_enter Try.func85, Try.ntmps85
    go_wp2
    go_ret
    exact ⟨by rw [HF.out]; first | rfl | trivial, by rw [Hw0.out]; exact hb0⟩
  rcases bool_two (eView == fView) with q2 | q2
  rotate_left
  · have HF := hide (show eqE (eKind, eNum, eView, eClient, eSerial, (eOpKind, eOpAt, eOpN, eOpData, eOpOld), (eGroupEpoch, eGroupMembers)) (fKind, fNum, fView, fClient, fSerial, (fOpKind, fOpAt, fOpN, fOpData, fOpOld), (fGroupEpoch, fGroupMembers)) = false by unfold eqE; simp only [q0, q1, q2, Bool.false_and, Bool.and_false, Bool.true_and])
    go_enter Try.func85, Try.ntmps85
    go_wp2
    go_ret
    exact ⟨by rw [HF.out]; first | rfl | trivial, by rw [Hw0.out]; exact hb0⟩
  rcases bool_two (eClient == fClient) with q3 | q3
  rotate_left
  · have HF := hide (show eqE (eKind, eNum, eView, eClient, eSerial, (eOpKind, eOpAt, eOpN, eOpData, eOpOld), (eGroupEpoch, eGroupMembers)) (fKind, fNum, fView, fClient, fSerial, (fOpKind, fOpAt, fOpN, fOpData, fOpOld), (fGroupEpoch, fGroupMembers)) = false by unfold eqE; simp only [q0, q1, q2, q3, Bool.false_and, Bool.and_false, Bool.true_and])
    go_enter Try.func85, Try.ntmps85
    go_wp2
    go_ret
    exact ⟨by rw [HF.out]; first | rfl | trivial, by rw [Hw0.out]; exact hb0⟩
  rcases bool_two (eSerial == fSerial) with q4 | q4
  rotate_left
  · have HF := hide (show eqE (eKind, eNum, eView, eClient, eSerial, (eOpKind, eOpAt, eOpN, eOpData, eOpOld), (eGroupEpoch, eGroupMembers)) (fKind, fNum, fView, fClient, fSerial, (fOpKind, fOpAt, fOpN, fOpData, fOpOld), (fGroupEpoch, fGroupMembers)) = false by unfold eqE; simp only [q0, q1, q2, q3, q4, Bool.false_and, Bool.and_false, Bool.true_and])
    go_enter Try.func85, Try.ntmps85
    go_wp2
    go_ret
    exact ⟨by rw [HF.out]; first | rfl | trivial, by rw [Hw0.out]; exact hb0⟩
  cases hq : eqO eOpKind eOpAt eOpN eOpData eOpOld fOpKind fOpAt fOpN fOpData fOpOld with
  | false =>
    have HF := hide (show eqE (eKind, eNum, eView, eClient, eSerial, (eOpKind, eOpAt, eOpN, eOpData, eOpOld), (eGroupEpoch, eGroupMembers)) (fKind, fNum, fView, fClient, fSerial, (fOpKind, fOpAt, fOpN, fOpData, fOpOld), (fGroupEpoch, fGroupMembers)) = false by unfold eqE; simp only [q0, q1, q2, q3, q4, hq, Bool.false_and, Bool.and_false, Bool.true_and])
    have HQ := hide hq
    clear hq
    go_enter Try.func85, Try.ntmps85
    go_wp2_with fail
    rw [Hw0.out]
    go_fit (HO.out w0 hb0)
    rw [HQ.out]
    rintro xx w1 ⟨rfl, hb1⟩
    have hb01 := hb0.trans (hb1.mono hb0.size)
    go_wp2
    go_ret
    exact ⟨by rw [HF.out]; first | rfl | trivial, hb01⟩
  | true =>
    have HF := hide (show eqE (eKind, eNum, eView, eClient, eSerial, (eOpKind, eOpAt, eOpN, eOpData, eOpOld), (eGroupEpoch, eGroupMembers)) (fKind, fNum, fView, fClient, fSerial, (fOpKind, fOpAt, fOpN, fOpData, fOpOld), (fGroupEpoch, fGroupMembers)) = eqG eGroupEpoch eGroupMembers fGroupEpoch fGroupMembers by unfold eqE; simp only [q0, q1, q2, q3, q4, hq, Bool.true_and])
    have HQ := hide hq
    clear hq
    go_enter Try.func85, Try.ntmps85
    go_wp2_with fail
    rw [Hw0.out]
    go_fit (HO.out w0 hb0)
    rw [HQ.out]
    rintro xx w1 ⟨rfl, hb1⟩
    have hb01 := hb0.trans (hb1.mono hb0.size)
    have hS1 := hS.below hb1
    have hT1 := hT.below hb1
    clear y0 y1 y2 y3 y4 y5 y6 y7 y8 y9 y10 y11 z0 z1 z2 z3 z4 z5 z6 z7 z8 z9 z10 z11
    have y0 := Blk.cell hS1 (j := 0) rfl; have y1 := Blk.cell hS1 (j := 1) rfl; have y2 := Blk.cell hS1 (j := 2) rfl; have y3 := Blk.cell hS1 (j := 3) rfl; have y4 := Blk.cell hS1 (j := 4) rfl; have y5 := Blk.cell hS1 (j := 5) rfl; have y6 := Blk.cell hS1 (j := 6) rfl; have y7 := Blk.cell hS1 (j := 7) rfl; have y8 := Blk.cell hS1 (j := 8) rfl; have y9 := Blk.cell hS1 (j := 9) rfl; have y10 := Blk.cell hS1 (j := 10) rfl; have y11 := Blk.cell hS1 (j := 11) rfl
    have z0 := Blk.cell hT1 (j := 0) rfl; have z1 := Blk.cell hT1 (j := 1) rfl; have z2 := Blk.cell hT1 (j := 2) rfl; have z3 := Blk.cell hT1 (j := 3) rfl; have z4 := Blk.cell hT1 (j := 4) rfl; have z5 := Blk.cell hT1 (j := 5) rfl; have z6 := Blk.cell hT1 (j := 6) rfl; have z7 := Blk.cell hT1 (j := 7) rfl; have z8 := Blk.cell hT1 (j := 8) rfl; have z9 := Blk.cell hT1 (j := 9) rfl; have z10 := Blk.cell hT1 (j := 10) rfl; have z11 := Blk.cell hT1 (j := 11) rfl
    go_wp2_with fail
    go_fit (HG.out w1 hb01)
    rintro xx w2 ⟨rfl, hb2⟩
    go_wp2
    go_ret
    exact ⟨by rw [HF.out]; rfl, hb01.trans (hb2.mono hb01.size)⟩
end Go.Proofs.Ytlcbelmbonaooaa
