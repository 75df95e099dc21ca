/- Texts joined (shake.py). -/
import Derived.Deep.RegionHeldLaw
import Derived.Test.YtkknkdjdneldlaaGreatK74
import Derived.Test.YtkknkdjdneldlaaGreatK75
import Derived.Test.YtkknkdjdneldlaaGreatK76
import Derived.Test.YtkknkdjdneldlaaGreatK77
import Derived.Test.YtkknkdjdneldlaaGreatK712
import Derived.Test.YtkknkdjdneldlaaGreatK713
namespace Go.Proofs.YtkknkdjdneldlaaGreat
set_option maxRecDepth 20000
open Go.RowKit Go.Px Go.Maps
set_option linter.unusedVariables false
/-- What the document's Apply leaves, and tells. -/
def RApplyM (lo : Nat) (Y : Nat → Prop) (f : RFp) (r : MA × Int × Nat × List UInt8) (w : World) (e : Ending) (w' : World) : Prop :=
  ∃ A c, e = .returned (.tuple #[resv r.2.2.1 A r.2.2.2.length c, .int .i64 r.2.1]) ∧ r.2.2.2.length ≤ c ∧ c ≤ 9223372036854775807 ∧ Rd w' A (bys r.2.2.2) ∧ RMX w' lo Y f r.1 ∧ Fr f.W w w'
section
variable {X Y : Nat → Prop} {w w' : World} {lo : Nat} {f : RFp} {a : MA} {NN cb cv n c : Nat} {rows sv cs : List Value} {A G : Option Addr} {gn gc : Nat}
/-- What Ask tells, with where it lies. -/
def RAskQ (QQ : Nat → Prop) (V E : Int) (k : Nat) (bs : List UInt8) (w : World) (e : Ending) (w' : World) : Prop :=
  ∃ D d dc, e = .returned (.tuple #[.int .i64 V, resv k D d dc, .int .i64 E]) ∧ bs.length = d ∧ d ≤ dc ∧ dc ≤ 9223372036854775807 ∧ k < 256 ∧ Rd w' D (bys bs) ∧ Below w.heap.size w w' ∧ (bs ≠ [] → ∀ a, D = some a → QQ a.block)
theorem RAsk.q {QQ : Nat → Prop} {V E : Int} {k : Nat} {w : World} {e : Ending} {w' : World} (h : RAsk V E k [] w e w') : RAskQ QQ V E k [] w e w' := by
  obtain ⟨D, d, dc, h1, h2, h3, h4, h5, h6, h7⟩ := h
  exact ⟨D, d, dc, h1, h2, h3, h4, h5, h6, h7, fun h => absurd rfl h⟩
set_option maxRecDepth 20000 in
set_option maxHeartbeats 1600000 in
theorem rask_againQ {w : World} {r : Nat} {A : Option Addr} {n c : Nat} {cs : List Value} {es : List RowT} (h : RfIs w r A n c cs es) {QQ : Nat → Prop} (hqq : RwRows w QQ cs es) {m : TM} (ht : TbOf m es) (x s : Int) (hc : serB x = true) (hs : serB s = true) {k0 : Nat} {b0 : List UInt8} (hm : m x = some (s, k0, b0)) : Calls Tryz.prog 13 #[.pointer (some ⟨r, 0, none⟩), .int .i64 x, .int .i64 s] w (RAskQ QQ 2 0 k0 b0 w) := by
  obtain ⟨g, hg⟩ : ∃ g, w.heap.size = g := ⟨_, rfl⟩
  obtain ⟨w0, hw0⟩ : ∃ x, w.alloc (.cells #[.int .u8 0, .slice none 0 0] 40) = x := ⟨_, rfl⟩
  have hZ : Blk w0 g [.int .u8 0, .slice none 0 0] 40 := by rw [← hw0, ← hg]; exact Blk.new w [.int .u8 0, .slice none 0 0] _
  have hb0 : Below w.heap.size w w0 := by rw [← hw0]; exact (Below.refl _ _).alloc (Nat.le_refl _) _
  have h0 := h.below hb0
  have hnc := h.nc
  have hcm := h.cm
  have rl := h.blk.lt
  have zl := hZ.lt
  have Hw0 := hide hw0
  clear hw0
  have x0 := h0.blk.cell (j := 0) rfl
  have z0 := hZ.cell (j := 0) rfl
  have z1 := hZ.cell (j := 1) rfl
  have fz0 := hZ.frozen 0
  have fz1 := hZ.frozen 1
  have Hc := hide hc
  have Hs := hide hs
  clear hc hs
  obtain ⟨j, hj, hlt⟩ := ht.atS hm
  have HF := hide (rfind_at h0 x j _ hj hlt)
  have hjn : j < n := by rw [← h.len]; exact (List.getElem?_eq_some_iff.1 hj).1
  have hl := h0.rows.1
  obtain ⟨a, rfl, hat⟩ := h0.rd.some_of (xs := cs) (by rw [hl, h.len]; omega)
  obtain ⟨D, d, dc, _, y1, y2, y3, hk8, hd, hdc, hdm, hrd, hloc⟩ := (hqq.2 j _ hj).cells hat
  simp only at y1 y2 hk8 hd hrd hloc
  have Hd := hide hd
  clear ht hm hat hl hj hlt hd
  go_enter Tryz.func13, Tryz.ntmps13
  go_wp2_with fail
  try rw [Hw0.out]
  go_fit (number6_any x w0)
  rw [Hc.out]
  rintro xx w1 ⟨rfl, rfl⟩
  go_wp2_with fail
  try rw [Hw0.out]
  go_fit (number6_any s w0)
  rw [Hs.out]
  rintro xx w1 ⟨rfl, rfl⟩
  go_wp2_with fail
  go_fit HF.out
  rintro xx w1 ⟨rfl, rfl⟩
  go_wp2_with fail
  go_region
  go_wp2
  have hbz := (hb0.setCell (p := ⟨g, 0, none⟩) (leBk (by omega)) (.int .u8 k0)).setCell (p := ⟨g, 1, none⟩) (leBk (by omega)) (.slice D d dc)
  refine bodyPost_ret (results_scs rfl rfl (((hZ.set 0 (.int .u8 k0)).set 1 (.slice D d dc))) Tryz.underlying40 rfl (by kernel_rfl)) rfl ?_
  exact ⟨D, d, dc, rfl, Hd.out, hdc, hdm, hk8, (hrd.below hbz).drew, below_drewN hbz 1, hloc⟩

theorem rask_anyQ {w : World} {r : Nat} {A : Option Addr} {n c : Nat} {cs : List Value} {es : List RowT} (h : RfIs w r A n c cs es) {QQ : Nat → Prop} (hqq : RwRows w QQ cs es) {m : TM} (ht : TbOf m es) (x s : Int) : Calls Tryz.prog 13 #[.pointer (some ⟨r, 0, none⟩), .int .i64 x, .int .i64 s] w (RAskQ QQ (askV m n x s).1 (askV m n x s).2.1 (askV m n x s).2.2.1 (askV m n x s).2.2.2 w) := by
  rcases serB_two (x := x) (s := s) with hb | ⟨hc, hs⟩
  · rw [askV_bad hb]; exact (rask_bad h x s hb).mono fun _ _ h => h.q
  · unfold askV
    rw [if_pos ⟨hc, hs⟩]
    cases hm : m x with
    | none =>
      by_cases hN : 64 ≤ n
      · simp only [if_pos hN]; exact (rask_full h ht x s hc hs hm hN).mono fun _ _ h => h.q
      · simp only [if_neg hN]; exact (rask_new0 h ht x s hc hs hm (by omega)).mono fun _ _ h => h.q
    | some y =>
      obtain ⟨s0, k0, b0⟩ := y
      by_cases h1 : s0 < s
      · simp only [if_pos h1]; exact (rask_new1 h ht x s hc hs hm h1).mono fun _ _ h => h.q
      · by_cases h2 : s < s0
        · simp only [if_neg h1, if_pos h2]; exact (rask_old h ht x s hc hs hm h2).mono fun _ _ h => h.q
        · obtain rfl : s0 = s := by omega
          simp only [if_neg h1]; exact rask_againQ h hqq ht x s0 hc hs hm
set_option maxRecDepth 20000 in
set_option maxHeartbeats 12800000 in
theorem rapply7_bad {Q : Nat → Prop} {e : EntryD} {cs9 : List Value} (h : RMIs w lo Y f a NN cb cv n c rows sv cs A G gn gc) (hok : a.Ok) (he : tyEntry.Is w Q e cs9) (hx : entryB e = false) : Calls Tryz.prog 11 #[.pointer (some ⟨f.rb, 0, none⟩), .agg cs9.toArray] w (RApplyM lo Y f (a.apply e) w) := by
  have he' := he
  obtain ⟨eKind, eNum, eView, eClient, eSerial, eOpKind, eOpAt, eOpN, eOpData, eOpDataA, eOpDatan, eOpDatac, eOpOld, eOpOldA, eOpOldn, eOpOldc, eGroupEpoch, eGroupMembers, eGroupMembersA, eGroupMembersn, eGroupMembersc, eGroupMembersv, rfl, rfl, hu_eKind, h1_eNum, h2_eNum, h1_eView, h2_eView, h1_eClient, h2_eClient, h1_eSerial, h2_eSerial, hu_eOpKind, h1_eOpAt, h2_eOpAt, h1_eOpN, h2_eOpN, hl_eOpData, hc_eOpData, hm_eOpData, hr_eOpData, hq_eOpData, hl_eOpOld, hc_eOpOld, hm_eOpOld, hr_eOpOld, hq_eOpOld, h1_eGroupEpoch, h2_eGroupEpoch, hl_eGroupMembers, hc_eGroupMembers, hm_eGroupMembers, hr_eGroupMembers, hq_eGroupMembers, he_eGroupMembers⟩ := Entry_out he'
  obtain ⟨g, hg⟩ : ∃ g, w.heap.size = g := ⟨_, rfl⟩
  obtain ⟨w0, hw0⟩ : ∃ x, (w.alloc (.cells #[.int .u8 eKind, .int .i64 eNum, .int .i64 eView, .int .i64 eClient, .int .i64 eSerial, .int .u8 eOpKind, .int .i64 eOpAt, .int .i64 eOpN, .slice eOpDataA eOpDatan eOpDatac, .slice eOpOldA eOpOldn eOpOldc, .int .i64 eGroupEpoch, .slice eGroupMembersA eGroupMembersn eGroupMembersc] 49)).alloc (.cells #[.int .u8 0, .slice none 0 0] 40) = x := ⟨_, rfl⟩
  have hE : Blk w0 g [.int .u8 eKind, .int .i64 eNum, .int .i64 eView, .int .i64 eClient, .int .i64 eSerial, .int .u8 eOpKind, .int .i64 eOpAt, .int .i64 eOpN, .slice eOpDataA eOpDatan eOpDatac, .slice eOpOldA eOpOldn eOpOldc, .int .i64 eGroupEpoch, .slice eGroupMembersA eGroupMembersn eGroupMembersc] 49 := by rw [← hw0, ← hg]; exact (Blk.new w [.int .u8 eKind, .int .i64 eNum, .int .i64 eView, .int .i64 eClient, .int .i64 eSerial, .int .u8 eOpKind, .int .i64 eOpAt, .int .i64 eOpN, .slice eOpDataA eOpDatan eOpDatac, .slice eOpOldA eOpOldn eOpOldc, .int .i64 eGroupEpoch, .slice eGroupMembersA eGroupMembersn eGroupMembersc] _).alloc _
  have hZ : Blk w0 (g + 1) [.int .u8 0, .slice none 0 0] 40 := by
    rw [← hw0, ← hg]
    have := Blk.new (w.alloc (.cells #[.int .u8 eKind, .int .i64 eNum, .int .i64 eView, .int .i64 eClient, .int .i64 eSerial, .int .u8 eOpKind, .int .i64 eOpAt, .int .i64 eOpN, .slice eOpDataA eOpDatan eOpDatac, .slice eOpOldA eOpOldn eOpOldc, .int .i64 eGroupEpoch, .slice eGroupMembersA eGroupMembersn eGroupMembersc] 49)) [.int .u8 0, .slice none 0 0] 40
    rwa [World.size_alloc] at this
  have hb0 : Below w.heap.size w w0 := by rw [← hw0]; exact ((Below.refl _ _).alloc (Nat.le_refl _) _).alloc (by simp) _
  have Hw0 := hide hw0
  clear hw0
  have h0 := h.below hb0
  have zl := hZ.lt
  have hlt := h.lts
  have l1 := hlt f.rb (.inl rfl)
  have s0 := hb0.size
  have y0 := Blk.cell hE (j := 0) rfl; have y1 := Blk.cell hE (j := 1) rfl; have y2 := Blk.cell hE (j := 2) rfl; have y3 := Blk.cell hE (j := 3) rfl; have y4 := Blk.cell hE (j := 4) rfl; have y5 := Blk.cell hE (j := 5) rfl; have y6 := Blk.cell hE (j := 6) rfl; have y7 := Blk.cell hE (j := 7) rfl; have y8 := Blk.cell hE (j := 8) rfl; have y9 := Blk.cell hE (j := 9) rfl; have y10 := Blk.cell hE (j := 10) rfl; have y11 := Blk.cell hE (j := 11) rfl
  have HX := hide hx
  have HA := hide (show a.apply (eKind, eNum, eView, eClient, eSerial, (eOpKind, eOpAt, eOpN, eOpData, eOpOld), (eGroupEpoch, eGroupMembers)) = (a, 71, 0, []) by unfold MA.apply; rw [if_neg (by rw [hx]; decide)])
  clear hx
  go_enter Tryz.func11, Tryz.ntmps11
  go_wp2_with fail
  rw [Hw0.out]
  go_fit (rentry_any (he.below hb0))
  rw [enE_no HX.out]
  rintro xx w1 ⟨rfl, hb1⟩
  have hZ1 := hZ.below hb1
  have z0 := hZ1.cell (j := 0) rfl
  have z1 := hZ1.cell (j := 1) rfl
  have q0 := hZ1.frozen 0
  have q1 := hZ1.frozen 1
  have s1 := hb1.size
  have hZ3 := (hZ1.set 0 (.int .u8 0)).set 1 (.slice none 0 0)
  have Hbz := hide (show Below w.heap.size w ((w1.setCell ⟨g + 1, 0, none⟩ (.int .u8 0)).setCell ⟨g + 1, 1, none⟩ (.slice none 0 0)) from ((hb0.trans (hb1.mono hb0.size)).setCell (leBk (by omega)) _).setCell (leBk (by omega)) _)
  go_wp2
  refine bodyPost_ret (results_cell2 rfl rfl hZ3 Tryz.underlying40 rfl (by kernel_rfl)) rfl ?_
  rw [HA.out]
  exact ⟨none, 0, rfl, by simp, by omega, Rd.nil, ⟨NN, cb, cv, n, c, rows, sv, cs, A, G, gn, gc, h.below Hbz.out⟩, Fr.of_below Hbz.out⟩
set_option maxRecDepth 20000 in
set_option maxHeartbeats 12800000 in
theorem rapply7_order {Q : Nat → Prop} {e : EntryD} {cs9 : List Value} (h : RMIs w lo Y f a NN cb cv n c rows sv cs A G gn gc) (hok : a.Ok) (he : tyEntry.Is w Q e cs9) (hx : entryB e = true) (hn : e.2.1 ≠ a.num + 1) : Calls Tryz.prog 11 #[.pointer (some ⟨f.rb, 0, none⟩), .agg cs9.toArray] w (RApplyM lo Y f (a.apply e) w) := by
  have he' := he
  obtain ⟨eKind, eNum, eView, eClient, eSerial, eOpKind, eOpAt, eOpN, eOpData, eOpDataA, eOpDatan, eOpDatac, eOpOld, eOpOldA, eOpOldn, eOpOldc, eGroupEpoch, eGroupMembers, eGroupMembersA, eGroupMembersn, eGroupMembersc, eGroupMembersv, rfl, rfl, hu_eKind, h1_eNum, h2_eNum, h1_eView, h2_eView, h1_eClient, h2_eClient, h1_eSerial, h2_eSerial, hu_eOpKind, h1_eOpAt, h2_eOpAt, h1_eOpN, h2_eOpN, hl_eOpData, hc_eOpData, hm_eOpData, hr_eOpData, hq_eOpData, hl_eOpOld, hc_eOpOld, hm_eOpOld, hr_eOpOld, hq_eOpOld, h1_eGroupEpoch, h2_eGroupEpoch, hl_eGroupMembers, hc_eGroupMembers, hm_eGroupMembers, hr_eGroupMembers, hq_eGroupMembers, he_eGroupMembers⟩ := Entry_out he'
  obtain ⟨g, hg⟩ : ∃ g, w.heap.size = g := ⟨_, rfl⟩
  obtain ⟨w0, hw0⟩ : ∃ x, (w.alloc (.cells #[.int .u8 eKind, .int .i64 eNum, .int .i64 eView, .int .i64 eClient, .int .i64 eSerial, .int .u8 eOpKind, .int .i64 eOpAt, .int .i64 eOpN, .slice eOpDataA eOpDatan eOpDatac, .slice eOpOldA eOpOldn eOpOldc, .int .i64 eGroupEpoch, .slice eGroupMembersA eGroupMembersn eGroupMembersc] 49)).alloc (.cells #[.int .u8 0, .slice none 0 0] 40) = x := ⟨_, rfl⟩
  have hE : Blk w0 g [.int .u8 eKind, .int .i64 eNum, .int .i64 eView, .int .i64 eClient, .int .i64 eSerial, .int .u8 eOpKind, .int .i64 eOpAt, .int .i64 eOpN, .slice eOpDataA eOpDatan eOpDatac, .slice eOpOldA eOpOldn eOpOldc, .int .i64 eGroupEpoch, .slice eGroupMembersA eGroupMembersn eGroupMembersc] 49 := by rw [← hw0, ← hg]; exact (Blk.new w [.int .u8 eKind, .int .i64 eNum, .int .i64 eView, .int .i64 eClient, .int .i64 eSerial, .int .u8 eOpKind, .int .i64 eOpAt, .int .i64 eOpN, .slice eOpDataA eOpDatan eOpDatac, .slice eOpOldA eOpOldn eOpOldc, .int .i64 eGroupEpoch, .slice eGroupMembersA eGroupMembersn eGroupMembersc] _).alloc _
  have hZ : Blk w0 (g + 1) [.int .u8 0, .slice none 0 0] 40 := by
    rw [← hw0, ← hg]
    have := Blk.new (w.alloc (.cells #[.int .u8 eKind, .int .i64 eNum, .int .i64 eView, .int .i64 eClient, .int .i64 eSerial, .int .u8 eOpKind, .int .i64 eOpAt, .int .i64 eOpN, .slice eOpDataA eOpDatan eOpDatac, .slice eOpOldA eOpOldn eOpOldc, .int .i64 eGroupEpoch, .slice eGroupMembersA eGroupMembersn eGroupMembersc] 49)) [.int .u8 0, .slice none 0 0] 40
    rwa [World.size_alloc] at this
  have hb0 : Below w.heap.size w w0 := by rw [← hw0]; exact ((Below.refl _ _).alloc (Nat.le_refl _) _).alloc (by simp) _
  have Hw0 := hide hw0
  clear hw0
  have h0 := h.below hb0
  have zl := hZ.lt
  have hlt := h.lts
  have l1 := hlt f.rb (.inl rfl)
  have s0 := hb0.size
  have y0 := Blk.cell hE (j := 0) rfl; have y1 := Blk.cell hE (j := 1) rfl; have y2 := Blk.cell hE (j := 2) rfl; have y3 := Blk.cell hE (j := 3) rfl; have y4 := Blk.cell hE (j := 4) rfl; have y5 := Blk.cell hE (j := 5) rfl; have y6 := Blk.cell hE (j := 6) rfl; have y7 := Blk.cell hE (j := 7) rfl; have y8 := Blk.cell hE (j := 8) rfl; have y9 := Blk.cell hE (j := 9) rfl; have y10 := Blk.cell hE (j := 10) rfl; have y11 := Blk.cell hE (j := 11) rfl
  have HX := hide hx
  have hser := serB_out (entryB_kind hx).2
  have hnum := numB_out hok.num
  simp only at hn hser
  have HA := hide (show a.apply (eKind, eNum, eView, eClient, eSerial, (eOpKind, eOpAt, eOpN, eOpData, eOpOld), (eGroupEpoch, eGroupMembers)) = (a, 70, 0, []) by unfold MA.apply; rw [if_pos hx, if_neg hn])
  have q : (eNum - 1 != a.num) = true := by simp; omega
  clear hx hn
  go_enter Tryz.func11, Tryz.ntmps11
  go_wp2_with fail
  rw [Hw0.out]
  go_fit (rentry_any (he.below hb0))
  rw [enE_ok HX.out]
  rintro xx w1 ⟨rfl, hb1⟩
  have h1 := h0.below hb1
  have hE1 := hE.below hb1
  have hZ1 : Blk w1.drew (g + 1) [.int .u8 0, .slice none 0 0] 40 := hZ.below hb1.drew
  clear y0 y1 y2 y3 y4 y5 y6 y7 y8 y9 y10 y11
  have y1 := hE1.cell (j := 1) rfl
  have x0 := h1.blk.cell (j := 0) rfl
  have s1 := hb1.size
  go_wp2_with fail
  go_region
  all_goals
    have Hb1' : Below w.heap.size w w1.drew := (hb0.trans (hb1.mono hb0.size)).drew
    generalize w1.drew = wd at hZ1 Hb1' ⊢
    have z0 := hZ1.cell (j := 0) rfl
    have z1 := hZ1.cell (j := 1) rfl
    have q0 := hZ1.frozen 0
    have q1 := hZ1.frozen 1
    have hZ3 := (hZ1.set 0 (.int .u8 0)).set 1 (.slice none 0 0)
    have Hbz := hide (show Below w.heap.size w ((wd.setCell ⟨g + 1, 0, none⟩ (.int .u8 0)).setCell ⟨g + 1, 1, none⟩ (.slice none 0 0)) from (Hb1'.setCell (leBk (by omega)) _).setCell (leBk (by omega)) _)
    go_wp2
    refine bodyPost_ret (results_cell2 rfl rfl hZ3 Tryz.underlying40 rfl (by kernel_rfl)) rfl ?_
    rw [HA.out]
    exact ⟨none, 0, rfl, by simp, by omega, Rd.nil, ⟨NN, cb, cv, n, c, rows, sv, cs, A, G, gn, gc, h.below Hbz.out⟩, Fr.of_below Hbz.out⟩
set_option maxRecDepth 20000 in
set_option maxHeartbeats 12800000 in
theorem rapply7_old {Q : Nat → Prop} {e : EntryD} {cs9 : List Value} (h : RMIs w lo Y f a NN cb cv n c rows sv cs A G gn gc) (hok : a.Ok) (he : tyEntry.Is w Q e cs9) (hY : ∀ b, Y b → b < w.heap.size) (hx : entryB e = true) (hn : e.2.1 = a.num + 1) (hv : (askV (tmOf a.rows) a.rows.length e.2.2.2.1 e.2.2.2.2.1).1 ≠ 1) : Calls Tryz.prog 11 #[.pointer (some ⟨f.rb, 0, none⟩), .agg cs9.toArray] w (RApplyM lo Y f (a.apply e) w) := by
  have he' := he
  obtain ⟨eKind, eNum, eView, eClient, eSerial, eOpKind, eOpAt, eOpN, eOpData, eOpDataA, eOpDatan, eOpDatac, eOpOld, eOpOldA, eOpOldn, eOpOldc, eGroupEpoch, eGroupMembers, eGroupMembersA, eGroupMembersn, eGroupMembersc, eGroupMembersv, rfl, rfl, hu_eKind, h1_eNum, h2_eNum, h1_eView, h2_eView, h1_eClient, h2_eClient, h1_eSerial, h2_eSerial, hu_eOpKind, h1_eOpAt, h2_eOpAt, h1_eOpN, h2_eOpN, hl_eOpData, hc_eOpData, hm_eOpData, hr_eOpData, hq_eOpData, hl_eOpOld, hc_eOpOld, hm_eOpOld, hr_eOpOld, hq_eOpOld, h1_eGroupEpoch, h2_eGroupEpoch, hl_eGroupMembers, hc_eGroupMembers, hm_eGroupMembers, hr_eGroupMembers, hq_eGroupMembers, he_eGroupMembers⟩ := Entry_out he'
  obtain ⟨g, hg⟩ : ∃ g, w.heap.size = g := ⟨_, rfl⟩
  obtain ⟨w0, hw0⟩ : ∃ x, (w.alloc (.cells #[.int .u8 eKind, .int .i64 eNum, .int .i64 eView, .int .i64 eClient, .int .i64 eSerial, .int .u8 eOpKind, .int .i64 eOpAt, .int .i64 eOpN, .slice eOpDataA eOpDatan eOpDatac, .slice eOpOldA eOpOldn eOpOldc, .int .i64 eGroupEpoch, .slice eGroupMembersA eGroupMembersn eGroupMembersc] 49)).alloc (.cells #[.int .u8 0, .slice none 0 0] 40) = x := ⟨_, rfl⟩
  have hE : Blk w0 g [.int .u8 eKind, .int .i64 eNum, .int .i64 eView, .int .i64 eClient, .int .i64 eSerial, .int .u8 eOpKind, .int .i64 eOpAt, .int .i64 eOpN, .slice eOpDataA eOpDatan eOpDatac, .slice eOpOldA eOpOldn eOpOldc, .int .i64 eGroupEpoch, .slice eGroupMembersA eGroupMembersn eGroupMembersc] 49 := by rw [← hw0, ← hg]; exact (Blk.new w [.int .u8 eKind, .int .i64 eNum, .int .i64 eView, .int .i64 eClient, .int .i64 eSerial, .int .u8 eOpKind, .int .i64 eOpAt, .int .i64 eOpN, .slice eOpDataA eOpDatan eOpDatac, .slice eOpOldA eOpOldn eOpOldc, .int .i64 eGroupEpoch, .slice eGroupMembersA eGroupMembersn eGroupMembersc] _).alloc _
  have hZ : Blk w0 (g + 1) [.int .u8 0, .slice none 0 0] 40 := by
    rw [← hw0, ← hg]
    have := Blk.new (w.alloc (.cells #[.int .u8 eKind, .int .i64 eNum, .int .i64 eView, .int .i64 eClient, .int .i64 eSerial, .int .u8 eOpKind, .int .i64 eOpAt, .int .i64 eOpN, .slice eOpDataA eOpDatan eOpDatac, .slice eOpOldA eOpOldn eOpOldc, .int .i64 eGroupEpoch, .slice eGroupMembersA eGroupMembersn eGroupMembersc] 49)) [.int .u8 0, .slice none 0 0] 40
    rwa [World.size_alloc] at this
  have hb0 : Below w.heap.size w w0 := by rw [← hw0]; exact ((Below.refl _ _).alloc (Nat.le_refl _) _).alloc (by simp) _
  have Hw0 := hide hw0
  clear hw0
  have h0 := h.below hb0
  have zl := hZ.lt
  have hlt := h.lts
  have l1 := hlt f.rb (.inl rfl)
  have s0 := hb0.size
  have y0 := Blk.cell hE (j := 0) rfl; have y1 := Blk.cell hE (j := 1) rfl; have y2 := Blk.cell hE (j := 2) rfl; have y3 := Blk.cell hE (j := 3) rfl; have y4 := Blk.cell hE (j := 4) rfl; have y5 := Blk.cell hE (j := 5) rfl; have y6 := Blk.cell hE (j := 6) rfl; have y7 := Blk.cell hE (j := 7) rfl; have y8 := Blk.cell hE (j := 8) rfl; have y9 := Blk.cell hE (j := 9) rfl; have y10 := Blk.cell hE (j := 10) rfl; have y11 := Blk.cell hE (j := 11) rfl
  have HX := hide hx
  have hser := serB_out (entryB_kind hx).2
  have hnum := numB_out hok.num
  simp only at hn hser
  have HN := hide hn
  have q : (eNum - 1 != a.num) = false := by simp; omega
  have hok1 : rowsB a.rows = true := hok.rows
  have hln := h.tab.len
  have htb := hok.tb
  clear hx hn
  go_enter Tryz.func11, Tryz.ntmps11
  go_wp2_with fail
  rw [Hw0.out]
  go_fit (rentry_any (he.below hb0))
  rw [enE_ok HX.out]
  rintro xx w1 ⟨rfl, hb1⟩
  have h1 := h0.below hb1
  have hE1 := hE.below hb1
  have hZ1 := hZ.below hb1
  clear y0 y1 y2 y3 y4 y5 y6 y7 y8 y9 y10 y11
  have y1 := hE1.cell (j := 1) rfl
  have x0 := h1.blk.cell (j := 0) rfl
  have s1 := hb1.size
  go_wp2_with fail
  go_region
  all_goals
    have xf0 := h1.blk.frozen 0
    have hav := (((h.avoid (Z := fun b => w.heap.size ≤ b) (fun b hb => hb)).below hb0).below hb1).below (Below.refl _ _).drew
    have F2' : Fr (fun b => b = f.rb) w1.drew (w1.drew.setCell ⟨f.rb, 0, none⟩ (.int .i64 eNum)) := Fr.setg _ f.rb 0 _
    have hM2 := hav.reblk F2' (hav.blk.set 0 (.int .i64 eNum)) hav.gr hav.gl hav.gc_ hav.ok hav.gq
    obtain ⟨w2, hw2⟩ : ∃ y, w1.drew.setCell ⟨f.rb, 0, none⟩ (.int .i64 eNum) = y := ⟨_, rfl⟩
    have F2 : Fr (fun b => b = f.rb) w1 w2 := by rw [← hw2]; exact ((Fr.refl _ w1).drew).trans (Fr.setg _ f.rb 0 _)
    rw [hw2] at hM2
    have hE2 := hE1.fr F2 (by omega)
    have hZ2 := hZ1.fr F2 (by omega)
    have s2 := F2.size
    have HM2 := hide hM2
    have Hw2 := hide hw2
    have hw2' : (w1.setCell ⟨f.rb, 0, none⟩ (.int .i64 eNum)).drew = w2 := hw2
    have Hw2' := hide hw2'
    have xm := hM2.blk.cell (j := 2) rfl
    have y3 := hE2.cell (j := 3) rfl
    have y4 := hE2.cell (j := 4) rfl
    have KC := hide (show ∀ X, Below w2.heap.size w2 X → (X.cell? ⟨f.rb, 2, none⟩ = some (.pointer (some ⟨f.rt, 0, none⟩)) ∧ X.cell? ⟨g, 3, none⟩ = some (.int .i64 eClient) ∧ X.cell? ⟨g, 4, none⟩ = some (.int .i64 eSerial)) from fun X hX => ⟨(hM2.blk.below hX).cell (j := 2) rfl, (hE2.below hX).cell (j := 3) rfl, (hE2.below hX).cell (j := 4) rfl⟩)
    have PT' := fun X (hX : Below w2.heap.size w2 X) => rask_anyQ (hM2.below hX).tab (hM2.below hX).rq htb eClient eSerial
    rw [← hln] at PT'
    have PT2 := hide PT'
    have S0 := KC.out w2.drew (Below.refl _ _).drew
    clear hw2 hw2' hM2 PT' F2' hav
    go_wp2_with fail
    first | rw [Hw2.out] | rw [Hw2'.out]
    clear y1 x0 xf0
    generalize hV : askV (tmOf a.rows) a.rows.length eClient eSerial = V at PT2
    have HV := hide hV
    clear hV
    obtain ⟨V1, V2, V3, V4⟩ := V
    simp only at PT2
    have s5 : Below w2.heap.size w2 (w2.alloc (.cells #[.int .u8 0, .slice none 0 0] 40)) := (Below.refl _ _).alloc (Nat.le_refl _) _
    have hb8 : Below w2.heap.size w2 (w2.alloc (.cells #[.int .u8 0, .slice none 0 0] 40)).drew := s5.drew
    have B8 : Blk (w2.alloc (.cells #[.int .u8 0, .slice none 0 0] 40)).drew w2.heap.size [.int .u8 0, .slice none 0 0] 40 := Blk.new w2 [.int .u8 0, .slice none 0 0] _
    have S5 := KC.out _ hb8
    have l1' : f.rb < w2.heap.size := by omega
    have l2' : g < w2.heap.size := by omega
    have KS := hide (show ∀ (X : World) (v0 v1 : Value), (X.cell? ⟨f.rb, 2, none⟩ = some (.pointer (some ⟨f.rt, 0, none⟩)) ∧ X.cell? ⟨g, 3, none⟩ = some (.int .i64 eClient) ∧ X.cell? ⟨g, 4, none⟩ = some (.int .i64 eSerial)) → (((X.setCell ⟨w2.heap.size, 0, none⟩ v0).setCell ⟨w2.heap.size, 1, none⟩ v1).cell? ⟨f.rb, 2, none⟩ = some (.pointer (some ⟨f.rt, 0, none⟩)) ∧ ((X.setCell ⟨w2.heap.size, 0, none⟩ v0).setCell ⟨w2.heap.size, 1, none⟩ v1).cell? ⟨g, 3, none⟩ = some (.int .i64 eClient) ∧ ((X.setCell ⟨w2.heap.size, 0, none⟩ v0).setCell ⟨w2.heap.size, 1, none⟩ v1).cell? ⟨g, 4, none⟩ = some (.int .i64 eSerial)) from fun X v0 v1 hS => ⟨cell_far2 _ _ hS.1 (by show f.rb ≠ w2.heap.size; omega), cell_far2 _ _ hS.2.1 (by show g ≠ w2.heap.size; omega), cell_far2 _ _ hS.2.2 (by show g ≠ w2.heap.size; omega)⟩)
    have S5o := fun (X : World) (hX : Below w2.heap.size w2 X) (o : Obj) => KC.out (X.alloc o) (hX.alloc hX.size o)
    have HS5 := hide S5o
    clear S5o
    go_region_held_law (fun X => X.cell? ⟨f.rb, 2, none⟩ = some (.pointer (some ⟨f.rt, 0, none⟩)) ∧ X.cell? ⟨g, 3, none⟩ = some (.int .i64 eClient) ∧ X.cell? ⟨g, 4, none⟩ = some (.int .i64 eSerial)) (first | with_reducible assumption | exact S5 | exact HS5.out _ (by with_reducible assumption) _ | exact KS.out _ _ _ (by with_reducible assumption)) (first
      | (go_at_call 13; refine (PT2.out w2.drew (Below.refl _ _).drew).mono ?_; rintro xx w3 ⟨A1, d1, dc1, rfl, hask⟩; have hb3 : Below w2.heap.size w2 w3 := ⟨hask.2.2.2.2.2.1.os, hask.2.2.2.2.2.1.tape, hask.2.2.2.2.2.1.output, hask.2.2.2.2.2.1.size, hask.2.2.2.2.2.1.block⟩; have Hask := hide hask; clear hask; have tkA : True := trivial; have S3 := KC.out _ hb3)
      | (go_at_call 13; refine (PT2.out _ hb8).mono ?_; rintro xx w3 ⟨A1, d1, dc1, rfl, hask⟩; have hb3 : Below w2.heap.size w2 w3 := hb8.trans (hask.2.2.2.2.2.1.mono hb8.size); have hB83 := B8.below hask.2.2.2.2.2.1; have Hask := hide hask; clear hask; have tkB : True := trivial; have S3 := KC.out _ hb3; have r0 := hB83.cell (j := 0) rfl; have r1 := hB83.cell (j := 1) rfl; have q0 := hB83.frozen 0; have q1 := hB83.frozen 1))
    all_goals
      obtain ⟨a1, a2, a3, a4, a5, a6, a7⟩ := Hask.out
      (try simp only at a1 a2 a3 a4 a5 a7)
      have hs8 := hb8.size
      have s3 := hb3.size
      have e8 : (w2.alloc (.cells #[.int .u8 0, .slice none 0 0] 40)).drew.heap.size = w2.heap.size + 1 := World.size_alloc _ _
      have a7' : bys V4 ≠ [] → ∀ a', A1 = some a' → a'.block < w.heap.size := fun hne a' ha => by
        have := (a7 (fun e0 => hne (by rw [e0]; rfl)) a' ha).1
        exact Nat.lt_of_not_le (fun hh => this (.inr hh))
      first
      | (clear tkA
         have hbA : Below w3.heap.size w3 (w3.alloc (.cells #[.int .u8 V3, .slice A1 d1 dc1] 40)) := (Below.refl _ _).alloc (Nat.le_refl _) _
         have hB8 := Blk.new w3 [.int .u8 V3, .slice A1 d1 dc1] 40
         have hA4 := a5.below hbA
         have hb4 := hb3.trans (hbA.mono s3)
         obtain ⟨w4, hw4⟩ : ∃ y, w3.alloc (.cells #[.int .u8 V3, .slice A1 d1 dc1] 40) = y := ⟨_, rfl⟩
         rw [hw4] at hB8 hA4 hb4 ⊢
         obtain ⟨g8, hg8⟩ : ∃ y, w3.heap.size = y := ⟨_, rfl⟩
         rw [hg8] at hB8 ⊢
         have h8lo : w2.heap.size ≤ g8 := by omega
         clear hg8 hw4 hbA)
      | (clear tkB
         have F8 : Fr (fun b => b = w2.heap.size) w3 ((w3.setCell ⟨w2.heap.size, 0, none⟩ (.int .u8 V3)).setCell ⟨w2.heap.size, 1, none⟩ (.slice A1 d1 dc1)) := (Fr.setg _ w2.heap.size 0 _).trans (Fr.setg _ w2.heap.size 1 _)
         have hB8 := (hB83.set 0 (.int .u8 V3)).set 1 (.slice A1 d1 dc1)
         have hA4 := a5.fr F8 (fun hne a' ha => by have := a7' hne a' ha; omega)
         have hb4 : Below w2.heap.size w2 ((w3.setCell ⟨w2.heap.size, 0, none⟩ (.int .u8 V3)).setCell ⟨w2.heap.size, 1, none⟩ (.slice A1 d1 dc1)) := F8.below hb3 (by omega) (fun k hk => by omega)
         obtain ⟨w4, hw4⟩ : ∃ y, ((w3.setCell ⟨w2.heap.size, 0, none⟩ (.int .u8 V3)).setCell ⟨w2.heap.size, 1, none⟩ (.slice A1 d1 dc1)) = y := ⟨_, rfl⟩
         rw [hw4] at hB8 hA4 hb4 ⊢
         clear r0 r1 q0 q1 F8 hw4
         obtain ⟨g8, hg8⟩ : ∃ y, w2.heap.size = y := ⟨_, rfl⟩
         have hB8' : Blk w4 g8 [.int .u8 V3, .slice A1 d1 dc1] 40 := by rw [← hg8]; exact hB8
         clear hB8
         have hB8 := hB8'
         clear hB8'
         rw [hg8]
         have h8lo : w2.heap.size ≤ g8 := by omega
         clear hg8)
      have hM4 := HM2.out.below hb4
      have hE4 := hE2.below hb4
      have hZ4 := hZ2.below hb4
      have s4 := hb4.size
      have F4 : Fr f.W w w4 := (((Fr.of_below (X := f.W) (hb0.trans (hb1.mono hb0.size))).trans' F2 (fun b hb => .inl (.inl hb))).trans (Fr.of_below hb4))
      have r0 := hB8.cell (j := 0) rfl
      have r1 := hB8.cell (j := 1) rfl
      have HV' := HV.out
      simp only [HV'] at hv
      have qv : (V1 != 1) = true := by simpa using hv
      have HA := hide (show a.apply (eKind, eNum, eView, eClient, eSerial, (eOpKind, eOpAt, eOpN, eOpData, eOpOld), (eGroupEpoch, eGroupMembers)) = ({ a with num := eNum }, 0, V3, V4) by unfold MA.apply; rw [if_pos HX.out, if_pos HN.out]; simp only [HV', if_neg hv])
      clear HV' hv
      have z0 := hZ4.cell (j := 0) rfl
      have z1 := hZ4.cell (j := 1) rfl
      have q0 := hZ4.frozen 0
      have q1 := hZ4.frozen 1
      have hZ8 := (hZ4.set 0 (.int .u8 V3)).set 1 (.slice A1 d1 dc1)
      have Fz : Fr (fun b => b = g + 1) w4 ((w4.setCell ⟨g + 1, 0, none⟩ (.int .u8 V3)).setCell ⟨g + 1, 1, none⟩ (.slice A1 d1 dc1)) := (Fr.setg _ (g + 1) 0 _).trans (Fr.setg _ (g + 1) 1 _)
      have F8 := F4.trans' Fz (fun b hb => .inr (by omega))
      have hM8 := (hM4.fr Fz (fun b hb _ => .inr (by omega))).free (Y' := Y) (fun b hb => .inl hb)
      have hD8 := hA4.fr Fz (fun hne a' ha => by have := a7' hne a' ha; omega)
      have HM8 := hide hM8
      have HF8 := hide F8
      have HD8 := hide hD8
      have HZ8 := hide hZ8
      have Ha := hide (And.intro a1 (And.intro a2 a3))
      clear hM8 F8 hD8 hZ8 hM4 Fz a1 a2 a3
      go_wp2
      refine bodyPost_ret (results_cell2 rfl rfl HZ8.out Tryz.underlying40 rfl (by kernel_rfl)) rfl ?_
      obtain ⟨a1, a2, a3⟩ := Ha.out
      rw [HA.out]
      exact ⟨A1, dc1, by rw [← a1]; rfl, by rw [a1]; exact a2, a3, HD8.out, ⟨NN, cb, cv, n, c, rows, sv, cs, A, G, gn, gc, HM8.out⟩, HF8.out⟩
set_option maxRecDepth 20000 in
set_option maxHeartbeats 12800000 in
theorem rapply7_no {Q : Nat → Prop} {e : EntryD} {cs9 : List Value} (h : RMIs w lo Y f a NN cb cv n c rows sv cs A G gn gc) (hok : a.Ok) (he : tyEntry.Is w Q e cs9) (hY : ∀ b, Y b → b < w.heap.size) (hQ : ∀ b, Q b → ¬ Y b ∧ b < lo ∧ ¬ f.W b) (hx : entryB e = true) (hn : e.2.1 = a.num + 1) (hv : (askV (tmOf a.rows) a.rows.length e.2.2.2.1 e.2.2.2.2.1).1 = 1) (hk : e.1 = 2) (hep : e.2.2.2.2.2.2.1 ≠ a.ep + 1) (hgo : grpOk e.2.2.2.2.2.2.1 e.2.2.2.2.2.2.2 = true) : Calls Tryz.prog 11 #[.pointer (some ⟨f.rb, 0, none⟩), .agg cs9.toArray] w (RApplyM lo Y f (a.apply e) w) := by
  have he' := he
  obtain ⟨eKind, eNum, eView, eClient, eSerial, eOpKind, eOpAt, eOpN, eOpData, eOpDataA, eOpDatan, eOpDatac, eOpOld, eOpOldA, eOpOldn, eOpOldc, eGroupEpoch, eGroupMembers, eGroupMembersA, eGroupMembersn, eGroupMembersc, eGroupMembersv, rfl, rfl, hu_eKind, h1_eNum, h2_eNum, h1_eView, h2_eView, h1_eClient, h2_eClient, h1_eSerial, h2_eSerial, hu_eOpKind, h1_eOpAt, h2_eOpAt, h1_eOpN, h2_eOpN, hl_eOpData, hc_eOpData, hm_eOpData, hr_eOpData, hq_eOpData, hl_eOpOld, hc_eOpOld, hm_eOpOld, hr_eOpOld, hq_eOpOld, h1_eGroupEpoch, h2_eGroupEpoch, hl_eGroupMembers, hc_eGroupMembers, hm_eGroupMembers, hr_eGroupMembers, hq_eGroupMembers, he_eGroupMembers⟩ := Entry_out he'
  obtain ⟨g, hg⟩ : ∃ g, w.heap.size = g := ⟨_, rfl⟩
  obtain ⟨w0, hw0⟩ : ∃ x, (w.alloc (.cells #[.int .u8 eKind, .int .i64 eNum, .int .i64 eView, .int .i64 eClient, .int .i64 eSerial, .int .u8 eOpKind, .int .i64 eOpAt, .int .i64 eOpN, .slice eOpDataA eOpDatan eOpDatac, .slice eOpOldA eOpOldn eOpOldc, .int .i64 eGroupEpoch, .slice eGroupMembersA eGroupMembersn eGroupMembersc] 49)).alloc (.cells #[.int .u8 0, .slice none 0 0] 40) = x := ⟨_, rfl⟩
  have hE : Blk w0 g [.int .u8 eKind, .int .i64 eNum, .int .i64 eView, .int .i64 eClient, .int .i64 eSerial, .int .u8 eOpKind, .int .i64 eOpAt, .int .i64 eOpN, .slice eOpDataA eOpDatan eOpDatac, .slice eOpOldA eOpOldn eOpOldc, .int .i64 eGroupEpoch, .slice eGroupMembersA eGroupMembersn eGroupMembersc] 49 := by rw [← hw0, ← hg]; exact (Blk.new w [.int .u8 eKind, .int .i64 eNum, .int .i64 eView, .int .i64 eClient, .int .i64 eSerial, .int .u8 eOpKind, .int .i64 eOpAt, .int .i64 eOpN, .slice eOpDataA eOpDatan eOpDatac, .slice eOpOldA eOpOldn eOpOldc, .int .i64 eGroupEpoch, .slice eGroupMembersA eGroupMembersn eGroupMembersc] _).alloc _
  have hZ : Blk w0 (g + 1) [.int .u8 0, .slice none 0 0] 40 := by
    rw [← hw0, ← hg]
    have := Blk.new (w.alloc (.cells #[.int .u8 eKind, .int .i64 eNum, .int .i64 eView, .int .i64 eClient, .int .i64 eSerial, .int .u8 eOpKind, .int .i64 eOpAt, .int .i64 eOpN, .slice eOpDataA eOpDatan eOpDatac, .slice eOpOldA eOpOldn eOpOldc, .int .i64 eGroupEpoch, .slice eGroupMembersA eGroupMembersn eGroupMembersc] 49)) [.int .u8 0, .slice none 0 0] 40
    rwa [World.size_alloc] at this
  have hb0 : Below w.heap.size w w0 := by rw [← hw0]; exact ((Below.refl _ _).alloc (Nat.le_refl _) _).alloc (by simp) _
  have Hw0 := hide hw0
  clear hw0
  have h0 := h.below hb0
  have zl := hZ.lt
  have hlt := h.lts
  have l1 := hlt f.rb (.inl rfl)
  have s0 := hb0.size
  have y0 := Blk.cell hE (j := 0) rfl; have y1 := Blk.cell hE (j := 1) rfl; have y2 := Blk.cell hE (j := 2) rfl; have y3 := Blk.cell hE (j := 3) rfl; have y4 := Blk.cell hE (j := 4) rfl; have y5 := Blk.cell hE (j := 5) rfl; have y6 := Blk.cell hE (j := 6) rfl; have y7 := Blk.cell hE (j := 7) rfl; have y8 := Blk.cell hE (j := 8) rfl; have y9 := Blk.cell hE (j := 9) rfl; have y10 := Blk.cell hE (j := 10) rfl; have y11 := Blk.cell hE (j := 11) rfl
  have HX := hide hx
  have hser := serB_out (entryB_kind hx).2
  have hnum := numB_out hok.num
  simp only at hn hser
  have HN := hide hn
  have q : (eNum - 1 != a.num) = false := by simp; omega
  have hok1 : rowsB a.rows = true := hok.rows
  have hln := h.tab.len
  have htb := hok.tb
  have HK := hide hk
  have HEP := hide hep
  clear hx hn hk hep
  go_enter Tryz.func11, Tryz.ntmps11
  go_wp2_with fail
  rw [Hw0.out]
  go_fit (rentry_any (he.below hb0))
  rw [enE_ok HX.out]
  rintro xx w1 ⟨rfl, hb1⟩
  have h1 := h0.below hb1
  have hE1 := hE.below hb1
  have hZ1 := hZ.below hb1
  clear y0 y1 y2 y3 y4 y5 y6 y7 y8 y9 y10 y11
  have y1 := hE1.cell (j := 1) rfl
  have x0 := h1.blk.cell (j := 0) rfl
  have s1 := hb1.size
  go_wp2_with fail
  go_region
  all_goals
    have xf0 := h1.blk.frozen 0
    have hav := (((h.avoid (Z := fun b => w.heap.size ≤ b) (fun b hb => hb)).below hb0).below hb1).below (Below.refl _ _).drew
    have F2' : Fr (fun b => b = f.rb) w1.drew (w1.drew.setCell ⟨f.rb, 0, none⟩ (.int .i64 eNum)) := Fr.setg _ f.rb 0 _
    have hM2 := hav.reblk F2' (hav.blk.set 0 (.int .i64 eNum)) hav.gr hav.gl hav.gc_ hav.ok hav.gq
    obtain ⟨w2, hw2⟩ : ∃ y, w1.drew.setCell ⟨f.rb, 0, none⟩ (.int .i64 eNum) = y := ⟨_, rfl⟩
    have F2 : Fr (fun b => b = f.rb) w1 w2 := by rw [← hw2]; exact ((Fr.refl _ w1).drew).trans (Fr.setg _ f.rb 0 _)
    rw [hw2] at hM2
    have hE2 := hE1.fr F2 (by omega)
    have hZ2 := hZ1.fr F2 (by omega)
    have s2 := F2.size
    have HM2 := hide hM2
    have Hw2 := hide hw2
    have hw2' : (w1.setCell ⟨f.rb, 0, none⟩ (.int .i64 eNum)).drew = w2 := hw2
    have Hw2' := hide hw2'
    have xm := hM2.blk.cell (j := 2) rfl
    have y3 := hE2.cell (j := 3) rfl
    have y4 := hE2.cell (j := 4) rfl
    have KC := hide (show ∀ X, Below w2.heap.size w2 X → (X.cell? ⟨f.rb, 2, none⟩ = some (.pointer (some ⟨f.rt, 0, none⟩)) ∧ X.cell? ⟨g, 3, none⟩ = some (.int .i64 eClient) ∧ X.cell? ⟨g, 4, none⟩ = some (.int .i64 eSerial)) from fun X hX => ⟨(hM2.blk.below hX).cell (j := 2) rfl, (hE2.below hX).cell (j := 3) rfl, (hE2.below hX).cell (j := 4) rfl⟩)
    have PT' := fun X (hX : Below w2.heap.size w2 X) => rask_anyQ (hM2.below hX).tab (hM2.below hX).rq htb eClient eSerial
    rw [← hln] at PT'
    have PT2 := hide PT'
    have S0 := KC.out w2.drew (Below.refl _ _).drew
    clear hw2 hw2' hM2 PT' F2' hav
    go_wp2_with fail
    first | rw [Hw2.out] | rw [Hw2'.out]
    clear y1 x0 xf0
    generalize hV : askV (tmOf a.rows) a.rows.length eClient eSerial = V at PT2
    have HV := hide hV
    clear hV
    obtain ⟨V1, V2, V3, V4⟩ := V
    simp only at PT2
    have s5 : Below w2.heap.size w2 (w2.alloc (.cells #[.int .u8 0, .slice none 0 0] 40)) := (Below.refl _ _).alloc (Nat.le_refl _) _
    have hb8 : Below w2.heap.size w2 (w2.alloc (.cells #[.int .u8 0, .slice none 0 0] 40)).drew := s5.drew
    have B8 : Blk (w2.alloc (.cells #[.int .u8 0, .slice none 0 0] 40)).drew w2.heap.size [.int .u8 0, .slice none 0 0] 40 := Blk.new w2 [.int .u8 0, .slice none 0 0] _
    have S5 := KC.out _ hb8
    have l1' : f.rb < w2.heap.size := by omega
    have l2' : g < w2.heap.size := by omega
    have KS := hide (show ∀ (X : World) (v0 v1 : Value), (X.cell? ⟨f.rb, 2, none⟩ = some (.pointer (some ⟨f.rt, 0, none⟩)) ∧ X.cell? ⟨g, 3, none⟩ = some (.int .i64 eClient) ∧ X.cell? ⟨g, 4, none⟩ = some (.int .i64 eSerial)) → (((X.setCell ⟨w2.heap.size, 0, none⟩ v0).setCell ⟨w2.heap.size, 1, none⟩ v1).cell? ⟨f.rb, 2, none⟩ = some (.pointer (some ⟨f.rt, 0, none⟩)) ∧ ((X.setCell ⟨w2.heap.size, 0, none⟩ v0).setCell ⟨w2.heap.size, 1, none⟩ v1).cell? ⟨g, 3, none⟩ = some (.int .i64 eClient) ∧ ((X.setCell ⟨w2.heap.size, 0, none⟩ v0).setCell ⟨w2.heap.size, 1, none⟩ v1).cell? ⟨g, 4, none⟩ = some (.int .i64 eSerial)) from fun X v0 v1 hS => ⟨cell_far2 _ _ hS.1 (by show f.rb ≠ w2.heap.size; omega), cell_far2 _ _ hS.2.1 (by show g ≠ w2.heap.size; omega), cell_far2 _ _ hS.2.2 (by show g ≠ w2.heap.size; omega)⟩)
    have S5o := fun (X : World) (hX : Below w2.heap.size w2 X) (o : Obj) => KC.out (X.alloc o) (hX.alloc hX.size o)
    have HS5 := hide S5o
    clear S5o
    go_region_held_law (fun X => X.cell? ⟨f.rb, 2, none⟩ = some (.pointer (some ⟨f.rt, 0, none⟩)) ∧ X.cell? ⟨g, 3, none⟩ = some (.int .i64 eClient) ∧ X.cell? ⟨g, 4, none⟩ = some (.int .i64 eSerial)) (first | with_reducible assumption | exact S5 | exact HS5.out _ (by with_reducible assumption) _ | exact KS.out _ _ _ (by with_reducible assumption)) (first
      | (go_at_call 13; refine (PT2.out w2.drew (Below.refl _ _).drew).mono ?_; rintro xx w3 ⟨A1, d1, dc1, rfl, hask⟩; have hb3 : Below w2.heap.size w2 w3 := ⟨hask.2.2.2.2.2.1.os, hask.2.2.2.2.2.1.tape, hask.2.2.2.2.2.1.output, hask.2.2.2.2.2.1.size, hask.2.2.2.2.2.1.block⟩; have Hask := hide hask; clear hask; have tkA : True := trivial; have S3 := KC.out _ hb3)
      | (go_at_call 13; refine (PT2.out _ hb8).mono ?_; rintro xx w3 ⟨A1, d1, dc1, rfl, hask⟩; have hb3 : Below w2.heap.size w2 w3 := hb8.trans (hask.2.2.2.2.2.1.mono hb8.size); have hB83 := B8.below hask.2.2.2.2.2.1; have Hask := hide hask; clear hask; have tkB : True := trivial; have S3 := KC.out _ hb3; have r0 := hB83.cell (j := 0) rfl; have r1 := hB83.cell (j := 1) rfl; have q0 := hB83.frozen 0; have q1 := hB83.frozen 1))
    all_goals
      obtain ⟨a1, a2, a3, a4, a5, a6, a7⟩ := Hask.out
      (try simp only at a1 a2 a3 a4 a5 a7)
      have hs8 := hb8.size
      have s3 := hb3.size
      have e8 : (w2.alloc (.cells #[.int .u8 0, .slice none 0 0] 40)).drew.heap.size = w2.heap.size + 1 := World.size_alloc _ _
      have a7' : bys V4 ≠ [] → ∀ a', A1 = some a' → a'.block < w.heap.size := fun hne a' ha => by
        have := (a7 (fun e0 => hne (by rw [e0]; rfl)) a' ha).1
        exact Nat.lt_of_not_le (fun hh => this (.inr hh))
      first
      | (clear tkA
         have hbA : Below w3.heap.size w3 (w3.alloc (.cells #[.int .u8 V3, .slice A1 d1 dc1] 40)) := (Below.refl _ _).alloc (Nat.le_refl _) _
         have hB8 := Blk.new w3 [.int .u8 V3, .slice A1 d1 dc1] 40
         have hA4 := a5.below hbA
         have hb4 := hb3.trans (hbA.mono s3)
         obtain ⟨w4, hw4⟩ : ∃ y, w3.alloc (.cells #[.int .u8 V3, .slice A1 d1 dc1] 40) = y := ⟨_, rfl⟩
         rw [hw4] at hB8 hA4 hb4 ⊢
         obtain ⟨g8, hg8⟩ : ∃ y, w3.heap.size = y := ⟨_, rfl⟩
         rw [hg8] at hB8 ⊢
         have h8lo : w2.heap.size ≤ g8 := by omega
         clear hg8 hw4 hbA)
      | (clear tkB
         have F8 : Fr (fun b => b = w2.heap.size) w3 ((w3.setCell ⟨w2.heap.size, 0, none⟩ (.int .u8 V3)).setCell ⟨w2.heap.size, 1, none⟩ (.slice A1 d1 dc1)) := (Fr.setg _ w2.heap.size 0 _).trans (Fr.setg _ w2.heap.size 1 _)
         have hB8 := (hB83.set 0 (.int .u8 V3)).set 1 (.slice A1 d1 dc1)
         have hA4 := a5.fr F8 (fun hne a' ha => by have := a7' hne a' ha; omega)
         have hb4 : Below w2.heap.size w2 ((w3.setCell ⟨w2.heap.size, 0, none⟩ (.int .u8 V3)).setCell ⟨w2.heap.size, 1, none⟩ (.slice A1 d1 dc1)) := F8.below hb3 (by omega) (fun k hk => by omega)
         obtain ⟨w4, hw4⟩ : ∃ y, ((w3.setCell ⟨w2.heap.size, 0, none⟩ (.int .u8 V3)).setCell ⟨w2.heap.size, 1, none⟩ (.slice A1 d1 dc1)) = y := ⟨_, rfl⟩
         rw [hw4] at hB8 hA4 hb4 ⊢
         clear r0 r1 q0 q1 F8 hw4
         obtain ⟨g8, hg8⟩ : ∃ y, w2.heap.size = y := ⟨_, rfl⟩
         have hB8' : Blk w4 g8 [.int .u8 V3, .slice A1 d1 dc1] 40 := by rw [← hg8]; exact hB8
         clear hB8
         have hB8 := hB8'
         clear hB8'
         rw [hg8]
         have h8lo : w2.heap.size ≤ g8 := by omega
         clear hg8)
      have hM4 := HM2.out.below hb4
      have hE4 := hE2.below hb4
      have hZ4 := hZ2.below hb4
      have s4 := hb4.size
      have F4 : Fr f.W w w4 := (((Fr.of_below (X := f.W) (hb0.trans (hb1.mono hb0.size))).trans' F2 (fun b hb => .inl (.inl hb))).trans (Fr.of_below hb4))
      have r0 := hB8.cell (j := 0) rfl
      have r1 := hB8.cell (j := 1) rfl
      have HV' := HV.out
      simp only [HV'] at hv
      subst hv
      have hkd := (entryB_kind HX.out).1
      have hHA : a.apply (eKind, eNum, eView, eClient, eSerial, (eOpKind, eOpAt, eOpN, eOpData, eOpOld), (eGroupEpoch, eGroupMembers)) = ({ (({ a with num := eNum } : MA).done (eKind, eNum, eView, eClient, eSerial, (eOpKind, eOpAt, eOpN, eOpData, eOpOld), (eGroupEpoch, eGroupMembers))).1 with rows := putR a.rows eClient eSerial (({ a with num := eNum } : MA).done (eKind, eNum, eView, eClient, eSerial, (eOpKind, eOpAt, eOpN, eOpData, eOpOld), (eGroupEpoch, eGroupMembers))).2.1 (({ a with num := eNum } : MA).done (eKind, eNum, eView, eClient, eSerial, (eOpKind, eOpAt, eOpN, eOpData, eOpOld), (eGroupEpoch, eGroupMembers))).2.2 }, 0, (({ a with num := eNum } : MA).done (eKind, eNum, eView, eClient, eSerial, (eOpKind, eOpAt, eOpN, eOpData, eOpOld), (eGroupEpoch, eGroupMembers))).2.1, (({ a with num := eNum } : MA).done (eKind, eNum, eView, eClient, eSerial, (eOpKind, eOpAt, eOpN, eOpData, eOpOld), (eGroupEpoch, eGroupMembers))).2.2) := by
        unfold MA.apply
        rw [if_pos HX.out, if_pos HN.out]
        simp only [HV', if_true]
      have he4 := he.fr F4 (fun b hb => (hQ b hb).2.2)
      have hM4 := hM4.free (Y' := fun b => Y b ∨ b = g + 1 ∨ b = g8) (fun b hb => by rcases hb with hb | hb | hb; exact .inl hb; exact .inr (by omega); exact .inr (by omega))
      clear HV'
      have y0 := Blk.cell hE4 (j := 0) rfl; have y1 := Blk.cell hE4 (j := 1) rfl; have y2 := Blk.cell hE4 (j := 2) rfl; have y3 := Blk.cell hE4 (j := 3) rfl; have y4 := Blk.cell hE4 (j := 4) rfl; have y5 := Blk.cell hE4 (j := 5) rfl; have y6 := Blk.cell hE4 (j := 6) rfl; have y7 := Blk.cell hE4 (j := 7) rfl; have y8 := Blk.cell hE4 (j := 8) rfl; have y9 := Blk.cell hE4 (j := 9) rfl; have y10 := Blk.cell hE4 (j := 10) rfl; have y11 := Blk.cell hE4 (j := 11) rfl
      have hk := HK.out
      have hep := HEP.out
      (try simp only at hk hep hgo)
      subst hk
      have hdn : ({ a with num := eNum } : MA).done (2, eNum, eView, eClient, eSerial, (eOpKind, eOpAt, eOpN, eOpData, eOpOld), eGroupEpoch, eGroupMembers) = ({ a with num := eNum }, 2, []) := by
        unfold MA.done
        rw [if_neg (show ¬ (2 : Nat) = 1 by decide), if_neg (fun hh => hep hh.2)]
      rw [hdn] at hHA
      have HA := hide hHA
      have hK5 : (2 : Nat) < 256 := by decide
      obtain ⟨a5, ha5⟩ : ∃ y, y = ({ a with num := eNum } : MA) := ⟨_, rfl⟩
      have hrw : a5.rows = a.rows := by rw [ha5]
      rw [← ha5] at hM4 HA
      have hep5 : eGroupEpoch ≠ a5.ep + 1 := by rw [ha5]; exact hep
      clear hdn hHA ha5 hep
      go_wp2_with fail
      go_fit (rconf_no hM4 eGroupEpoch eGroupMembersA eGroupMembersn eGroupMembersc hep5)
      rintro xx w5 ⟨rfl, hb5⟩
      have F5 : Fr f.W w4 w5 := Fr.of_below hb5
      have hM5 := hM4.below hb5
      have s5 := F5.size
      have hlt5 := hM5.lts
      have hnW : ∀ b, w.heap.size ≤ b → ¬ f.W b := fun b h1 h2 => by have := hlt b h2; omega
      have hE5 := hE4.fr F5 (hnW g (by omega))
      have hZ5 := hZ4.fr F5 (hnW (g + 1) (by omega))
      have hB85 := hB8.fr F5 (hnW g8 (by omega))
      clear r0 r1 y0 y1 y2 y3 y4 y5 y6 y7 y8 y9 y10 y11
      have r0 := hB85.cell (j := 0) rfl
      have r1 := hB85.cell (j := 1) rfl
      have q0 := hB85.frozen 0
      have q1 := hB85.frozen 1
      obtain ⟨w6, hw6⟩ : ∃ y, ((w5.setCell ⟨g8, 0, none⟩ (.int .u8 2)).setCell ⟨g8, 1, none⟩ (.slice none 0 0)) = y := ⟨_, rfl⟩
      have F6 : Fr (fun b => b = g8) w5 w6 := by rw [← hw6]; exact (Fr.setg _ g8 0 _).trans (Fr.setg _ g8 1 _)
      have hB86 : Blk w6 g8 [.int .u8 2, .slice none 0 0] 40 := by rw [← hw6]; exact (hB85.set 0 (.int .u8 2)).set 1 (.slice none 0 0)
      have hM6 := hM5.fr F6 (fun b hb _ => .inr (.inr hb))
      have hE6 := hE5.fr F6 (by omega)
      have hZ6 := hZ5.fr F6 (by omega)
      have hD6 : Rd w6 none (bys []) := Rd.nil
      have s6 := F6.size
      have Hw6 := hide hw6
      have hP := rput_any7 (hM6.below (Below.refl _ _).drew).tab (show rowsB a5.rows = true by rw [hrw]; exact hok1) (hM6.below (Below.refl _ _).drew).rq (hM6.below (Below.refl _ _).drew).aq (fun b hb => by have e0 : w6.drew.heap.size = w6.heap.size := rfl; exact ⟨fun hy => by rcases hy with hy | hy | hy; have := hY b hy; omega; omega; (have := hB8.lt; omega), fun hW => by have := hlt5 b hW; omega⟩) eClient eSerial 2 none 0 0 [] hK5 rfl (Nat.le_refl _) (by decide) hD6.drew (fun hne a' ha => (absurd rfl hne))
      rw [hrw] at hP
      have HP := hide hP
      have KC6 := hide (show ∀ X, Fr (fun b => b = f.rt) w6 X → (X.cell? ⟨f.rb, 2, none⟩ = some (.pointer (some ⟨f.rt, 0, none⟩)) ∧ X.cell? ⟨g, 3, none⟩ = some (.int .i64 eClient) ∧ X.cell? ⟨g, 4, none⟩ = some (.int .i64 eSerial) ∧ X.cell? ⟨g8, 0, none⟩ = some (.int .u8 2) ∧ X.cell? ⟨g8, 1, none⟩ = some (.slice none 0 0)) from fun X hX => ⟨(hM6.blk.fr hX hM6.ne.2.2.2.1).cell (j := 2) rfl, (hE6.fr hX (fun e => hnW g (by omega) (.inr (.inr (.inr (.inr e)))))).cell (j := 3) rfl, (hE6.fr hX (fun e => hnW g (by omega) (.inr (.inr (.inr (.inr e)))))).cell (j := 4) rfl, (hB86.fr hX (fun e => hnW g8 (by omega) (.inr (.inr (.inr (.inr e)))))).cell (j := 0) rfl, (hB86.fr hX (fun e => hnW g8 (by omega) (.inr (.inr (.inr (.inr e)))))).cell (j := 1) rfl⟩)
      have S60 := KC6.out w6.drew (Fr.refl _ _).drew
      clear hw6 hP S3
      go_wp2_with fail
      rw [Hw6.out]
      clear r0 r1 q0 q1
      go_region_held_law (fun X => X.cell? ⟨f.rb, 2, none⟩ = some (.pointer (some ⟨f.rt, 0, none⟩)) ∧ X.cell? ⟨g, 3, none⟩ = some (.int .i64 eClient) ∧ X.cell? ⟨g, 4, none⟩ = some (.int .i64 eSerial) ∧ X.cell? ⟨g8, 0, none⟩ = some (.int .u8 2) ∧ X.cell? ⟨g8, 1, none⟩ = some (.slice none 0 0)) (first | with_reducible assumption) (first
        | (go_at_call 48; refine HP.out.mono ?_; rintro xx w7 ⟨⟨E7, rfl⟩, hpt⟩; have F7 : Fr (fun b => b = f.rt) w6 w7 := (Fr.refl _ w6).drew.trans (Fr.of_grown hpt.2 (fun k hk => (Option.some.inj hk).symm)); have Hpt := hide hpt; clear hpt; have S7 := KC6.out _ F7))
      all_goals
        obtain ⟨n7, c7, cs7, A7, hM7⟩ := (hM6.below (Below.refl _ _).drew).reput Hpt.out
        have hnB : ∀ b, w.heap.size ≤ b → ¬ b = f.rt := fun b h1 h2 => hnW b h1 (.inr (.inr (.inr (.inr h2))))
        have hZ7 := hZ6.fr F7 (hnB _ (by omega))
        have hD7 := hD6.fr F7 (fun hne a' ha => hnB _ (by exact absurd rfl hne))
        have r0 := (hB86.fr F7 (hnB _ (by omega))).cell (j := 0) rfl
        have r1 := (hB86.fr F7 (hnB _ (by omega))).cell (j := 1) rfl
        have z0 := hZ7.cell (j := 0) rfl
        have z1 := hZ7.cell (j := 1) rfl
        have q0 := hZ7.frozen 0
        have q1 := hZ7.frozen 1
        have s7 := F7.size
        have hZ8 := (hZ7.set 0 (.int .u8 2)).set 1 (.slice none 0 0)
        have Fz : Fr (fun b => b = g + 1) w7 ((w7.setCell ⟨g + 1, 0, none⟩ (.int .u8 2)).setCell ⟨g + 1, 1, none⟩ (.slice none 0 0)) := (Fr.setg _ (g + 1) 0 _).trans (Fr.setg _ (g + 1) 1 _)
        have F8 := (((F4.trans F5).trans' F6 (fun b hb => .inr (by omega))).trans' F7 (fun b hb => .inl (.inr (.inr (.inr (.inr hb)))))).trans' Fz (fun b hb => .inr (by omega))
        have hM8 := (hM7.fr Fz (fun b hb _ => .inr (.inl (by omega)))).free (Y' := Y) (fun b hb => .inl hb)
        have hD8 := hD7.fr Fz (fun hne a' ha => by exact absurd rfl hne)
        have HM8 := hide hM8
        have HF8 := hide F8
        have HD8 := hide hD8
        have HZ8 := hide hZ8
        clear hM8 F8 hD8 hZ8 hM7 Fz S7 S60 hM6 hM5 hZ7 hZ6 hZ5 hD7 hD6 hM4
        go_wp2
        refine bodyPost_ret (results_cell2 rfl rfl HZ8.out Tryz.underlying40 rfl (by kernel_rfl)) rfl ?_
        rw [HA.out]
        exact ⟨none, 0, rfl, (Nat.le_refl _), (by decide), HD8.out, ⟨_, _, _, _, _, _, _, _, _, _, _, _, HM8.out⟩, HF8.out⟩
set_option maxRecDepth 20000 in
set_option maxHeartbeats 12800000 in
theorem rapply7_yes {Q : Nat → Prop} {e : EntryD} {cs9 : List Value} (h : RMIs w lo Y f a NN cb cv n c rows sv cs A G gn gc) (hok : a.Ok) (he : tyEntry.Is w Q e cs9) (hY : ∀ b, Y b → b < w.heap.size) (hQ : ∀ b, Q b → ¬ Y b ∧ b < lo ∧ ¬ f.W b) (hx : entryB e = true) (hn : e.2.1 = a.num + 1) (hv : (askV (tmOf a.rows) a.rows.length e.2.2.2.1 e.2.2.2.2.1).1 = 1) (hk : e.1 = 2) (hep : e.2.2.2.2.2.2.1 = a.ep + 1) (hgo : grpOk e.2.2.2.2.2.2.1 e.2.2.2.2.2.2.2 = true) : Calls Tryz.prog 11 #[.pointer (some ⟨f.rb, 0, none⟩), .agg cs9.toArray] w (RApplyM lo Y f (a.apply e) w) := by
  have he' := he
  obtain ⟨eKind, eNum, eView, eClient, eSerial, eOpKind, eOpAt, eOpN, eOpData, eOpDataA, eOpDatan, eOpDatac, eOpOld, eOpOldA, eOpOldn, eOpOldc, eGroupEpoch, eGroupMembers, eGroupMembersA, eGroupMembersn, eGroupMembersc, eGroupMembersv, rfl, rfl, hu_eKind, h1_eNum, h2_eNum, h1_eView, h2_eView, h1_eClient, h2_eClient, h1_eSerial, h2_eSerial, hu_eOpKind, h1_eOpAt, h2_eOpAt, h1_eOpN, h2_eOpN, hl_eOpData, hc_eOpData, hm_eOpData, hr_eOpData, hq_eOpData, hl_eOpOld, hc_eOpOld, hm_eOpOld, hr_eOpOld, hq_eOpOld, h1_eGroupEpoch, h2_eGroupEpoch, hl_eGroupMembers, hc_eGroupMembers, hm_eGroupMembers, hr_eGroupMembers, hq_eGroupMembers, he_eGroupMembers⟩ := Entry_out he'
  obtain ⟨g, hg⟩ : ∃ g, w.heap.size = g := ⟨_, rfl⟩
  obtain ⟨w0, hw0⟩ : ∃ x, (w.alloc (.cells #[.int .u8 eKind, .int .i64 eNum, .int .i64 eView, .int .i64 eClient, .int .i64 eSerial, .int .u8 eOpKind, .int .i64 eOpAt, .int .i64 eOpN, .slice eOpDataA eOpDatan eOpDatac, .slice eOpOldA eOpOldn eOpOldc, .int .i64 eGroupEpoch, .slice eGroupMembersA eGroupMembersn eGroupMembersc] 49)).alloc (.cells #[.int .u8 0, .slice none 0 0] 40) = x := ⟨_, rfl⟩
  have hE : Blk w0 g [.int .u8 eKind, .int .i64 eNum, .int .i64 eView, .int .i64 eClient, .int .i64 eSerial, .int .u8 eOpKind, .int .i64 eOpAt, .int .i64 eOpN, .slice eOpDataA eOpDatan eOpDatac, .slice eOpOldA eOpOldn eOpOldc, .int .i64 eGroupEpoch, .slice eGroupMembersA eGroupMembersn eGroupMembersc] 49 := by rw [← hw0, ← hg]; exact (Blk.new w [.int .u8 eKind, .int .i64 eNum, .int .i64 eView, .int .i64 eClient, .int .i64 eSerial, .int .u8 eOpKind, .int .i64 eOpAt, .int .i64 eOpN, .slice eOpDataA eOpDatan eOpDatac, .slice eOpOldA eOpOldn eOpOldc, .int .i64 eGroupEpoch, .slice eGroupMembersA eGroupMembersn eGroupMembersc] _).alloc _
  have hZ : Blk w0 (g + 1) [.int .u8 0, .slice none 0 0] 40 := by
    rw [← hw0, ← hg]
    have := Blk.new (w.alloc (.cells #[.int .u8 eKind, .int .i64 eNum, .int .i64 eView, .int .i64 eClient, .int .i64 eSerial, .int .u8 eOpKind, .int .i64 eOpAt, .int .i64 eOpN, .slice eOpDataA eOpDatan eOpDatac, .slice eOpOldA eOpOldn eOpOldc, .int .i64 eGroupEpoch, .slice eGroupMembersA eGroupMembersn eGroupMembersc] 49)) [.int .u8 0, .slice none 0 0] 40
    rwa [World.size_alloc] at this
  have hb0 : Below w.heap.size w w0 := by rw [← hw0]; exact ((Below.refl _ _).alloc (Nat.le_refl _) _).alloc (by simp) _
  have Hw0 := hide hw0
  clear hw0
  have h0 := h.below hb0
  have zl := hZ.lt
  have hlt := h.lts
  have l1 := hlt f.rb (.inl rfl)
  have s0 := hb0.size
  have y0 := Blk.cell hE (j := 0) rfl; have y1 := Blk.cell hE (j := 1) rfl; have y2 := Blk.cell hE (j := 2) rfl; have y3 := Blk.cell hE (j := 3) rfl; have y4 := Blk.cell hE (j := 4) rfl; have y5 := Blk.cell hE (j := 5) rfl; have y6 := Blk.cell hE (j := 6) rfl; have y7 := Blk.cell hE (j := 7) rfl; have y8 := Blk.cell hE (j := 8) rfl; have y9 := Blk.cell hE (j := 9) rfl; have y10 := Blk.cell hE (j := 10) rfl; have y11 := Blk.cell hE (j := 11) rfl
  have HX := hide hx
  have hser := serB_out (entryB_kind hx).2
  have hnum := numB_out hok.num
  simp only at hn hser
  have HN := hide hn
  have q : (eNum - 1 != a.num) = false := by simp; omega
  have hok1 : rowsB a.rows = true := hok.rows
  have hln := h.tab.len
  have htb := hok.tb
  have HK := hide hk
  have HEP := hide hep
  clear hx hn hk hep
  go_enter Tryz.func11, Tryz.ntmps11
  go_wp2_with fail
  rw [Hw0.out]
  go_fit (rentry_any (he.below hb0))
  rw [enE_ok HX.out]
  rintro xx w1 ⟨rfl, hb1⟩
  have h1 := h0.below hb1
  have hE1 := hE.below hb1
  have hZ1 := hZ.below hb1
  clear y0 y1 y2 y3 y4 y5 y6 y7 y8 y9 y10 y11
  have y1 := hE1.cell (j := 1) rfl
  have x0 := h1.blk.cell (j := 0) rfl
  have s1 := hb1.size
  go_wp2_with fail
  go_region
  all_goals
    have xf0 := h1.blk.frozen 0
    have hav := (((h.avoid (Z := fun b => w.heap.size ≤ b) (fun b hb => hb)).below hb0).below hb1).below (Below.refl _ _).drew
    have F2' : Fr (fun b => b = f.rb) w1.drew (w1.drew.setCell ⟨f.rb, 0, none⟩ (.int .i64 eNum)) := Fr.setg _ f.rb 0 _
    have hM2 := hav.reblk F2' (hav.blk.set 0 (.int .i64 eNum)) hav.gr hav.gl hav.gc_ hav.ok hav.gq
    obtain ⟨w2, hw2⟩ : ∃ y, w1.drew.setCell ⟨f.rb, 0, none⟩ (.int .i64 eNum) = y := ⟨_, rfl⟩
    have F2 : Fr (fun b => b = f.rb) w1 w2 := by rw [← hw2]; exact ((Fr.refl _ w1).drew).trans (Fr.setg _ f.rb 0 _)
    rw [hw2] at hM2
    have hE2 := hE1.fr F2 (by omega)
    have hZ2 := hZ1.fr F2 (by omega)
    have s2 := F2.size
    have HM2 := hide hM2
    have Hw2 := hide hw2
    have hw2' : (w1.setCell ⟨f.rb, 0, none⟩ (.int .i64 eNum)).drew = w2 := hw2
    have Hw2' := hide hw2'
    have xm := hM2.blk.cell (j := 2) rfl
    have y3 := hE2.cell (j := 3) rfl
    have y4 := hE2.cell (j := 4) rfl
    have KC := hide (show ∀ X, Below w2.heap.size w2 X → (X.cell? ⟨f.rb, 2, none⟩ = some (.pointer (some ⟨f.rt, 0, none⟩)) ∧ X.cell? ⟨g, 3, none⟩ = some (.int .i64 eClient) ∧ X.cell? ⟨g, 4, none⟩ = some (.int .i64 eSerial)) from fun X hX => ⟨(hM2.blk.below hX).cell (j := 2) rfl, (hE2.below hX).cell (j := 3) rfl, (hE2.below hX).cell (j := 4) rfl⟩)
    have PT' := fun X (hX : Below w2.heap.size w2 X) => rask_anyQ (hM2.below hX).tab (hM2.below hX).rq htb eClient eSerial
    rw [← hln] at PT'
    have PT2 := hide PT'
    have S0 := KC.out w2.drew (Below.refl _ _).drew
    clear hw2 hw2' hM2 PT' F2' hav
    go_wp2_with fail
    first | rw [Hw2.out] | rw [Hw2'.out]
    clear y1 x0 xf0
    generalize hV : askV (tmOf a.rows) a.rows.length eClient eSerial = V at PT2
    have HV := hide hV
    clear hV
    obtain ⟨V1, V2, V3, V4⟩ := V
    simp only at PT2
    have s5 : Below w2.heap.size w2 (w2.alloc (.cells #[.int .u8 0, .slice none 0 0] 40)) := (Below.refl _ _).alloc (Nat.le_refl _) _
    have hb8 : Below w2.heap.size w2 (w2.alloc (.cells #[.int .u8 0, .slice none 0 0] 40)).drew := s5.drew
    have B8 : Blk (w2.alloc (.cells #[.int .u8 0, .slice none 0 0] 40)).drew w2.heap.size [.int .u8 0, .slice none 0 0] 40 := Blk.new w2 [.int .u8 0, .slice none 0 0] _
    have S5 := KC.out _ hb8
    have l1' : f.rb < w2.heap.size := by omega
    have l2' : g < w2.heap.size := by omega
    have KS := hide (show ∀ (X : World) (v0 v1 : Value), (X.cell? ⟨f.rb, 2, none⟩ = some (.pointer (some ⟨f.rt, 0, none⟩)) ∧ X.cell? ⟨g, 3, none⟩ = some (.int .i64 eClient) ∧ X.cell? ⟨g, 4, none⟩ = some (.int .i64 eSerial)) → (((X.setCell ⟨w2.heap.size, 0, none⟩ v0).setCell ⟨w2.heap.size, 1, none⟩ v1).cell? ⟨f.rb, 2, none⟩ = some (.pointer (some ⟨f.rt, 0, none⟩)) ∧ ((X.setCell ⟨w2.heap.size, 0, none⟩ v0).setCell ⟨w2.heap.size, 1, none⟩ v1).cell? ⟨g, 3, none⟩ = some (.int .i64 eClient) ∧ ((X.setCell ⟨w2.heap.size, 0, none⟩ v0).setCell ⟨w2.heap.size, 1, none⟩ v1).cell? ⟨g, 4, none⟩ = some (.int .i64 eSerial)) from fun X v0 v1 hS => ⟨cell_far2 _ _ hS.1 (by show f.rb ≠ w2.heap.size; omega), cell_far2 _ _ hS.2.1 (by show g ≠ w2.heap.size; omega), cell_far2 _ _ hS.2.2 (by show g ≠ w2.heap.size; omega)⟩)
    have S5o := fun (X : World) (hX : Below w2.heap.size w2 X) (o : Obj) => KC.out (X.alloc o) (hX.alloc hX.size o)
    have HS5 := hide S5o
    clear S5o
    go_region_held_law (fun X => X.cell? ⟨f.rb, 2, none⟩ = some (.pointer (some ⟨f.rt, 0, none⟩)) ∧ X.cell? ⟨g, 3, none⟩ = some (.int .i64 eClient) ∧ X.cell? ⟨g, 4, none⟩ = some (.int .i64 eSerial)) (first | with_reducible assumption | exact S5 | exact HS5.out _ (by with_reducible assumption) _ | exact KS.out _ _ _ (by with_reducible assumption)) (first
      | (go_at_call 13; refine (PT2.out w2.drew (Below.refl _ _).drew).mono ?_; rintro xx w3 ⟨A1, d1, dc1, rfl, hask⟩; have hb3 : Below w2.heap.size w2 w3 := ⟨hask.2.2.2.2.2.1.os, hask.2.2.2.2.2.1.tape, hask.2.2.2.2.2.1.output, hask.2.2.2.2.2.1.size, hask.2.2.2.2.2.1.block⟩; have Hask := hide hask; clear hask; have tkA : True := trivial; have S3 := KC.out _ hb3)
      | (go_at_call 13; refine (PT2.out _ hb8).mono ?_; rintro xx w3 ⟨A1, d1, dc1, rfl, hask⟩; have hb3 : Below w2.heap.size w2 w3 := hb8.trans (hask.2.2.2.2.2.1.mono hb8.size); have hB83 := B8.below hask.2.2.2.2.2.1; have Hask := hide hask; clear hask; have tkB : True := trivial; have S3 := KC.out _ hb3; have r0 := hB83.cell (j := 0) rfl; have r1 := hB83.cell (j := 1) rfl; have q0 := hB83.frozen 0; have q1 := hB83.frozen 1))
    all_goals
      obtain ⟨a1, a2, a3, a4, a5, a6, a7⟩ := Hask.out
      (try simp only at a1 a2 a3 a4 a5 a7)
      have hs8 := hb8.size
      have s3 := hb3.size
      have e8 : (w2.alloc (.cells #[.int .u8 0, .slice none 0 0] 40)).drew.heap.size = w2.heap.size + 1 := World.size_alloc _ _
      have a7' : bys V4 ≠ [] → ∀ a', A1 = some a' → a'.block < w.heap.size := fun hne a' ha => by
        have := (a7 (fun e0 => hne (by rw [e0]; rfl)) a' ha).1
        exact Nat.lt_of_not_le (fun hh => this (.inr hh))
      first
      | (clear tkA
         have hbA : Below w3.heap.size w3 (w3.alloc (.cells #[.int .u8 V3, .slice A1 d1 dc1] 40)) := (Below.refl _ _).alloc (Nat.le_refl _) _
         have hB8 := Blk.new w3 [.int .u8 V3, .slice A1 d1 dc1] 40
         have hA4 := a5.below hbA
         have hb4 := hb3.trans (hbA.mono s3)
         obtain ⟨w4, hw4⟩ : ∃ y, w3.alloc (.cells #[.int .u8 V3, .slice A1 d1 dc1] 40) = y := ⟨_, rfl⟩
         rw [hw4] at hB8 hA4 hb4 ⊢
         obtain ⟨g8, hg8⟩ : ∃ y, w3.heap.size = y := ⟨_, rfl⟩
         rw [hg8] at hB8 ⊢
         have h8lo : w2.heap.size ≤ g8 := by omega
         clear hg8 hw4 hbA)
      | (clear tkB
         have F8 : Fr (fun b => b = w2.heap.size) w3 ((w3.setCell ⟨w2.heap.size, 0, none⟩ (.int .u8 V3)).setCell ⟨w2.heap.size, 1, none⟩ (.slice A1 d1 dc1)) := (Fr.setg _ w2.heap.size 0 _).trans (Fr.setg _ w2.heap.size 1 _)
         have hB8 := (hB83.set 0 (.int .u8 V3)).set 1 (.slice A1 d1 dc1)
         have hA4 := a5.fr F8 (fun hne a' ha => by have := a7' hne a' ha; omega)
         have hb4 : Below w2.heap.size w2 ((w3.setCell ⟨w2.heap.size, 0, none⟩ (.int .u8 V3)).setCell ⟨w2.heap.size, 1, none⟩ (.slice A1 d1 dc1)) := F8.below hb3 (by omega) (fun k hk => by omega)
         obtain ⟨w4, hw4⟩ : ∃ y, ((w3.setCell ⟨w2.heap.size, 0, none⟩ (.int .u8 V3)).setCell ⟨w2.heap.size, 1, none⟩ (.slice A1 d1 dc1)) = y := ⟨_, rfl⟩
         rw [hw4] at hB8 hA4 hb4 ⊢
         clear r0 r1 q0 q1 F8 hw4
         obtain ⟨g8, hg8⟩ : ∃ y, w2.heap.size = y := ⟨_, rfl⟩
         have hB8' : Blk w4 g8 [.int .u8 V3, .slice A1 d1 dc1] 40 := by rw [← hg8]; exact hB8
         clear hB8
         have hB8 := hB8'
         clear hB8'
         rw [hg8]
         have h8lo : w2.heap.size ≤ g8 := by omega
         clear hg8)
      have hM4 := HM2.out.below hb4
      have hE4 := hE2.below hb4
      have hZ4 := hZ2.below hb4
      have s4 := hb4.size
      have F4 : Fr f.W w w4 := (((Fr.of_below (X := f.W) (hb0.trans (hb1.mono hb0.size))).trans' F2 (fun b hb => .inl (.inl hb))).trans (Fr.of_below hb4))
      have r0 := hB8.cell (j := 0) rfl
      have r1 := hB8.cell (j := 1) rfl
      have HV' := HV.out
      simp only [HV'] at hv
      subst hv
      have hkd := (entryB_kind HX.out).1
      have hHA : a.apply (eKind, eNum, eView, eClient, eSerial, (eOpKind, eOpAt, eOpN, eOpData, eOpOld), (eGroupEpoch, eGroupMembers)) = ({ (({ a with num := eNum } : MA).done (eKind, eNum, eView, eClient, eSerial, (eOpKind, eOpAt, eOpN, eOpData, eOpOld), (eGroupEpoch, eGroupMembers))).1 with rows := putR a.rows eClient eSerial (({ a with num := eNum } : MA).done (eKind, eNum, eView, eClient, eSerial, (eOpKind, eOpAt, eOpN, eOpData, eOpOld), (eGroupEpoch, eGroupMembers))).2.1 (({ a with num := eNum } : MA).done (eKind, eNum, eView, eClient, eSerial, (eOpKind, eOpAt, eOpN, eOpData, eOpOld), (eGroupEpoch, eGroupMembers))).2.2 }, 0, (({ a with num := eNum } : MA).done (eKind, eNum, eView, eClient, eSerial, (eOpKind, eOpAt, eOpN, eOpData, eOpOld), (eGroupEpoch, eGroupMembers))).2.1, (({ a with num := eNum } : MA).done (eKind, eNum, eView, eClient, eSerial, (eOpKind, eOpAt, eOpN, eOpData, eOpOld), (eGroupEpoch, eGroupMembers))).2.2) := by
        unfold MA.apply
        rw [if_pos HX.out, if_pos HN.out]
        simp only [HV', if_true]
      have he4 := he.fr F4 (fun b hb => (hQ b hb).2.2)
      have hM4 := hM4.free (Y' := fun b => Y b ∨ b = g + 1 ∨ b = g8) (fun b hb => by rcases hb with hb | hb | hb; exact .inl hb; exact .inr (by omega); exact .inr (by omega))
      clear HV'
      have y0 := Blk.cell hE4 (j := 0) rfl; have y1 := Blk.cell hE4 (j := 1) rfl; have y2 := Blk.cell hE4 (j := 2) rfl; have y3 := Blk.cell hE4 (j := 3) rfl; have y4 := Blk.cell hE4 (j := 4) rfl; have y5 := Blk.cell hE4 (j := 5) rfl; have y6 := Blk.cell hE4 (j := 6) rfl; have y7 := Blk.cell hE4 (j := 7) rfl; have y8 := Blk.cell hE4 (j := 8) rfl; have y9 := Blk.cell hE4 (j := 9) rfl; have y10 := Blk.cell hE4 (j := 10) rfl; have y11 := Blk.cell hE4 (j := 11) rfl
      have hk := HK.out
      have hep := HEP.out
      (try simp only at hk hep hgo)
      subst hk
      obtain ⟨hmi, _⟩ := i64rows he_eGroupMembers
      subst hmi
      have gl9 := grp_len hgo
      have hdn : ({ a with num := eNum } : MA).done (2, eNum, eView, eClient, eSerial, (eOpKind, eOpAt, eOpN, eOpData, eOpOld), eGroupEpoch, eGroupMembers) = ({ a with num := eNum, ep := eGroupEpoch, ms := eGroupMembers }, 1, []) := by
        unfold MA.done
        rw [if_neg (show ¬ (2 : Nat) = 1 by decide), if_pos ⟨rfl, hep⟩]
      rw [hdn] at hHA
      have HA := hide hHA
      have hK5 : (1 : Nat) < 256 := by decide
      obtain ⟨a5, ha5⟩ : ∃ y, y = ({ a with num := eNum, ep := eGroupEpoch, ms := eGroupMembers } : MA) := ⟨_, rfl⟩
      have hrw : a5.rows = a.rows := by rw [ha5]
      have hlo9 := h.lo2.1
      have hqM : ∀ x, eGroupMembersA = some x → Q x.block := hq_eGroupMembers (fun e0 => by rw [e0] at gl9; simp at gl9)
      have C5 := rconf_yes hM4 eGroupEpoch eGroupMembersA eGroupMembersn eGroupMembersc eGroupMembers hep hl_eGroupMembers ⟨hc_eGroupMembers, hm_eGroupMembers⟩ (hr_eGroupMembers.fr F4 (fun _ x hx => (hQ _ (hqM x hx)).2.2)) hgo (fun x hx => by
        obtain ⟨u1, u2, u3⟩ := hQ _ (hqM x hx)
        exact ⟨fun hy => by rcases hy with hy | hy | hy; exact u1 hy; omega; omega, u3, by omega⟩)
      rw [show ({ ({ a with num := eNum } : MA) with ep := eGroupEpoch, ms := eGroupMembers } : MA) = a5 from ha5.symm] at C5
      rw [← ha5] at HA
      have HC5 := hide C5
      clear hdn hHA ha5 hep C5 hl_eGroupMembers hgo
      go_wp2_with fail
      go_fit HC5.out
      rintro xx w5 ⟨rfl, hM5, F5⟩
      have s5 := F5.size
      have hlt5 := hM5.lts
      have hnW : ∀ b, w.heap.size ≤ b → ¬ f.W b := fun b h1 h2 => by have := hlt b h2; omega
      have hE5 := hE4.fr F5 (hnW g (by omega))
      have hZ5 := hZ4.fr F5 (hnW (g + 1) (by omega))
      have hB85 := hB8.fr F5 (hnW g8 (by omega))
      clear r0 r1 y0 y1 y2 y3 y4 y5 y6 y7 y8 y9 y10 y11
      have r0 := hB85.cell (j := 0) rfl
      have r1 := hB85.cell (j := 1) rfl
      have q0 := hB85.frozen 0
      have q1 := hB85.frozen 1
      obtain ⟨w6, hw6⟩ : ∃ y, ((w5.setCell ⟨g8, 0, none⟩ (.int .u8 1)).setCell ⟨g8, 1, none⟩ (.slice none 0 0)) = y := ⟨_, rfl⟩
      have F6 : Fr (fun b => b = g8) w5 w6 := by rw [← hw6]; exact (Fr.setg _ g8 0 _).trans (Fr.setg _ g8 1 _)
      have hB86 : Blk w6 g8 [.int .u8 1, .slice none 0 0] 40 := by rw [← hw6]; exact (hB85.set 0 (.int .u8 1)).set 1 (.slice none 0 0)
      have hM6 := hM5.fr F6 (fun b hb _ => .inr (.inr hb))
      have hE6 := hE5.fr F6 (by omega)
      have hZ6 := hZ5.fr F6 (by omega)
      have hD6 : Rd w6 none (bys []) := Rd.nil
      have s6 := F6.size
      have Hw6 := hide hw6
      have hP := rput_any7 (hM6.below (Below.refl _ _).drew).tab (show rowsB a5.rows = true by rw [hrw]; exact hok1) (hM6.below (Below.refl _ _).drew).rq (hM6.below (Below.refl _ _).drew).aq (fun b hb => by have e0 : w6.drew.heap.size = w6.heap.size := rfl; exact ⟨fun hy => by rcases hy with hy | hy | hy; have := hY b hy; omega; omega; (have := hB8.lt; omega), fun hW => by have := hlt5 b hW; omega⟩) eClient eSerial 1 none 0 0 [] hK5 rfl (Nat.le_refl _) (by decide) hD6.drew (fun hne a' ha => (absurd rfl hne))
      rw [hrw] at hP
      have HP := hide hP
      have KC6 := hide (show ∀ X, Fr (fun b => b = f.rt) w6 X → (X.cell? ⟨f.rb, 2, none⟩ = some (.pointer (some ⟨f.rt, 0, none⟩)) ∧ X.cell? ⟨g, 3, none⟩ = some (.int .i64 eClient) ∧ X.cell? ⟨g, 4, none⟩ = some (.int .i64 eSerial) ∧ X.cell? ⟨g8, 0, none⟩ = some (.int .u8 1) ∧ X.cell? ⟨g8, 1, none⟩ = some (.slice none 0 0)) from fun X hX => ⟨(hM6.blk.fr hX hM6.ne.2.2.2.1).cell (j := 2) rfl, (hE6.fr hX (fun e => hnW g (by omega) (.inr (.inr (.inr (.inr e)))))).cell (j := 3) rfl, (hE6.fr hX (fun e => hnW g (by omega) (.inr (.inr (.inr (.inr e)))))).cell (j := 4) rfl, (hB86.fr hX (fun e => hnW g8 (by omega) (.inr (.inr (.inr (.inr e)))))).cell (j := 0) rfl, (hB86.fr hX (fun e => hnW g8 (by omega) (.inr (.inr (.inr (.inr e)))))).cell (j := 1) rfl⟩)
      have S60 := KC6.out w6.drew (Fr.refl _ _).drew
      clear hw6 hP S3
      go_wp2_with fail
      rw [Hw6.out]
      clear r0 r1 q0 q1
      go_region_held_law (fun X => X.cell? ⟨f.rb, 2, none⟩ = some (.pointer (some ⟨f.rt, 0, none⟩)) ∧ X.cell? ⟨g, 3, none⟩ = some (.int .i64 eClient) ∧ X.cell? ⟨g, 4, none⟩ = some (.int .i64 eSerial) ∧ X.cell? ⟨g8, 0, none⟩ = some (.int .u8 1) ∧ X.cell? ⟨g8, 1, none⟩ = some (.slice none 0 0)) (first | with_reducible assumption) (first
        | (go_at_call 48; refine HP.out.mono ?_; rintro xx w7 ⟨⟨E7, rfl⟩, hpt⟩; have F7 : Fr (fun b => b = f.rt) w6 w7 := (Fr.refl _ w6).drew.trans (Fr.of_grown hpt.2 (fun k hk => (Option.some.inj hk).symm)); have Hpt := hide hpt; clear hpt; have S7 := KC6.out _ F7))
      all_goals
        obtain ⟨n7, c7, cs7, A7, hM7⟩ := (hM6.below (Below.refl _ _).drew).reput Hpt.out
        have hnB : ∀ b, w.heap.size ≤ b → ¬ b = f.rt := fun b h1 h2 => hnW b h1 (.inr (.inr (.inr (.inr h2))))
        have hZ7 := hZ6.fr F7 (hnB _ (by omega))
        have hD7 := hD6.fr F7 (fun hne a' ha => hnB _ (by exact absurd rfl hne))
        have r0 := (hB86.fr F7 (hnB _ (by omega))).cell (j := 0) rfl
        have r1 := (hB86.fr F7 (hnB _ (by omega))).cell (j := 1) rfl
        have z0 := hZ7.cell (j := 0) rfl
        have z1 := hZ7.cell (j := 1) rfl
        have q0 := hZ7.frozen 0
        have q1 := hZ7.frozen 1
        have s7 := F7.size
        have hZ8 := (hZ7.set 0 (.int .u8 1)).set 1 (.slice none 0 0)
        have Fz : Fr (fun b => b = g + 1) w7 ((w7.setCell ⟨g + 1, 0, none⟩ (.int .u8 1)).setCell ⟨g + 1, 1, none⟩ (.slice none 0 0)) := (Fr.setg _ (g + 1) 0 _).trans (Fr.setg _ (g + 1) 1 _)
        have F8 := (((F4.trans F5).trans' F6 (fun b hb => .inr (by omega))).trans' F7 (fun b hb => .inl (.inr (.inr (.inr (.inr hb)))))).trans' Fz (fun b hb => .inr (by omega))
        have hM8 := (hM7.fr Fz (fun b hb _ => .inr (.inl (by omega)))).free (Y' := Y) (fun b hb => .inl hb)
        have hD8 := hD7.fr Fz (fun hne a' ha => by exact absurd rfl hne)
        have HM8 := hide hM8
        have HF8 := hide F8
        have HD8 := hide hD8
        have HZ8 := hide hZ8
        clear hM8 F8 hD8 hZ8 hM7 Fz S7 S60 hM6 hM5 hZ7 hZ6 hZ5 hD7 hD6 hM4
        go_wp2
        refine bodyPost_ret (results_cell2 rfl rfl HZ8.out Tryz.underlying40 rfl (by kernel_rfl)) rfl ?_
        rw [HA.out]
        exact ⟨none, 0, rfl, (Nat.le_refl _), (by decide), HD8.out, ⟨_, _, _, _, _, _, _, _, _, _, _, _, HM8.out⟩, HF8.out⟩
set_option maxRecDepth 20000 in
set_option maxHeartbeats 12800000 in
theorem rapply7_op {Q : Nat → Prop} {e : EntryD} {cs9 : List Value} (h : RMIs w lo Y f a NN cb cv n c rows sv cs A G gn gc) (hok : a.Ok) (he : tyEntry.Is w Q e cs9) (hY : ∀ b, Y b → b < w.heap.size) (hQ : ∀ b, Q b → ¬ Y b ∧ b < lo ∧ ¬ f.W b) (hx : entryB e = true) (hn : e.2.1 = a.num + 1) (hv : (askV (tmOf a.rows) a.rows.length e.2.2.2.1 e.2.2.2.2.1).1 = 1) (hk : e.1 = 1) : Calls Tryz.prog 11 #[.pointer (some ⟨f.rb, 0, none⟩), .agg cs9.toArray] w (RApplyM lo Y f (a.apply e) w) := by
  have he' := he
  obtain ⟨eKind, eNum, eView, eClient, eSerial, eOpKind, eOpAt, eOpN, eOpData, eOpDataA, eOpDatan, eOpDatac, eOpOld, eOpOldA, eOpOldn, eOpOldc, eGroupEpoch, eGroupMembers, eGroupMembersA, eGroupMembersn, eGroupMembersc, eGroupMembersv, rfl, rfl, hu_eKind, h1_eNum, h2_eNum, h1_eView, h2_eView, h1_eClient, h2_eClient, h1_eSerial, h2_eSerial, hu_eOpKind, h1_eOpAt, h2_eOpAt, h1_eOpN, h2_eOpN, hl_eOpData, hc_eOpData, hm_eOpData, hr_eOpData, hq_eOpData, hl_eOpOld, hc_eOpOld, hm_eOpOld, hr_eOpOld, hq_eOpOld, h1_eGroupEpoch, h2_eGroupEpoch, hl_eGroupMembers, hc_eGroupMembers, hm_eGroupMembers, hr_eGroupMembers, hq_eGroupMembers, he_eGroupMembers⟩ := Entry_out he'
  obtain ⟨g, hg⟩ : ∃ g, w.heap.size = g := ⟨_, rfl⟩
  obtain ⟨w0, hw0⟩ : ∃ x, (w.alloc (.cells #[.int .u8 eKind, .int .i64 eNum, .int .i64 eView, .int .i64 eClient, .int .i64 eSerial, .int .u8 eOpKind, .int .i64 eOpAt, .int .i64 eOpN, .slice eOpDataA eOpDatan eOpDatac, .slice eOpOldA eOpOldn eOpOldc, .int .i64 eGroupEpoch, .slice eGroupMembersA eGroupMembersn eGroupMembersc] 49)).alloc (.cells #[.int .u8 0, .slice none 0 0] 40) = x := ⟨_, rfl⟩
  have hE : Blk w0 g [.int .u8 eKind, .int .i64 eNum, .int .i64 eView, .int .i64 eClient, .int .i64 eSerial, .int .u8 eOpKind, .int .i64 eOpAt, .int .i64 eOpN, .slice eOpDataA eOpDatan eOpDatac, .slice eOpOldA eOpOldn eOpOldc, .int .i64 eGroupEpoch, .slice eGroupMembersA eGroupMembersn eGroupMembersc] 49 := by rw [← hw0, ← hg]; exact (Blk.new w [.int .u8 eKind, .int .i64 eNum, .int .i64 eView, .int .i64 eClient, .int .i64 eSerial, .int .u8 eOpKind, .int .i64 eOpAt, .int .i64 eOpN, .slice eOpDataA eOpDatan eOpDatac, .slice eOpOldA eOpOldn eOpOldc, .int .i64 eGroupEpoch, .slice eGroupMembersA eGroupMembersn eGroupMembersc] _).alloc _
  have hZ : Blk w0 (g + 1) [.int .u8 0, .slice none 0 0] 40 := by
    rw [← hw0, ← hg]
    have := Blk.new (w.alloc (.cells #[.int .u8 eKind, .int .i64 eNum, .int .i64 eView, .int .i64 eClient, .int .i64 eSerial, .int .u8 eOpKind, .int .i64 eOpAt, .int .i64 eOpN, .slice eOpDataA eOpDatan eOpDatac, .slice eOpOldA eOpOldn eOpOldc, .int .i64 eGroupEpoch, .slice eGroupMembersA eGroupMembersn eGroupMembersc] 49)) [.int .u8 0, .slice none 0 0] 40
    rwa [World.size_alloc] at this
  have hb0 : Below w.heap.size w w0 := by rw [← hw0]; exact ((Below.refl _ _).alloc (Nat.le_refl _) _).alloc (by simp) _
  have Hw0 := hide hw0
  clear hw0
  have h0 := h.below hb0
  have zl := hZ.lt
  have hlt := h.lts
  have l1 := hlt f.rb (.inl rfl)
  have s0 := hb0.size
  have y0 := Blk.cell hE (j := 0) rfl; have y1 := Blk.cell hE (j := 1) rfl; have y2 := Blk.cell hE (j := 2) rfl; have y3 := Blk.cell hE (j := 3) rfl; have y4 := Blk.cell hE (j := 4) rfl; have y5 := Blk.cell hE (j := 5) rfl; have y6 := Blk.cell hE (j := 6) rfl; have y7 := Blk.cell hE (j := 7) rfl; have y8 := Blk.cell hE (j := 8) rfl; have y9 := Blk.cell hE (j := 9) rfl; have y10 := Blk.cell hE (j := 10) rfl; have y11 := Blk.cell hE (j := 11) rfl
  have HX := hide hx
  have hser := serB_out (entryB_kind hx).2
  have hnum := numB_out hok.num
  simp only at hn hser
  have HN := hide hn
  have q : (eNum - 1 != a.num) = false := by simp; omega
  have hok1 : rowsB a.rows = true := hok.rows
  have hln := h.tab.len
  have htb := hok.tb
  have HK := hide hk
  clear hx hn hk
  go_enter Tryz.func11, Tryz.ntmps11
  go_wp2_with fail
  rw [Hw0.out]
  go_fit (rentry_any (he.below hb0))
  rw [enE_ok HX.out]
  rintro xx w1 ⟨rfl, hb1⟩
  have h1 := h0.below hb1
  have hE1 := hE.below hb1
  have hZ1 := hZ.below hb1
  clear y0 y1 y2 y3 y4 y5 y6 y7 y8 y9 y10 y11
  have y1 := hE1.cell (j := 1) rfl
  have x0 := h1.blk.cell (j := 0) rfl
  have s1 := hb1.size
  go_wp2_with fail
  go_region
  all_goals
    have xf0 := h1.blk.frozen 0
    have hav := (((h.avoid (Z := fun b => w.heap.size ≤ b) (fun b hb => hb)).below hb0).below hb1).below (Below.refl _ _).drew
    have F2' : Fr (fun b => b = f.rb) w1.drew (w1.drew.setCell ⟨f.rb, 0, none⟩ (.int .i64 eNum)) := Fr.setg _ f.rb 0 _
    have hM2 := hav.reblk F2' (hav.blk.set 0 (.int .i64 eNum)) hav.gr hav.gl hav.gc_ hav.ok hav.gq
    obtain ⟨w2, hw2⟩ : ∃ y, w1.drew.setCell ⟨f.rb, 0, none⟩ (.int .i64 eNum) = y := ⟨_, rfl⟩
    have F2 : Fr (fun b => b = f.rb) w1 w2 := by rw [← hw2]; exact ((Fr.refl _ w1).drew).trans (Fr.setg _ f.rb 0 _)
    rw [hw2] at hM2
    have hE2 := hE1.fr F2 (by omega)
    have hZ2 := hZ1.fr F2 (by omega)
    have s2 := F2.size
    have HM2 := hide hM2
    have Hw2 := hide hw2
    have hw2' : (w1.setCell ⟨f.rb, 0, none⟩ (.int .i64 eNum)).drew = w2 := hw2
    have Hw2' := hide hw2'
    have xm := hM2.blk.cell (j := 2) rfl
    have y3 := hE2.cell (j := 3) rfl
    have y4 := hE2.cell (j := 4) rfl
    have KC := hide (show ∀ X, Below w2.heap.size w2 X → (X.cell? ⟨f.rb, 2, none⟩ = some (.pointer (some ⟨f.rt, 0, none⟩)) ∧ X.cell? ⟨g, 3, none⟩ = some (.int .i64 eClient) ∧ X.cell? ⟨g, 4, none⟩ = some (.int .i64 eSerial)) from fun X hX => ⟨(hM2.blk.below hX).cell (j := 2) rfl, (hE2.below hX).cell (j := 3) rfl, (hE2.below hX).cell (j := 4) rfl⟩)
    have PT' := fun X (hX : Below w2.heap.size w2 X) => rask_anyQ (hM2.below hX).tab (hM2.below hX).rq htb eClient eSerial
    rw [← hln] at PT'
    have PT2 := hide PT'
    have S0 := KC.out w2.drew (Below.refl _ _).drew
    clear hw2 hw2' hM2 PT' F2' hav
    go_wp2_with fail
    first | rw [Hw2.out] | rw [Hw2'.out]
    clear y1 x0 xf0
    generalize hV : askV (tmOf a.rows) a.rows.length eClient eSerial = V at PT2
    have HV := hide hV
    clear hV
    obtain ⟨V1, V2, V3, V4⟩ := V
    simp only at PT2
    have s5 : Below w2.heap.size w2 (w2.alloc (.cells #[.int .u8 0, .slice none 0 0] 40)) := (Below.refl _ _).alloc (Nat.le_refl _) _
    have hb8 : Below w2.heap.size w2 (w2.alloc (.cells #[.int .u8 0, .slice none 0 0] 40)).drew := s5.drew
    have B8 : Blk (w2.alloc (.cells #[.int .u8 0, .slice none 0 0] 40)).drew w2.heap.size [.int .u8 0, .slice none 0 0] 40 := Blk.new w2 [.int .u8 0, .slice none 0 0] _
    have S5 := KC.out _ hb8
    have l1' : f.rb < w2.heap.size := by omega
    have l2' : g < w2.heap.size := by omega
    have KS := hide (show ∀ (X : World) (v0 v1 : Value), (X.cell? ⟨f.rb, 2, none⟩ = some (.pointer (some ⟨f.rt, 0, none⟩)) ∧ X.cell? ⟨g, 3, none⟩ = some (.int .i64 eClient) ∧ X.cell? ⟨g, 4, none⟩ = some (.int .i64 eSerial)) → (((X.setCell ⟨w2.heap.size, 0, none⟩ v0).setCell ⟨w2.heap.size, 1, none⟩ v1).cell? ⟨f.rb, 2, none⟩ = some (.pointer (some ⟨f.rt, 0, none⟩)) ∧ ((X.setCell ⟨w2.heap.size, 0, none⟩ v0).setCell ⟨w2.heap.size, 1, none⟩ v1).cell? ⟨g, 3, none⟩ = some (.int .i64 eClient) ∧ ((X.setCell ⟨w2.heap.size, 0, none⟩ v0).setCell ⟨w2.heap.size, 1, none⟩ v1).cell? ⟨g, 4, none⟩ = some (.int .i64 eSerial)) from fun X v0 v1 hS => ⟨cell_far2 _ _ hS.1 (by show f.rb ≠ w2.heap.size; omega), cell_far2 _ _ hS.2.1 (by show g ≠ w2.heap.size; omega), cell_far2 _ _ hS.2.2 (by show g ≠ w2.heap.size; omega)⟩)
    have S5o := fun (X : World) (hX : Below w2.heap.size w2 X) (o : Obj) => KC.out (X.alloc o) (hX.alloc hX.size o)
    have HS5 := hide S5o
    clear S5o
    go_region_held_law (fun X => X.cell? ⟨f.rb, 2, none⟩ = some (.pointer (some ⟨f.rt, 0, none⟩)) ∧ X.cell? ⟨g, 3, none⟩ = some (.int .i64 eClient) ∧ X.cell? ⟨g, 4, none⟩ = some (.int .i64 eSerial)) (first | with_reducible assumption | exact S5 | exact HS5.out _ (by with_reducible assumption) _ | exact KS.out _ _ _ (by with_reducible assumption)) (first
      | (go_at_call 13; refine (PT2.out w2.drew (Below.refl _ _).drew).mono ?_; rintro xx w3 ⟨A1, d1, dc1, rfl, hask⟩; have hb3 : Below w2.heap.size w2 w3 := ⟨hask.2.2.2.2.2.1.os, hask.2.2.2.2.2.1.tape, hask.2.2.2.2.2.1.output, hask.2.2.2.2.2.1.size, hask.2.2.2.2.2.1.block⟩; have Hask := hide hask; clear hask; have tkA : True := trivial; have S3 := KC.out _ hb3)
      | (go_at_call 13; refine (PT2.out _ hb8).mono ?_; rintro xx w3 ⟨A1, d1, dc1, rfl, hask⟩; have hb3 : Below w2.heap.size w2 w3 := hb8.trans (hask.2.2.2.2.2.1.mono hb8.size); have hB83 := B8.below hask.2.2.2.2.2.1; have Hask := hide hask; clear hask; have tkB : True := trivial; have S3 := KC.out _ hb3; have r0 := hB83.cell (j := 0) rfl; have r1 := hB83.cell (j := 1) rfl; have q0 := hB83.frozen 0; have q1 := hB83.frozen 1))
    all_goals
      obtain ⟨a1, a2, a3, a4, a5, a6, a7⟩ := Hask.out
      (try simp only at a1 a2 a3 a4 a5 a7)
      have hs8 := hb8.size
      have s3 := hb3.size
      have e8 : (w2.alloc (.cells #[.int .u8 0, .slice none 0 0] 40)).drew.heap.size = w2.heap.size + 1 := World.size_alloc _ _
      have a7' : bys V4 ≠ [] → ∀ a', A1 = some a' → a'.block < w.heap.size := fun hne a' ha => by
        have := (a7 (fun e0 => hne (by rw [e0]; rfl)) a' ha).1
        exact Nat.lt_of_not_le (fun hh => this (.inr hh))
      first
      | (clear tkA
         have hbA : Below w3.heap.size w3 (w3.alloc (.cells #[.int .u8 V3, .slice A1 d1 dc1] 40)) := (Below.refl _ _).alloc (Nat.le_refl _) _
         have hB8 := Blk.new w3 [.int .u8 V3, .slice A1 d1 dc1] 40
         have hA4 := a5.below hbA
         have hb4 := hb3.trans (hbA.mono s3)
         obtain ⟨w4, hw4⟩ : ∃ y, w3.alloc (.cells #[.int .u8 V3, .slice A1 d1 dc1] 40) = y := ⟨_, rfl⟩
         rw [hw4] at hB8 hA4 hb4 ⊢
         obtain ⟨g8, hg8⟩ : ∃ y, w3.heap.size = y := ⟨_, rfl⟩
         rw [hg8] at hB8 ⊢
         have h8lo : w2.heap.size ≤ g8 := by omega
         clear hg8 hw4 hbA)
      | (clear tkB
         have F8 : Fr (fun b => b = w2.heap.size) w3 ((w3.setCell ⟨w2.heap.size, 0, none⟩ (.int .u8 V3)).setCell ⟨w2.heap.size, 1, none⟩ (.slice A1 d1 dc1)) := (Fr.setg _ w2.heap.size 0 _).trans (Fr.setg _ w2.heap.size 1 _)
         have hB8 := (hB83.set 0 (.int .u8 V3)).set 1 (.slice A1 d1 dc1)
         have hA4 := a5.fr F8 (fun hne a' ha => by have := a7' hne a' ha; omega)
         have hb4 : Below w2.heap.size w2 ((w3.setCell ⟨w2.heap.size, 0, none⟩ (.int .u8 V3)).setCell ⟨w2.heap.size, 1, none⟩ (.slice A1 d1 dc1)) := F8.below hb3 (by omega) (fun k hk => by omega)
         obtain ⟨w4, hw4⟩ : ∃ y, ((w3.setCell ⟨w2.heap.size, 0, none⟩ (.int .u8 V3)).setCell ⟨w2.heap.size, 1, none⟩ (.slice A1 d1 dc1)) = y := ⟨_, rfl⟩
         rw [hw4] at hB8 hA4 hb4 ⊢
         clear r0 r1 q0 q1 F8 hw4
         obtain ⟨g8, hg8⟩ : ∃ y, w2.heap.size = y := ⟨_, rfl⟩
         have hB8' : Blk w4 g8 [.int .u8 V3, .slice A1 d1 dc1] 40 := by rw [← hg8]; exact hB8
         clear hB8
         have hB8 := hB8'
         clear hB8'
         rw [hg8]
         have h8lo : w2.heap.size ≤ g8 := by omega
         clear hg8)
      have hM4 := HM2.out.below hb4
      have hE4 := hE2.below hb4
      have hZ4 := hZ2.below hb4
      have s4 := hb4.size
      have F4 : Fr f.W w w4 := (((Fr.of_below (X := f.W) (hb0.trans (hb1.mono hb0.size))).trans' F2 (fun b hb => .inl (.inl hb))).trans (Fr.of_below hb4))
      have r0 := hB8.cell (j := 0) rfl
      have r1 := hB8.cell (j := 1) rfl
      have HV' := HV.out
      simp only [HV'] at hv
      subst hv
      have hkd := (entryB_kind HX.out).1
      have hHA : a.apply (eKind, eNum, eView, eClient, eSerial, (eOpKind, eOpAt, eOpN, eOpData, eOpOld), (eGroupEpoch, eGroupMembers)) = ({ (({ a with num := eNum } : MA).done (eKind, eNum, eView, eClient, eSerial, (eOpKind, eOpAt, eOpN, eOpData, eOpOld), (eGroupEpoch, eGroupMembers))).1 with rows := putR a.rows eClient eSerial (({ a with num := eNum } : MA).done (eKind, eNum, eView, eClient, eSerial, (eOpKind, eOpAt, eOpN, eOpData, eOpOld), (eGroupEpoch, eGroupMembers))).2.1 (({ a with num := eNum } : MA).done (eKind, eNum, eView, eClient, eSerial, (eOpKind, eOpAt, eOpN, eOpData, eOpOld), (eGroupEpoch, eGroupMembers))).2.2 }, 0, (({ a with num := eNum } : MA).done (eKind, eNum, eView, eClient, eSerial, (eOpKind, eOpAt, eOpN, eOpData, eOpOld), (eGroupEpoch, eGroupMembers))).2.1, (({ a with num := eNum } : MA).done (eKind, eNum, eView, eClient, eSerial, (eOpKind, eOpAt, eOpN, eOpData, eOpOld), (eGroupEpoch, eGroupMembers))).2.2) := by
        unfold MA.apply
        rw [if_pos HX.out, if_pos HN.out]
        simp only [HV', if_true]
      have he4 := he.fr F4 (fun b hb => (hQ b hb).2.2)
      have hM4 := hM4.free (Y' := fun b => Y b ∨ b = g + 1 ∨ b = g8) (fun b hb => by rcases hb with hb | hb | hb; exact .inl hb; exact .inr (by omega); exact .inr (by omega))
      clear HV'
      have y0 := Blk.cell hE4 (j := 0) rfl; have y1 := Blk.cell hE4 (j := 1) rfl; have y2 := Blk.cell hE4 (j := 2) rfl; have y3 := Blk.cell hE4 (j := 3) rfl; have y4 := Blk.cell hE4 (j := 4) rfl; have y5 := Blk.cell hE4 (j := 5) rfl; have y6 := Blk.cell hE4 (j := 6) rfl; have y7 := Blk.cell hE4 (j := 7) rfl; have y8 := Blk.cell hE4 (j := 8) rfl; have y9 := Blk.cell hE4 (j := 9) rfl; have y10 := Blk.cell hE4 (j := 10) rfl; have y11 := Blk.cell hE4 (j := 11) rfl
      have hk := HK.out
      (try simp only at hk)
      subst hk
      have hlo9 := h.lo2.1
      have hdn : ({ a with num := eNum } : MA).done (1, eNum, eView, eClient, eSerial, (eOpKind, eOpAt, eOpN, eOpData, eOpOld), eGroupEpoch, eGroupMembers) = ({ a with num := eNum, bs := doBE a.b a.z a.bs a.last eOpKind eOpAt eOpN eOpData eOpOld eNum, vs := doVE a.b a.z a.bs a.vs a.last eOpKind eOpAt eOpN eOpData eOpOld eNum, last := doLE a.b a.z a.last eOpKind eOpAt eOpN eOpData eOpOld eNum }, doKE a.b a.z a.bs a.last eOpKind eOpAt eOpN eOpData eOpOld eNum, doDE a.b a.z a.bs a.last eOpKind eOpAt eOpN eOpData eOpOld eNum) := rfl
      rw [hdn] at hHA
      have hK5' := doKE_lt a.b a.z a.bs a.last eOpKind eOpAt eOpN eOpData eOpOld eNum
      have hrD4 := hr_eOpData.fr F4 (fun hne x hx => (hQ _ (hq_eOpData (fun e0 => hne (by rw [e0]; rfl)) x hx)).2.2)
      have hrO4 := hr_eOpOld.fr F4 (fun hne x hx => (hQ _ (hq_eOpOld (fun e0 => hne (by rw [e0]; rfl)) x hx)).2.2)
      have DO := fun X (hX : Below w4.heap.size w4 X) => rdo_any X lo f.rv f.gb f.gv cb cv a.b a.z NN rows sv a.bs a.vs a.last eOpKind eOpAt eOpN eOpDataA eOpDatan eOpDatac eOpData eOpOldA eOpOldn eOpOldc eOpOld eNum hu_eOpKind (hM4.below hX).vol hl_eOpData hc_eOpData hm_eOpData hl_eOpOld (hrD4.below hX) (hrO4.below hX) (fun hne x hx => (hQ _ (hq_eOpData hne x hx)).2.1) (fun hne x hx => (hQ _ (hq_eOpOld hne x hx)).2.1)
      generalize doKE a.b a.z a.bs a.last eOpKind eOpAt eOpN eOpData eOpOld eNum = K5 at DO hHA hK5'
      generalize doDE a.b a.z a.bs a.last eOpKind eOpAt eOpN eOpData eOpOld eNum = D5 at DO hHA
      generalize doBE a.b a.z a.bs a.last eOpKind eOpAt eOpN eOpData eOpOld eNum = B5 at DO hHA
      generalize doVE a.b a.z a.bs a.vs a.last eOpKind eOpAt eOpN eOpData eOpOld eNum = V5 at DO hHA
      generalize doLE a.b a.z a.last eOpKind eOpAt eOpN eOpData eOpOld eNum = L5 at DO hHA
      obtain ⟨a5, ha5⟩ : ∃ y, y = ({ a with num := eNum, bs := B5, vs := V5, last := L5 } : MA) := ⟨_, rfl⟩
      have hrw : a5.rows = a.rows := by rw [ha5]
      have hK5 : K5 < 256 := hK5'
      have HA := hide hHA
      rw [← ha5] at HA
      have HDO := hide DO
      have KC := hide (show ∀ X, Fr (fun b => b = f.rv ∨ b = f.gb ∨ b = f.gv) w4 X → (X.cell? ⟨f.rb, 1, none⟩ = some (.pointer (some ⟨f.rv, 0, none⟩)) ∧ X.cell? ⟨g, 5, none⟩ = some (.int .u8 eOpKind) ∧ X.cell? ⟨g, 6, none⟩ = some (.int .i64 eOpAt) ∧ X.cell? ⟨g, 7, none⟩ = some (.int .i64 eOpN) ∧ X.cell? ⟨g, 8, none⟩ = some (.slice eOpDataA eOpDatan eOpDatac) ∧ X.cell? ⟨g, 9, none⟩ = some (.slice eOpOldA eOpOldn eOpOldc) ∧ X.cell? ⟨g, 1, none⟩ = some (.int .i64 eNum)) from fun X hX => ⟨(hM4.blk.fr hX (by have := hM4.ne; omega)).cell (j := 1) rfl, (hE4.fr hX (by have := hlt _ (.inr (.inl rfl)); have := hlt _ (.inr (.inr (.inl rfl))); have := hlt _ (.inr (.inr (.inr (.inl rfl)))); omega)).cell (j := 5) rfl, (hE4.fr hX (by have := hlt _ (.inr (.inl rfl)); have := hlt _ (.inr (.inr (.inl rfl))); have := hlt _ (.inr (.inr (.inr (.inl rfl)))); omega)).cell (j := 6) rfl, (hE4.fr hX (by have := hlt _ (.inr (.inl rfl)); have := hlt _ (.inr (.inr (.inl rfl))); have := hlt _ (.inr (.inr (.inr (.inl rfl)))); omega)).cell (j := 7) rfl, (hE4.fr hX (by have := hlt _ (.inr (.inl rfl)); have := hlt _ (.inr (.inr (.inl rfl))); have := hlt _ (.inr (.inr (.inr (.inl rfl)))); omega)).cell (j := 8) rfl, (hE4.fr hX (by have := hlt _ (.inr (.inl rfl)); have := hlt _ (.inr (.inr (.inl rfl))); have := hlt _ (.inr (.inr (.inr (.inl rfl)))); omega)).cell (j := 9) rfl, (hE4.fr hX (by have := hlt _ (.inr (.inl rfl)); have := hlt _ (.inr (.inr (.inl rfl))); have := hlt _ (.inr (.inr (.inr (.inl rfl)))); omega)).cell (j := 1) rfl⟩)
      have KG := hide (show ∀ X, Fr (fun b => b = f.rv ∨ b = f.gb ∨ b = f.gv) w4 X → Blk X g8 [.int .u8 V3, .slice A1 d1 dc1] 40 from fun X hX => hB8.fr hX (by have := hlt _ (.inr (.inl rfl)); have := hlt _ (.inr (.inr (.inl rfl))); have := hlt _ (.inr (.inr (.inr (.inl rfl)))); omega))
      have hrg : f.rb ≠ g8 := by omega
      have hgg : g ≠ g8 := by omega
      have KS8 := hide (show ∀ (X : World) (v0 v1 : Value), (X.cell? ⟨f.rb, 1, none⟩ = some (.pointer (some ⟨f.rv, 0, none⟩)) ∧ X.cell? ⟨g, 5, none⟩ = some (.int .u8 eOpKind) ∧ X.cell? ⟨g, 6, none⟩ = some (.int .i64 eOpAt) ∧ X.cell? ⟨g, 7, none⟩ = some (.int .i64 eOpN) ∧ X.cell? ⟨g, 8, none⟩ = some (.slice eOpDataA eOpDatan eOpDatac) ∧ X.cell? ⟨g, 9, none⟩ = some (.slice eOpOldA eOpOldn eOpOldc) ∧ X.cell? ⟨g, 1, none⟩ = some (.int .i64 eNum)) → (((X.setCell ⟨g8, 0, none⟩ v0).setCell ⟨g8, 1, none⟩ v1).cell? ⟨f.rb, 1, none⟩ = some (.pointer (some ⟨f.rv, 0, none⟩)) ∧ ((X.setCell ⟨g8, 0, none⟩ v0).setCell ⟨g8, 1, none⟩ v1).cell? ⟨g, 5, none⟩ = some (.int .u8 eOpKind) ∧ ((X.setCell ⟨g8, 0, none⟩ v0).setCell ⟨g8, 1, none⟩ v1).cell? ⟨g, 6, none⟩ = some (.int .i64 eOpAt) ∧ ((X.setCell ⟨g8, 0, none⟩ v0).setCell ⟨g8, 1, none⟩ v1).cell? ⟨g, 7, none⟩ = some (.int .i64 eOpN) ∧ ((X.setCell ⟨g8, 0, none⟩ v0).setCell ⟨g8, 1, none⟩ v1).cell? ⟨g, 8, none⟩ = some (.slice eOpDataA eOpDatan eOpDatac) ∧ ((X.setCell ⟨g8, 0, none⟩ v0).setCell ⟨g8, 1, none⟩ v1).cell? ⟨g, 9, none⟩ = some (.slice eOpOldA eOpOldn eOpOldc) ∧ ((X.setCell ⟨g8, 0, none⟩ v0).setCell ⟨g8, 1, none⟩ v1).cell? ⟨g, 1, none⟩ = some (.int .i64 eNum)) from fun X v0 v1 hS => ⟨cell_far2 _ _ hS.1 (by show _ ≠ g8; omega), cell_far2 _ _ hS.2.1 (by show _ ≠ g8; omega), cell_far2 _ _ hS.2.2.1 (by show _ ≠ g8; omega), cell_far2 _ _ hS.2.2.2.1 (by show _ ≠ g8; omega), cell_far2 _ _ hS.2.2.2.2.1 (by show _ ≠ g8; omega), cell_far2 _ _ hS.2.2.2.2.2.1 (by show _ ≠ g8; omega), cell_far2 _ _ hS.2.2.2.2.2.2 (by show _ ≠ g8; omega)⟩)
      have S0' := KC.out w4.drew (Fr.refl _ _).drew
      have HA5 := hide ha5
      clear hdn hHA ha5 DO S3 hl_eOpData hl_eOpOld
      go_wp2_with fail
      clear r0 r1 y0 y1 y2 y3 y4 y5 y6 y7 y8 y9 y10 y11
      go_region_held_law (fun X => X.cell? ⟨f.rb, 1, none⟩ = some (.pointer (some ⟨f.rv, 0, none⟩)) ∧ X.cell? ⟨g, 5, none⟩ = some (.int .u8 eOpKind) ∧ X.cell? ⟨g, 6, none⟩ = some (.int .i64 eOpAt) ∧ X.cell? ⟨g, 7, none⟩ = some (.int .i64 eOpN) ∧ X.cell? ⟨g, 8, none⟩ = some (.slice eOpDataA eOpDatan eOpDatac) ∧ X.cell? ⟨g, 9, none⟩ = some (.slice eOpOldA eOpOldn eOpOldc) ∧ X.cell? ⟨g, 1, none⟩ = some (.int .i64 eNum)) (first | with_reducible assumption | exact KS8.out _ _ _ (by with_reducible assumption)) (first
        | (go_at_call 47; refine (HDO.out w4.drew (Below.refl _ _).drew).mono ?_; rintro xx w5 ⟨A5, c5, rfl, k1, k2, k3, k4, ⟨rows5, hV5, hN5⟩, hU5⟩; have F5' : Fr (fun b => b = f.rv ∨ b = f.gb ∨ b = f.gv) w4 w5 := (Fr.refl _ w4).drew.trans (Fr.of_upd hU5 (.inl rfl) (.inr (.inl rfl)) (.inr (.inr rfl))); have S5' := KC.out _ F5'; have hG5 := KG.out _ F5'; have r0 := hG5.cell (j := 0) rfl; have r1 := hG5.cell (j := 1) rfl; have q0 := hG5.frozen 0; have q1 := hG5.frozen 1; have Hk5 := hide (And.intro k1 (And.intro k2 (And.intro k3 (And.intro k4 (And.intro hV5 (And.intro hN5 hU5)))))); clear k1 k2 k3 k4 hV5 hN5 hU5; obtain ⟨d5n, hd5⟩ : ∃ y, D5.length = y := ⟨_, rfl⟩; rw [hd5]; have Hd5 := hide hd5; clear hd5))
      all_goals
        obtain ⟨k1, k2, k3, k4, hV5, hN5, hU5⟩ := Hk5.out
        have hyr : ∀ b, (Y b ∨ b = g + 1 ∨ b = g8) → b < w4.heap.size := fun b hy => by rcases hy with hy | hy | hy; have := hY b hy; omega; omega; have := hB8.lt; omega
        have hM5 := (hM4.below (Below.refl _ _).drew).revol hU5 hV5 hN5 hyr
        rw [show ({ ({ a with num := eNum } : MA) with bs := B5, vs := V5, last := L5 } : MA) = ({ a with num := eNum, bs := B5, vs := V5, last := L5 } : MA) from rfl] at hM5
        rw [← HA5.out] at hM5
        have F5 : Fr f.W w4 w5 := F5'.mono fun b hb => by rcases hb with hb | hb | hb; exact .inr (.inl hb); exact .inr (.inr (.inl hb)); exact .inr (.inr (.inr (.inl hb)))
        rw [Hd5.out] at k1
        have k4' : ∀ a', A5 = some a' → w4.heap.size ≤ a'.block := k4
        have s5 := F5.size
        have hlt5 := hM5.lts
        have hnW : ∀ b, w.heap.size ≤ b → ¬ f.W b := fun b h1 h2 => by have := hlt b h2; omega
        have hE5 := hE4.fr F5 (hnW g (by omega))
        have hZ5 := hZ4.fr F5 (hnW (g + 1) (by omega))
        have hB85 := hB8.fr F5 (hnW g8 (by omega))
        clear r0 r1 q0 q1
        have r0 := hB85.cell (j := 0) rfl
        have r1 := hB85.cell (j := 1) rfl
        have q0 := hB85.frozen 0
        have q1 := hB85.frozen 1
        obtain ⟨w6, hw6⟩ : ∃ y, ((w5.setCell ⟨g8, 0, none⟩ (.int .u8 K5)).setCell ⟨g8, 1, none⟩ (.slice A5 d5n c5)) = y := ⟨_, rfl⟩
        have F6 : Fr (fun b => b = g8) w5 w6 := by rw [← hw6]; exact (Fr.setg _ g8 0 _).trans (Fr.setg _ g8 1 _)
        have hB86 : Blk w6 g8 [.int .u8 K5, .slice A5 d5n c5] 40 := by rw [← hw6]; exact (hB85.set 0 (.int .u8 K5)).set 1 (.slice A5 d5n c5)
        have hM6 := hM5.fr F6 (fun b hb _ => .inr (.inr hb))
        have hE6 := hE5.fr F6 (by omega)
        have hZ6 := hZ5.fr F6 (by omega)
        have hD6 : Rd w6 A5 (bys D5) := (k3.fr F6 (fun _ a' ha => by have := k4' a' ha; have := hB8.lt; omega))
        have s6 := F6.size
        have Hw6 := hide hw6
        have hP := rput_any7 (hM6.below (Below.refl _ _).drew).tab (show rowsB a5.rows = true by rw [hrw]; exact hok1) (hM6.below (Below.refl _ _).drew).rq (hM6.below (Below.refl _ _).drew).aq (fun b hb => by have e0 : w6.drew.heap.size = w6.heap.size := rfl; exact ⟨fun hy => by rcases hy with hy | hy | hy; have := hY b hy; omega; omega; (have := hB8.lt; omega), fun hW => by have := hlt5 b hW; omega⟩) eClient eSerial K5 A5 d5n c5 D5 hK5 Hd5.out k1 k2 hD6.drew (fun hne a' ha => ⟨fun hy => (by have := hyr _ hy; have := k4' a' ha; omega), fun hW => (by have := hM4.lts _ hW; have := k4' a' ha; omega)⟩)
        rw [hrw] at hP
        have HP := hide hP
        have KC6 := hide (show ∀ X, Fr (fun b => b = f.rt) w6 X → (X.cell? ⟨f.rb, 2, none⟩ = some (.pointer (some ⟨f.rt, 0, none⟩)) ∧ X.cell? ⟨g, 3, none⟩ = some (.int .i64 eClient) ∧ X.cell? ⟨g, 4, none⟩ = some (.int .i64 eSerial) ∧ X.cell? ⟨g8, 0, none⟩ = some (.int .u8 K5) ∧ X.cell? ⟨g8, 1, none⟩ = some (.slice A5 d5n c5)) from fun X hX => ⟨(hM6.blk.fr hX hM6.ne.2.2.2.1).cell (j := 2) rfl, (hE6.fr hX (fun e => hnW g (by omega) (.inr (.inr (.inr (.inr e)))))).cell (j := 3) rfl, (hE6.fr hX (fun e => hnW g (by omega) (.inr (.inr (.inr (.inr e)))))).cell (j := 4) rfl, (hB86.fr hX (fun e => hnW g8 (by omega) (.inr (.inr (.inr (.inr e)))))).cell (j := 0) rfl, (hB86.fr hX (fun e => hnW g8 (by omega) (.inr (.inr (.inr (.inr e)))))).cell (j := 1) rfl⟩)
        have S60 := KC6.out w6.drew (Fr.refl _ _).drew
        clear hw6 hP S5' S0'
        go_wp2_with fail
        rw [Hw6.out]
        clear r0 r1 q0 q1
        go_region_held_law (fun X => X.cell? ⟨f.rb, 2, none⟩ = some (.pointer (some ⟨f.rt, 0, none⟩)) ∧ X.cell? ⟨g, 3, none⟩ = some (.int .i64 eClient) ∧ X.cell? ⟨g, 4, none⟩ = some (.int .i64 eSerial) ∧ X.cell? ⟨g8, 0, none⟩ = some (.int .u8 K5) ∧ X.cell? ⟨g8, 1, none⟩ = some (.slice A5 d5n c5)) (first | with_reducible assumption) (first
          | (go_at_call 48; refine HP.out.mono ?_; rintro xx w7 ⟨⟨E7, rfl⟩, hpt⟩; have F7 : Fr (fun b => b = f.rt) w6 w7 := (Fr.refl _ w6).drew.trans (Fr.of_grown hpt.2 (fun k hk => (Option.some.inj hk).symm)); have Hpt := hide hpt; clear hpt; have S7 := KC6.out _ F7))
        all_goals
          obtain ⟨n7, c7, cs7, A7, hM7⟩ := (hM6.below (Below.refl _ _).drew).reput Hpt.out
          have hnB : ∀ b, w.heap.size ≤ b → ¬ b = f.rt := fun b h1 h2 => hnW b h1 (.inr (.inr (.inr (.inr h2))))
          have hZ7 := hZ6.fr F7 (hnB _ (by omega))
          have hD7 := hD6.fr F7 (fun hne a' ha => hnB _ (by have := k4' a' ha; omega))
          have r0 := (hB86.fr F7 (hnB _ (by omega))).cell (j := 0) rfl
          have r1 := (hB86.fr F7 (hnB _ (by omega))).cell (j := 1) rfl
          have z0 := hZ7.cell (j := 0) rfl
          have z1 := hZ7.cell (j := 1) rfl
          have q0 := hZ7.frozen 0
          have q1 := hZ7.frozen 1
          have s7 := F7.size
          have hZ8 := (hZ7.set 0 (.int .u8 K5)).set 1 (.slice A5 d5n c5)
          have Fz : Fr (fun b => b = g + 1) w7 ((w7.setCell ⟨g + 1, 0, none⟩ (.int .u8 K5)).setCell ⟨g + 1, 1, none⟩ (.slice A5 d5n c5)) := (Fr.setg _ (g + 1) 0 _).trans (Fr.setg _ (g + 1) 1 _)
          have F8 := (((F4.trans F5).trans' F6 (fun b hb => .inr (by omega))).trans' F7 (fun b hb => .inl (.inr (.inr (.inr (.inr hb)))))).trans' Fz (fun b hb => .inr (by omega))
          have hM8 := (hM7.fr Fz (fun b hb _ => .inr (.inl (by omega)))).free (Y' := Y) (fun b hb => .inl hb)
          have hD8 := hD7.fr Fz (fun hne a' ha => by have := k4' a' ha; omega)
          have HM8 := hide hM8
          have HF8 := hide F8
          have HD8 := hide hD8
          have HZ8 := hide hZ8
          clear hM8 F8 hD8 hZ8 hM7 Fz S7 S60 hM6 hM5 hZ7 hZ6 hZ5 hD7 hD6 hM4
          go_wp2
          refine bodyPost_ret (results_cell2 rfl rfl HZ8.out Tryz.underlying40 rfl (by kernel_rfl)) rfl ?_
          rw [HA.out]
          exact ⟨A5, c5, by rw [Hd5.out]; rfl, by rw [Hd5.out]; exact k1, k2, HD8.out, ⟨_, _, _, _, _, _, _, _, _, _, _, _, HM8.out⟩, HF8.out⟩
theorem rapply7_any {Q : Nat → Prop} {e : EntryD} {cs9 : List Value} (h : RMX w lo Y f a) (hok : a.Ok) (he : tyEntry.Is w Q e cs9) (hY : ∀ b, Y b → b < w.heap.size) (hQ : ∀ b, Q b → ¬ Y b ∧ b < lo ∧ ¬ f.W b) : Calls Tryz.prog 11 #[.pointer (some ⟨f.rb, 0, none⟩), .agg cs9.toArray] w (RApplyM lo Y f (a.apply e) w) := by
  obtain ⟨NN, cb, cv, n, c, rows, sv, cs, A, G, gn, gc, h⟩ := h
  cases h1 : entryB e with
  | false => exact rapply7_bad h hok he h1
  | true =>
    by_cases h2 : e.2.1 = a.num + 1
    · by_cases h3 : (askV (tmOf a.rows) a.rows.length e.2.2.2.1 e.2.2.2.2.1).1 = 1
      · rcases kindB_two (entryB_kind h1).1 with hk | ⟨hk, hg⟩
        · exact rapply7_op h hok he hY hQ h1 h2 h3 hk
        · by_cases hep : e.2.2.2.2.2.2.1 = a.ep + 1
          · exact rapply7_yes h hok he hY hQ h1 h2 h3 hk hep hg
          · exact rapply7_no h hok he hY hQ h1 h2 h3 hk hep hg
      · exact rapply7_old h hok he hY h1 h2 h3
    · exact rapply7_order h hok he h1 h2
end
end Go.Proofs.YtkknkdjdneldlaaGreat
namespace Go.Proofs.YtkknkdjdneldlaaGreat
set_option maxRecDepth 20000
open Go.RowKit Go.Px Go.Maps
set_option linter.unusedVariables false
section
variable {X Y : Nat → Prop} {w w' : World} {lo : Nat} {f : RFp} {a : MA} {NN cb cv n c : Nat} {rows sv cs : List Value} {A G : Option Addr} {gn gc : Nat}
set_option maxRecDepth 20000 in
set_option maxHeartbeats 6400000 in
theorem rpatch7_badS {Q : Nat → Prop} {x : StateD} {cs9 : List Value} (h : RMIs w lo Y f a NN cb cv n c rows sv cs A G gn gc) (hs : tyState.Is w Q x cs9) (hx : stateB x = false) : Calls Tryz.prog 23 #[.pointer (some ⟨f.rb, 0, none⟩), .agg cs9.toArray] w fun e w' => e = .returned (.int .i64 72) ∧ Below w.heap.size w w' := by
  have hs' := hs
  obtain ⟨sNum, sShapeBlocks, sShapeSize, sPages, sPagesA, sPagesn, sPagesc, sPagesv, sRows, sRowsA, sRowsn, sRowsc, sRowsv, sGroupEpoch, sGroupMembers, sGroupMembersA, sGroupMembersn, sGroupMembersc, sGroupMembersv, rfl, rfl, h1_sNum, h2_sNum, h1_sShapeBlocks, h2_sShapeBlocks, h1_sShapeSize, h2_sShapeSize, hl_sPages, hc_sPages, hm_sPages, hr_sPages, hq_sPages, he_sPages, hl_sRows, hc_sRows, hm_sRows, hr_sRows, hq_sRows, he_sRows, h1_sGroupEpoch, h2_sGroupEpoch, hl_sGroupMembers, hc_sGroupMembers, hm_sGroupMembers, hr_sGroupMembers, hq_sGroupMembers, he_sGroupMembers⟩ := State_out hs'
  obtain ⟨w0, hw0⟩ : ∃ x, w.alloc (.cells #[.int .i64 sNum, .int .i64 sShapeBlocks, .int .i64 sShapeSize, .slice sPagesA sPagesn sPagesc, .slice sRowsA sRowsn sRowsc, .int .i64 sGroupEpoch, .slice sGroupMembersA sGroupMembersn sGroupMembersc] 30) = x := ⟨_, rfl⟩; have hBw0 : Blk w0 w.heap.size [.int .i64 sNum, .int .i64 sShapeBlocks, .int .i64 sShapeSize, .slice sPagesA sPagesn sPagesc, .slice sRowsA sRowsn sRowsc, .int .i64 sGroupEpoch, .slice sGroupMembersA sGroupMembersn sGroupMembersc] 30 := (by rw [← hw0]; exact Blk.new w [.int .i64 sNum, .int .i64 sShapeBlocks, .int .i64 sShapeSize, .slice sPagesA sPagesn sPagesc, .slice sRowsA sRowsn sRowsc, .int .i64 sGroupEpoch, .slice sGroupMembersA sGroupMembersn sGroupMembersc] _); have hbw0 : Below w.heap.size w w0 := (by rw [← hw0]; exact (Below.refl _ _).alloc (Nat.le_refl _) _); have Hw0 := hide hw0; clear hw0
  have h0 := h.below hbw0
  have hs0 := hs.below hbw0
  have HM := hide (show ∀ X, Below w0.heap.size w0 X → RMIs X lo Y f a NN cb cv n c rows sv cs A G gn gc from fun X hX => h0.below hX)
  have HBx := hide (show ∀ X, Below w0.heap.size w0 X → Blk X w.heap.size [.int .i64 sNum, .int .i64 sShapeBlocks, .int .i64 sShapeSize, .slice sPagesA sPagesn sPagesc, .slice sRowsA sRowsn sRowsc, .int .i64 sGroupEpoch, .slice sGroupMembersA sGroupMembersn sGroupMembersc] 30 from fun X hX => hBw0.below hX)
  have y0 : ∀ x : InC (fun W => Below w0.heap.size w0 W), x.W.cell? ⟨w.heap.size, 0, none⟩ = some (.int .i64 sNum) := fun x => (HBx.out x.W x.h).cell (j := 0) rfl
  have y1 : ∀ x : InC (fun W => Below w0.heap.size w0 W), x.W.cell? ⟨w.heap.size, 1, none⟩ = some (.int .i64 sShapeBlocks) := fun x => (HBx.out x.W x.h).cell (j := 1) rfl
  have y2 : ∀ x : InC (fun W => Below w0.heap.size w0 W), x.W.cell? ⟨w.heap.size, 2, none⟩ = some (.int .i64 sShapeSize) := fun x => (HBx.out x.W x.h).cell (j := 2) rfl
  have y3 : ∀ x : InC (fun W => Below w0.heap.size w0 W), x.W.cell? ⟨w.heap.size, 3, none⟩ = some (.slice sPagesA sPagesn sPagesc) := fun x => (HBx.out x.W x.h).cell (j := 3) rfl
  have y4 : ∀ x : InC (fun W => Below w0.heap.size w0 W), x.W.cell? ⟨w.heap.size, 4, none⟩ = some (.slice sRowsA sRowsn sRowsc) := fun x => (HBx.out x.W x.h).cell (j := 4) rfl
  have y5 : ∀ x : InC (fun W => Below w0.heap.size w0 W), x.W.cell? ⟨w.heap.size, 5, none⟩ = some (.int .i64 sGroupEpoch) := fun x => (HBx.out x.W x.h).cell (j := 5) rfl
  have y6 : ∀ x : InC (fun W => Below w0.heap.size w0 W), x.W.cell? ⟨w.heap.size, 6, none⟩ = some (.slice sGroupMembersA sGroupMembersn sGroupMembersc) := fun x => (HBx.out x.W x.h).cell (j := 6) rfl
  have x0 : ∀ x : InC (fun W => Below w0.heap.size w0 W), x.W.cell? ⟨f.rb, 0, none⟩ = some (.int .i64 a.num) := fun x => (HM.out x.W x.h).blk.cell (j := 0) rfl
  have x1 : ∀ x : InC (fun W => Below w0.heap.size w0 W), x.W.cell? ⟨f.rb, 1, none⟩ = some (.pointer (some ⟨f.rv, 0, none⟩)) := fun x => (HM.out x.W x.h).blk.cell (j := 1) rfl
  have v0 : ∀ x : InC (fun W => Below w0.heap.size w0 W), x.W.cell? ⟨f.rv, 0, none⟩ = some (.int .i64 a.b) := fun x => (HM.out x.W x.h).vol.blk.cell (j := 0) rfl
  have v1 : ∀ x : InC (fun W => Below w0.heap.size w0 W), x.W.cell? ⟨f.rv, 1, none⟩ = some (.int .i64 a.z) := fun x => (HM.out x.W x.h).vol.blk.cell (j := 1) rfl
  have HS := hide (show ∀ x : InC (fun W => Below w0.heap.size w0 W), Calls Tryz.prog 61 #[.agg #[.int .i64 sNum, .int .i64 sShapeBlocks, .int .i64 sShapeSize, .slice sPagesA sPagesn sPagesc, .slice sRowsA sRowsn sRowsc, .int .i64 sGroupEpoch, .slice sGroupMembersA sGroupMembersn sGroupMembersc]] x.W fun e w' => e = .returned (.int .i64 (stE (sNum, (sShapeBlocks, sShapeSize), sPages, sRows, (sGroupEpoch, sGroupMembers)))) ∧ Below x.W.heap.size x.W w' from fun x => rstate_any (hs0.below x.h))
  have HX := hide hx
  clear hx 
  go_enter Tryz.func23, Tryz.ntmps23
  go_wp2_with fail
  rw [Hw0.out]
  refine wp_region_in (fun W => Below w0.heap.size w0 W) (Below.refl _ _).drew (by kernel_rfl) (by kernel_rfl) ?_
  repeat (go_big_quiet_step (first
    | (go_at_call 61; have hh := HS.out; rw [stE_no HX.out] at hh; exact Calls.in_below (hh _))))
  refine wpQuiet_nil ?_
  intro _ hw'
  obtain ⟨nq, hw''⟩ := hw'
  subst hw''
  have hbq := nq.h
  go_wp2
  go_ret
  exact ⟨rfl, hbw0.trans (hbq.mono hbw0.size)⟩
set_option maxRecDepth 20000 in
set_option maxHeartbeats 6400000 in
theorem rpatch7_badB {Q : Nat → Prop} {x : StateD} {cs9 : List Value} (h : RMIs w lo Y f a NN cb cv n c rows sv cs A G gn gc) (hs : tyState.Is w Q x cs9) (hx : stateB x = true) (hb : ¬ x.2.1.1 = a.b) : Calls Tryz.prog 23 #[.pointer (some ⟨f.rb, 0, none⟩), .agg cs9.toArray] w fun e w' => e = .returned (.int .i64 72) ∧ Below w.heap.size w w' := by
  have hs' := hs
  obtain ⟨sNum, sShapeBlocks, sShapeSize, sPages, sPagesA, sPagesn, sPagesc, sPagesv, sRows, sRowsA, sRowsn, sRowsc, sRowsv, sGroupEpoch, sGroupMembers, sGroupMembersA, sGroupMembersn, sGroupMembersc, sGroupMembersv, rfl, rfl, h1_sNum, h2_sNum, h1_sShapeBlocks, h2_sShapeBlocks, h1_sShapeSize, h2_sShapeSize, hl_sPages, hc_sPages, hm_sPages, hr_sPages, hq_sPages, he_sPages, hl_sRows, hc_sRows, hm_sRows, hr_sRows, hq_sRows, he_sRows, h1_sGroupEpoch, h2_sGroupEpoch, hl_sGroupMembers, hc_sGroupMembers, hm_sGroupMembers, hr_sGroupMembers, hq_sGroupMembers, he_sGroupMembers⟩ := State_out hs'
  obtain ⟨w0, hw0⟩ : ∃ x, w.alloc (.cells #[.int .i64 sNum, .int .i64 sShapeBlocks, .int .i64 sShapeSize, .slice sPagesA sPagesn sPagesc, .slice sRowsA sRowsn sRowsc, .int .i64 sGroupEpoch, .slice sGroupMembersA sGroupMembersn sGroupMembersc] 30) = x := ⟨_, rfl⟩; have hBw0 : Blk w0 w.heap.size [.int .i64 sNum, .int .i64 sShapeBlocks, .int .i64 sShapeSize, .slice sPagesA sPagesn sPagesc, .slice sRowsA sRowsn sRowsc, .int .i64 sGroupEpoch, .slice sGroupMembersA sGroupMembersn sGroupMembersc] 30 := (by rw [← hw0]; exact Blk.new w [.int .i64 sNum, .int .i64 sShapeBlocks, .int .i64 sShapeSize, .slice sPagesA sPagesn sPagesc, .slice sRowsA sRowsn sRowsc, .int .i64 sGroupEpoch, .slice sGroupMembersA sGroupMembersn sGroupMembersc] _); have hbw0 : Below w.heap.size w w0 := (by rw [← hw0]; exact (Below.refl _ _).alloc (Nat.le_refl _) _); have Hw0 := hide hw0; clear hw0
  have h0 := h.below hbw0
  have hs0 := hs.below hbw0
  have HM := hide (show ∀ X, Below w0.heap.size w0 X → RMIs X lo Y f a NN cb cv n c rows sv cs A G gn gc from fun X hX => h0.below hX)
  have HBx := hide (show ∀ X, Below w0.heap.size w0 X → Blk X w.heap.size [.int .i64 sNum, .int .i64 sShapeBlocks, .int .i64 sShapeSize, .slice sPagesA sPagesn sPagesc, .slice sRowsA sRowsn sRowsc, .int .i64 sGroupEpoch, .slice sGroupMembersA sGroupMembersn sGroupMembersc] 30 from fun X hX => hBw0.below hX)
  have y0 : ∀ x : InC (fun W => Below w0.heap.size w0 W), x.W.cell? ⟨w.heap.size, 0, none⟩ = some (.int .i64 sNum) := fun x => (HBx.out x.W x.h).cell (j := 0) rfl
  have y1 : ∀ x : InC (fun W => Below w0.heap.size w0 W), x.W.cell? ⟨w.heap.size, 1, none⟩ = some (.int .i64 sShapeBlocks) := fun x => (HBx.out x.W x.h).cell (j := 1) rfl
  have y2 : ∀ x : InC (fun W => Below w0.heap.size w0 W), x.W.cell? ⟨w.heap.size, 2, none⟩ = some (.int .i64 sShapeSize) := fun x => (HBx.out x.W x.h).cell (j := 2) rfl
  have y3 : ∀ x : InC (fun W => Below w0.heap.size w0 W), x.W.cell? ⟨w.heap.size, 3, none⟩ = some (.slice sPagesA sPagesn sPagesc) := fun x => (HBx.out x.W x.h).cell (j := 3) rfl
  have y4 : ∀ x : InC (fun W => Below w0.heap.size w0 W), x.W.cell? ⟨w.heap.size, 4, none⟩ = some (.slice sRowsA sRowsn sRowsc) := fun x => (HBx.out x.W x.h).cell (j := 4) rfl
  have y5 : ∀ x : InC (fun W => Below w0.heap.size w0 W), x.W.cell? ⟨w.heap.size, 5, none⟩ = some (.int .i64 sGroupEpoch) := fun x => (HBx.out x.W x.h).cell (j := 5) rfl
  have y6 : ∀ x : InC (fun W => Below w0.heap.size w0 W), x.W.cell? ⟨w.heap.size, 6, none⟩ = some (.slice sGroupMembersA sGroupMembersn sGroupMembersc) := fun x => (HBx.out x.W x.h).cell (j := 6) rfl
  have x0 : ∀ x : InC (fun W => Below w0.heap.size w0 W), x.W.cell? ⟨f.rb, 0, none⟩ = some (.int .i64 a.num) := fun x => (HM.out x.W x.h).blk.cell (j := 0) rfl
  have x1 : ∀ x : InC (fun W => Below w0.heap.size w0 W), x.W.cell? ⟨f.rb, 1, none⟩ = some (.pointer (some ⟨f.rv, 0, none⟩)) := fun x => (HM.out x.W x.h).blk.cell (j := 1) rfl
  have v0 : ∀ x : InC (fun W => Below w0.heap.size w0 W), x.W.cell? ⟨f.rv, 0, none⟩ = some (.int .i64 a.b) := fun x => (HM.out x.W x.h).vol.blk.cell (j := 0) rfl
  have v1 : ∀ x : InC (fun W => Below w0.heap.size w0 W), x.W.cell? ⟨f.rv, 1, none⟩ = some (.int .i64 a.z) := fun x => (HM.out x.W x.h).vol.blk.cell (j := 1) rfl
  have HS := hide (show ∀ x : InC (fun W => Below w0.heap.size w0 W), Calls Tryz.prog 61 #[.agg #[.int .i64 sNum, .int .i64 sShapeBlocks, .int .i64 sShapeSize, .slice sPagesA sPagesn sPagesc, .slice sRowsA sRowsn sRowsc, .int .i64 sGroupEpoch, .slice sGroupMembersA sGroupMembersn sGroupMembersc]] x.W fun e w' => e = .returned (.int .i64 (stE (sNum, (sShapeBlocks, sShapeSize), sPages, sRows, (sGroupEpoch, sGroupMembers)))) ∧ Below x.W.heap.size x.W w' from fun x => rstate_any (hs0.below x.h))
  have HX := hide hx
  have q : (sShapeBlocks == (a.b : Int)) = false := by simpa using hb
  clear hx hb
  go_enter Tryz.func23, Tryz.ntmps23
  go_wp2_with fail
  rw [Hw0.out]
  refine wp_region_in (fun W => Below w0.heap.size w0 W) (Below.refl _ _).drew (by kernel_rfl) (by kernel_rfl) ?_
  repeat (go_big_quiet_step (first
    | (go_at_call 61; have hh := HS.out; rw [stE_ok HX.out] at hh; exact Calls.in_below (hh _))))
  refine wpQuiet_nil ?_
  intro _ hw'
  obtain ⟨nq, hw''⟩ := hw'
  subst hw''
  have hbq := nq.h
  go_wp2
  go_ret
  exact ⟨rfl, hbw0.trans (hbq.mono hbw0.size)⟩
set_option maxRecDepth 20000 in
set_option maxHeartbeats 6400000 in
theorem rpatch7_badZ {Q : Nat → Prop} {x : StateD} {cs9 : List Value} (h : RMIs w lo Y f a NN cb cv n c rows sv cs A G gn gc) (hs : tyState.Is w Q x cs9) (hx : stateB x = true) (hb : x.2.1.1 = a.b) (hz : ¬ x.2.1.2 = a.z) : Calls Tryz.prog 23 #[.pointer (some ⟨f.rb, 0, none⟩), .agg cs9.toArray] w fun e w' => e = .returned (.int .i64 72) ∧ Below w.heap.size w w' := by
  have hs' := hs
  obtain ⟨sNum, sShapeBlocks, sShapeSize, sPages, sPagesA, sPagesn, sPagesc, sPagesv, sRows, sRowsA, sRowsn, sRowsc, sRowsv, sGroupEpoch, sGroupMembers, sGroupMembersA, sGroupMembersn, sGroupMembersc, sGroupMembersv, rfl, rfl, h1_sNum, h2_sNum, h1_sShapeBlocks, h2_sShapeBlocks, h1_sShapeSize, h2_sShapeSize, hl_sPages, hc_sPages, hm_sPages, hr_sPages, hq_sPages, he_sPages, hl_sRows, hc_sRows, hm_sRows, hr_sRows, hq_sRows, he_sRows, h1_sGroupEpoch, h2_sGroupEpoch, hl_sGroupMembers, hc_sGroupMembers, hm_sGroupMembers, hr_sGroupMembers, hq_sGroupMembers, he_sGroupMembers⟩ := State_out hs'
  obtain ⟨w0, hw0⟩ : ∃ x, w.alloc (.cells #[.int .i64 sNum, .int .i64 sShapeBlocks, .int .i64 sShapeSize, .slice sPagesA sPagesn sPagesc, .slice sRowsA sRowsn sRowsc, .int .i64 sGroupEpoch, .slice sGroupMembersA sGroupMembersn sGroupMembersc] 30) = x := ⟨_, rfl⟩; have hBw0 : Blk w0 w.heap.size [.int .i64 sNum, .int .i64 sShapeBlocks, .int .i64 sShapeSize, .slice sPagesA sPagesn sPagesc, .slice sRowsA sRowsn sRowsc, .int .i64 sGroupEpoch, .slice sGroupMembersA sGroupMembersn sGroupMembersc] 30 := (by rw [← hw0]; exact Blk.new w [.int .i64 sNum, .int .i64 sShapeBlocks, .int .i64 sShapeSize, .slice sPagesA sPagesn sPagesc, .slice sRowsA sRowsn sRowsc, .int .i64 sGroupEpoch, .slice sGroupMembersA sGroupMembersn sGroupMembersc] _); have hbw0 : Below w.heap.size w w0 := (by rw [← hw0]; exact (Below.refl _ _).alloc (Nat.le_refl _) _); have Hw0 := hide hw0; clear hw0
  have h0 := h.below hbw0
  have hs0 := hs.below hbw0
  have HM := hide (show ∀ X, Below w0.heap.size w0 X → RMIs X lo Y f a NN cb cv n c rows sv cs A G gn gc from fun X hX => h0.below hX)
  have HBx := hide (show ∀ X, Below w0.heap.size w0 X → Blk X w.heap.size [.int .i64 sNum, .int .i64 sShapeBlocks, .int .i64 sShapeSize, .slice sPagesA sPagesn sPagesc, .slice sRowsA sRowsn sRowsc, .int .i64 sGroupEpoch, .slice sGroupMembersA sGroupMembersn sGroupMembersc] 30 from fun X hX => hBw0.below hX)
  have y0 : ∀ x : InC (fun W => Below w0.heap.size w0 W), x.W.cell? ⟨w.heap.size, 0, none⟩ = some (.int .i64 sNum) := fun x => (HBx.out x.W x.h).cell (j := 0) rfl
  have y1 : ∀ x : InC (fun W => Below w0.heap.size w0 W), x.W.cell? ⟨w.heap.size, 1, none⟩ = some (.int .i64 sShapeBlocks) := fun x => (HBx.out x.W x.h).cell (j := 1) rfl
  have y2 : ∀ x : InC (fun W => Below w0.heap.size w0 W), x.W.cell? ⟨w.heap.size, 2, none⟩ = some (.int .i64 sShapeSize) := fun x => (HBx.out x.W x.h).cell (j := 2) rfl
  have y3 : ∀ x : InC (fun W => Below w0.heap.size w0 W), x.W.cell? ⟨w.heap.size, 3, none⟩ = some (.slice sPagesA sPagesn sPagesc) := fun x => (HBx.out x.W x.h).cell (j := 3) rfl
  have y4 : ∀ x : InC (fun W => Below w0.heap.size w0 W), x.W.cell? ⟨w.heap.size, 4, none⟩ = some (.slice sRowsA sRowsn sRowsc) := fun x => (HBx.out x.W x.h).cell (j := 4) rfl
  have y5 : ∀ x : InC (fun W => Below w0.heap.size w0 W), x.W.cell? ⟨w.heap.size, 5, none⟩ = some (.int .i64 sGroupEpoch) := fun x => (HBx.out x.W x.h).cell (j := 5) rfl
  have y6 : ∀ x : InC (fun W => Below w0.heap.size w0 W), x.W.cell? ⟨w.heap.size, 6, none⟩ = some (.slice sGroupMembersA sGroupMembersn sGroupMembersc) := fun x => (HBx.out x.W x.h).cell (j := 6) rfl
  have x0 : ∀ x : InC (fun W => Below w0.heap.size w0 W), x.W.cell? ⟨f.rb, 0, none⟩ = some (.int .i64 a.num) := fun x => (HM.out x.W x.h).blk.cell (j := 0) rfl
  have x1 : ∀ x : InC (fun W => Below w0.heap.size w0 W), x.W.cell? ⟨f.rb, 1, none⟩ = some (.pointer (some ⟨f.rv, 0, none⟩)) := fun x => (HM.out x.W x.h).blk.cell (j := 1) rfl
  have v0 : ∀ x : InC (fun W => Below w0.heap.size w0 W), x.W.cell? ⟨f.rv, 0, none⟩ = some (.int .i64 a.b) := fun x => (HM.out x.W x.h).vol.blk.cell (j := 0) rfl
  have v1 : ∀ x : InC (fun W => Below w0.heap.size w0 W), x.W.cell? ⟨f.rv, 1, none⟩ = some (.int .i64 a.z) := fun x => (HM.out x.W x.h).vol.blk.cell (j := 1) rfl
  have HS := hide (show ∀ x : InC (fun W => Below w0.heap.size w0 W), Calls Tryz.prog 61 #[.agg #[.int .i64 sNum, .int .i64 sShapeBlocks, .int .i64 sShapeSize, .slice sPagesA sPagesn sPagesc, .slice sRowsA sRowsn sRowsc, .int .i64 sGroupEpoch, .slice sGroupMembersA sGroupMembersn sGroupMembersc]] x.W fun e w' => e = .returned (.int .i64 (stE (sNum, (sShapeBlocks, sShapeSize), sPages, sRows, (sGroupEpoch, sGroupMembers)))) ∧ Below x.W.heap.size x.W w' from fun x => rstate_any (hs0.below x.h))
  have HX := hide hx
  have q0 : (sShapeBlocks == (a.b : Int)) = true := by simpa using hb
  have q : (sShapeSize == (a.z : Int)) = false := by simpa using hz
  clear hx hb hz
  go_enter Tryz.func23, Tryz.ntmps23
  go_wp2_with fail
  rw [Hw0.out]
  refine wp_region_in (fun W => Below w0.heap.size w0 W) (Below.refl _ _).drew (by kernel_rfl) (by kernel_rfl) ?_
  repeat (go_big_quiet_step (first
    | (go_at_call 61; have hh := HS.out; rw [stE_ok HX.out] at hh; exact Calls.in_below (hh _))))
  refine wpQuiet_nil ?_
  intro _ hw'
  obtain ⟨nq, hw''⟩ := hw'
  subst hw''
  have hbq := nq.h
  go_wp2
  go_ret
  exact ⟨rfl, hbw0.trans (hbq.mono hbw0.size)⟩
set_option maxRecDepth 20000 in
set_option maxHeartbeats 6400000 in
theorem rpatch7_badN {Q : Nat → Prop} {x : StateD} {cs9 : List Value} (h : RMIs w lo Y f a NN cb cv n c rows sv cs A G gn gc) (hs : tyState.Is w Q x cs9) (hx : stateB x = true) (hb : x.2.1.1 = a.b) (hz : x.2.1.2 = a.z) (hn : x.1 < a.num) : Calls Tryz.prog 23 #[.pointer (some ⟨f.rb, 0, none⟩), .agg cs9.toArray] w fun e w' => e = .returned (.int .i64 72) ∧ Below w.heap.size w w' := by
  have hs' := hs
  obtain ⟨sNum, sShapeBlocks, sShapeSize, sPages, sPagesA, sPagesn, sPagesc, sPagesv, sRows, sRowsA, sRowsn, sRowsc, sRowsv, sGroupEpoch, sGroupMembers, sGroupMembersA, sGroupMembersn, sGroupMembersc, sGroupMembersv, rfl, rfl, h1_sNum, h2_sNum, h1_sShapeBlocks, h2_sShapeBlocks, h1_sShapeSize, h2_sShapeSize, hl_sPages, hc_sPages, hm_sPages, hr_sPages, hq_sPages, he_sPages, hl_sRows, hc_sRows, hm_sRows, hr_sRows, hq_sRows, he_sRows, h1_sGroupEpoch, h2_sGroupEpoch, hl_sGroupMembers, hc_sGroupMembers, hm_sGroupMembers, hr_sGroupMembers, hq_sGroupMembers, he_sGroupMembers⟩ := State_out hs'
  obtain ⟨w0, hw0⟩ : ∃ x, w.alloc (.cells #[.int .i64 sNum, .int .i64 sShapeBlocks, .int .i64 sShapeSize, .slice sPagesA sPagesn sPagesc, .slice sRowsA sRowsn sRowsc, .int .i64 sGroupEpoch, .slice sGroupMembersA sGroupMembersn sGroupMembersc] 30) = x := ⟨_, rfl⟩; have hBw0 : Blk w0 w.heap.size [.int .i64 sNum, .int .i64 sShapeBlocks, .int .i64 sShapeSize, .slice sPagesA sPagesn sPagesc, .slice sRowsA sRowsn sRowsc, .int .i64 sGroupEpoch, .slice sGroupMembersA sGroupMembersn sGroupMembersc] 30 := (by rw [← hw0]; exact Blk.new w [.int .i64 sNum, .int .i64 sShapeBlocks, .int .i64 sShapeSize, .slice sPagesA sPagesn sPagesc, .slice sRowsA sRowsn sRowsc, .int .i64 sGroupEpoch, .slice sGroupMembersA sGroupMembersn sGroupMembersc] _); have hbw0 : Below w.heap.size w w0 := (by rw [← hw0]; exact (Below.refl _ _).alloc (Nat.le_refl _) _); have Hw0 := hide hw0; clear hw0
  have h0 := h.below hbw0
  have hs0 := hs.below hbw0
  have HM := hide (show ∀ X, Below w0.heap.size w0 X → RMIs X lo Y f a NN cb cv n c rows sv cs A G gn gc from fun X hX => h0.below hX)
  have HBx := hide (show ∀ X, Below w0.heap.size w0 X → Blk X w.heap.size [.int .i64 sNum, .int .i64 sShapeBlocks, .int .i64 sShapeSize, .slice sPagesA sPagesn sPagesc, .slice sRowsA sRowsn sRowsc, .int .i64 sGroupEpoch, .slice sGroupMembersA sGroupMembersn sGroupMembersc] 30 from fun X hX => hBw0.below hX)
  have y0 : ∀ x : InC (fun W => Below w0.heap.size w0 W), x.W.cell? ⟨w.heap.size, 0, none⟩ = some (.int .i64 sNum) := fun x => (HBx.out x.W x.h).cell (j := 0) rfl
  have y1 : ∀ x : InC (fun W => Below w0.heap.size w0 W), x.W.cell? ⟨w.heap.size, 1, none⟩ = some (.int .i64 sShapeBlocks) := fun x => (HBx.out x.W x.h).cell (j := 1) rfl
  have y2 : ∀ x : InC (fun W => Below w0.heap.size w0 W), x.W.cell? ⟨w.heap.size, 2, none⟩ = some (.int .i64 sShapeSize) := fun x => (HBx.out x.W x.h).cell (j := 2) rfl
  have y3 : ∀ x : InC (fun W => Below w0.heap.size w0 W), x.W.cell? ⟨w.heap.size, 3, none⟩ = some (.slice sPagesA sPagesn sPagesc) := fun x => (HBx.out x.W x.h).cell (j := 3) rfl
  have y4 : ∀ x : InC (fun W => Below w0.heap.size w0 W), x.W.cell? ⟨w.heap.size, 4, none⟩ = some (.slice sRowsA sRowsn sRowsc) := fun x => (HBx.out x.W x.h).cell (j := 4) rfl
  have y5 : ∀ x : InC (fun W => Below w0.heap.size w0 W), x.W.cell? ⟨w.heap.size, 5, none⟩ = some (.int .i64 sGroupEpoch) := fun x => (HBx.out x.W x.h).cell (j := 5) rfl
  have y6 : ∀ x : InC (fun W => Below w0.heap.size w0 W), x.W.cell? ⟨w.heap.size, 6, none⟩ = some (.slice sGroupMembersA sGroupMembersn sGroupMembersc) := fun x => (HBx.out x.W x.h).cell (j := 6) rfl
  have x0 : ∀ x : InC (fun W => Below w0.heap.size w0 W), x.W.cell? ⟨f.rb, 0, none⟩ = some (.int .i64 a.num) := fun x => (HM.out x.W x.h).blk.cell (j := 0) rfl
  have x1 : ∀ x : InC (fun W => Below w0.heap.size w0 W), x.W.cell? ⟨f.rb, 1, none⟩ = some (.pointer (some ⟨f.rv, 0, none⟩)) := fun x => (HM.out x.W x.h).blk.cell (j := 1) rfl
  have v0 : ∀ x : InC (fun W => Below w0.heap.size w0 W), x.W.cell? ⟨f.rv, 0, none⟩ = some (.int .i64 a.b) := fun x => (HM.out x.W x.h).vol.blk.cell (j := 0) rfl
  have v1 : ∀ x : InC (fun W => Below w0.heap.size w0 W), x.W.cell? ⟨f.rv, 1, none⟩ = some (.int .i64 a.z) := fun x => (HM.out x.W x.h).vol.blk.cell (j := 1) rfl
  have HS := hide (show ∀ x : InC (fun W => Below w0.heap.size w0 W), Calls Tryz.prog 61 #[.agg #[.int .i64 sNum, .int .i64 sShapeBlocks, .int .i64 sShapeSize, .slice sPagesA sPagesn sPagesc, .slice sRowsA sRowsn sRowsc, .int .i64 sGroupEpoch, .slice sGroupMembersA sGroupMembersn sGroupMembersc]] x.W fun e w' => e = .returned (.int .i64 (stE (sNum, (sShapeBlocks, sShapeSize), sPages, sRows, (sGroupEpoch, sGroupMembers)))) ∧ Below x.W.heap.size x.W w' from fun x => rstate_any (hs0.below x.h))
  have HX := hide hx
  have q0 : (sShapeBlocks == (a.b : Int)) = true := by simpa using hb
  have q : (sShapeSize == (a.z : Int)) = true := by simpa using hz
  have q2 : decide (sNum < a.num) = true := decide_eq_true hn
  clear hx hb hz hn
  go_enter Tryz.func23, Tryz.ntmps23
  go_wp2_with fail
  rw [Hw0.out]
  refine wp_region_in (fun W => Below w0.heap.size w0 W) (Below.refl _ _).drew (by kernel_rfl) (by kernel_rfl) ?_
  repeat (go_big_quiet_step (first
    | (go_at_call 61; have hh := HS.out; rw [stE_ok HX.out] at hh; exact Calls.in_below (hh _))))
  refine wpQuiet_nil ?_
  intro _ hw'
  obtain ⟨nq, hw''⟩ := hw'
  subst hw''
  have hbq := nq.h
  go_wp2
  go_ret
  exact ⟨rfl, hbw0.trans (hbq.mono hbw0.size)⟩
set_option maxRecDepth 20000 in
set_option maxHeartbeats 6400000 in
theorem rpatch7_ok {Q : Nat → Prop} {x : StateD} {cs9 : List Value} (h : RMIs w lo Y f a NN cb cv n c rows sv cs A G gn gc) (hs : tyState.Is w Q x cs9) (hx : a.patchB x = true) (hQ : ∀ b, Q b → ¬ Y b ∧ ¬ f.W b) (hY : ∀ b, Y b → b < w.heap.size) : Calls Tryz.prog 23 #[.pointer (some ⟨f.rb, 0, none⟩), .agg cs9.toArray] w fun e w' => e = .returned (.int .i64 0) ∧ (∃ f' : RFp, f'.rb = f.rb ∧ f'.rv = f.rv ∧ f'.gb = f.gb ∧ f'.gv = f.gv ∧ RMX w' lo Y f' (a.patch x) ∧ w.heap.size ≤ f'.rt) ∧ Fr f.W w w' := by
  have hs' := hs.here
  obtain ⟨sNum, sShapeBlocks, sShapeSize, sPages, sPagesA, sPagesn, sPagesc, sPagesv, sRows, sRowsA, sRowsn, sRowsc, sRowsv, sGroupEpoch, sGroupMembers, sGroupMembersA, sGroupMembersn, sGroupMembersc, sGroupMembersv, rfl, rfl, h1_sNum, h2_sNum, h1_sShapeBlocks, h2_sShapeBlocks, h1_sShapeSize, h2_sShapeSize, hl_sPages, hc_sPages, hm_sPages, hr_sPages, hq_sPages, he_sPages, hl_sRows, hc_sRows, hm_sRows, hr_sRows, hq_sRows, he_sRows, h1_sGroupEpoch, h2_sGroupEpoch, hl_sGroupMembers, hc_sGroupMembers, hm_sGroupMembers, hr_sGroupMembers, hq_sGroupMembers, he_sGroupMembers⟩ := State_out hs'
  obtain ⟨w0, hw0⟩ : ∃ x, w.alloc (.cells #[.int .i64 sNum, .int .i64 sShapeBlocks, .int .i64 sShapeSize, .slice sPagesA sPagesn sPagesc, .slice sRowsA sRowsn sRowsc, .int .i64 sGroupEpoch, .slice sGroupMembersA sGroupMembersn sGroupMembersc] 30) = x := ⟨_, rfl⟩; have hBw0 : Blk w0 w.heap.size [.int .i64 sNum, .int .i64 sShapeBlocks, .int .i64 sShapeSize, .slice sPagesA sPagesn sPagesc, .slice sRowsA sRowsn sRowsc, .int .i64 sGroupEpoch, .slice sGroupMembersA sGroupMembersn sGroupMembersc] 30 := (by rw [← hw0]; exact Blk.new w [.int .i64 sNum, .int .i64 sShapeBlocks, .int .i64 sShapeSize, .slice sPagesA sPagesn sPagesc, .slice sRowsA sRowsn sRowsc, .int .i64 sGroupEpoch, .slice sGroupMembersA sGroupMembersn sGroupMembersc] _); have hbw0 : Below w.heap.size w w0 := (by rw [← hw0]; exact (Below.refl _ _).alloc (Nat.le_refl _) _); have Hw0 := hide hw0; clear hw0
  have h0 := h.below hbw0
  have hs0 := hs.below hbw0
  have HM := hide (show ∀ X, Below w0.heap.size w0 X → RMIs X lo Y f a NN cb cv n c rows sv cs A G gn gc from fun X hX => h0.below hX)
  have HBx := hide (show ∀ X, Below w0.heap.size w0 X → Blk X w.heap.size [.int .i64 sNum, .int .i64 sShapeBlocks, .int .i64 sShapeSize, .slice sPagesA sPagesn sPagesc, .slice sRowsA sRowsn sRowsc, .int .i64 sGroupEpoch, .slice sGroupMembersA sGroupMembersn sGroupMembersc] 30 from fun X hX => hBw0.below hX)
  unfold MA.patchB at hx
  simp only [Bool.and_eq_true, decide_eq_true_eq, Bool.not_eq_true', decide_eq_false_iff_not] at hx
  obtain ⟨hx, ⟨hb, hz⟩, hn⟩ := hx
  obtain ⟨x1, x2, x3, x4', x5, x6⟩ := stateB_out hx
  simp only at x1 x2 x3 x4' x5 x6
  have hE := rw_of he_sRows
  obtain ⟨hmi, _⟩ := i64rows he_sGroupMembers
  subst hmi
  have gl := grp_len x5
  have HlP := hide hl_sPages
  have HlE := hide hl_sRows
  have HlM := hide hl_sGroupMembers
  have HqM := hide hq_sGroupMembers
  have hgn : sGroupMembersn ≤ 9 := by rw [← HlM.out]; exact gl.2
  have hgp : 1 ≤ sGroupMembersn := by rw [← HlM.out]; exact gl.1
  rw [hb, hz] at x3
  have hP := pgq_of he_sPages (good_of_mpA (by omega) x3) h.vol.hz.1
  have X3 := hide x3
  have X4 := hide x4'
  have X5 := hide x5
  have HX := hide hx
  have HPx := hide (show (∀ b, (Q b ∧ b < w.heap.size) → b ≠ f.rv ∧ b ≠ f.gb ∧ b ≠ f.gv) from fun b hb => ⟨fun e => (hQ b hb.1).2 (.inr (.inl e)), fun e => (hQ b hb.1).2 (.inr (.inr (.inl e))), fun e => (hQ b hb.1).2 (.inr (.inr (.inr (.inl e))))⟩)
  have q0 : (sShapeBlocks == (a.b : Int)) = true := by simpa using hb
  have q : (sShapeSize == (a.z : Int)) = true := by simpa using hz
  have q2 : decide (sNum < a.num) = false := decide_eq_false hn
  clear hx hb hz hn hl_sPages hl_sRows hl_sGroupMembers hq_sGroupMembers x1 x2 x3 x4' x5 x6
  have y0 : ∀ x : InC (fun W => Below w0.heap.size w0 W), x.W.cell? ⟨w.heap.size, 0, none⟩ = some (.int .i64 sNum) := fun x => (HBx.out x.W x.h).cell (j := 0) rfl
  have y1 : ∀ x : InC (fun W => Below w0.heap.size w0 W), x.W.cell? ⟨w.heap.size, 1, none⟩ = some (.int .i64 sShapeBlocks) := fun x => (HBx.out x.W x.h).cell (j := 1) rfl
  have y2 : ∀ x : InC (fun W => Below w0.heap.size w0 W), x.W.cell? ⟨w.heap.size, 2, none⟩ = some (.int .i64 sShapeSize) := fun x => (HBx.out x.W x.h).cell (j := 2) rfl
  have y3 : ∀ x : InC (fun W => Below w0.heap.size w0 W), x.W.cell? ⟨w.heap.size, 3, none⟩ = some (.slice sPagesA sPagesn sPagesc) := fun x => (HBx.out x.W x.h).cell (j := 3) rfl
  have y4 : ∀ x : InC (fun W => Below w0.heap.size w0 W), x.W.cell? ⟨w.heap.size, 4, none⟩ = some (.slice sRowsA sRowsn sRowsc) := fun x => (HBx.out x.W x.h).cell (j := 4) rfl
  have y5 : ∀ x : InC (fun W => Below w0.heap.size w0 W), x.W.cell? ⟨w.heap.size, 5, none⟩ = some (.int .i64 sGroupEpoch) := fun x => (HBx.out x.W x.h).cell (j := 5) rfl
  have y6 : ∀ x : InC (fun W => Below w0.heap.size w0 W), x.W.cell? ⟨w.heap.size, 6, none⟩ = some (.slice sGroupMembersA sGroupMembersn sGroupMembersc) := fun x => (HBx.out x.W x.h).cell (j := 6) rfl
  have x0 : ∀ x : InC (fun W => Below w0.heap.size w0 W), x.W.cell? ⟨f.rb, 0, none⟩ = some (.int .i64 a.num) := fun x => (HM.out x.W x.h).blk.cell (j := 0) rfl
  have x1 : ∀ x : InC (fun W => Below w0.heap.size w0 W), x.W.cell? ⟨f.rb, 1, none⟩ = some (.pointer (some ⟨f.rv, 0, none⟩)) := fun x => (HM.out x.W x.h).blk.cell (j := 1) rfl
  have v0 : ∀ x : InC (fun W => Below w0.heap.size w0 W), x.W.cell? ⟨f.rv, 0, none⟩ = some (.int .i64 a.b) := fun x => (HM.out x.W x.h).vol.blk.cell (j := 0) rfl
  have v1 : ∀ x : InC (fun W => Below w0.heap.size w0 W), x.W.cell? ⟨f.rv, 1, none⟩ = some (.int .i64 a.z) := fun x => (HM.out x.W x.h).vol.blk.cell (j := 1) rfl
  have HS := hide (show ∀ x : InC (fun W => Below w0.heap.size w0 W), Calls Tryz.prog 61 #[.agg #[.int .i64 sNum, .int .i64 sShapeBlocks, .int .i64 sShapeSize, .slice sPagesA sPagesn sPagesc, .slice sRowsA sRowsn sRowsc, .int .i64 sGroupEpoch, .slice sGroupMembersA sGroupMembersn sGroupMembersc]] x.W fun e w' => e = .returned (.int .i64 (stE (sNum, (sShapeBlocks, sShapeSize), sPages, sRows, (sGroupEpoch, sGroupMembers)))) ∧ Below x.W.heap.size x.W w' from fun x => rstate_any (hs0.below x.h))
  go_enter Tryz.func23, Tryz.ntmps23
  go_wp2_with fail
  rw [Hw0.out]
  refine wp_region_in (fun W => Below w0.heap.size w0 W) (Below.refl _ _).drew (by kernel_rfl) (by kernel_rfl) ?_
  repeat (go_big_quiet_step (first
    | (go_at_call 61; have hh := HS.out; rw [stE_ok HX.out] at hh; exact Calls.in_below (hh _))))
  refine wpQuiet_nil ?_
  intro _ hw'
  obtain ⟨nq, hw''⟩ := hw'
  subst hw''
  have hbq := nq.h
  have hMq := HM.out _ hbq
  have hBq := HBx.out _ hbq
  have hwq : Below w.heap.size w nq.W := hbw0.trans (hbq.mono hbw0.size)
  obtain ⟨w2, hw2⟩ : ∃ y, nq.W = y := ⟨_, rfl⟩
  rw [hw2] at hMq hBq hwq ⊢
  clear x0 x1 v0 v1 y0 y1 y2 y3 y4 y5 y6 hw2 hbq h0 hs0 HM HBx HS
  have hPw := hP.below hwq
  have hrPw := hr_sPages.below hwq
  have HPt := hide (show ∀ X, Below w2.heap.size w2 X → Calls Tryz.prog 62 #[.pointer (some ⟨f.rv, 0, none⟩), .slice sPagesA sPagesn sPagesc] X fun e w' => e = .returned (.int .i64 0) ∧ (∃ rows', RVolIs w' lo f.rv f.gb f.gv cb cv a.b a.z NN rows' sv (layB a.z a.bs sPages) (layV a.vs sPages) (layL a.last sPages) ∧ RowsNew a.b a.z X.heap.size rows rows') ∧ Upd f.rv f.gb f.gv X w' from fun X hX => rpatch_okN X _ _ _ _ _ _ _ _ _ _ _ _ _ _ sPagesA sPagesn sPagesc sPagesv sPages (hMq.below hX).vol HlP.out hc_sPages hm_sPages (hrPw.below hX) (fun hne x hx => HPx.out _ (hq_sPages hne x hx)) ((hPw.below hX).keep (fun _ _ h _ => h) HPx.out) X3.out)
  have hlts := hMq.lts
  have l1 := h.lts
  have m1 := l1 _ (.inl rfl)
  have m2 := l1 _ (.inr (.inl rfl))
  have m3 := l1 _ (.inr (.inr (.inl rfl)))
  have m4 := l1 _ (.inr (.inr (.inr (.inl rfl))))
  have m5 := l1 _ (.inr (.inr (.inr (.inr rfl))))
  obtain ⟨n1, n2, n3, n4, n5, n6, n7⟩ := h.ne
  have KC := hide (show ∀ X, Fr (fun b => b = f.rv ∨ b = f.gb ∨ b = f.gv) w2 X → (X.cell? ⟨f.rb, 1, none⟩ = some (.pointer (some ⟨f.rv, 0, none⟩)) ∧ X.cell? ⟨w.heap.size, 3, none⟩ = some (.slice sPagesA sPagesn sPagesc)) from fun X hF => ⟨(hMq.blk.fr hF (by omega)).cell (j := 1) rfl, (hBq.fr hF (by omega)).cell (j := 3) rfl⟩)
  have S0 := KC.out w2.drew (Fr.refl _ _).drew
  go_wp2_with fail
  go_region_held_law (fun X => X.cell? ⟨f.rb, 1, none⟩ = some (.pointer (some ⟨f.rv, 0, none⟩)) ∧ X.cell? ⟨w.heap.size, 3, none⟩ = some (.slice sPagesA sPagesn sPagesc)) (first | with_reducible assumption) (first
    | (go_at_call 62; refine (HPt.out _ (Below.refl _ _).drew).mono ?_; rintro xx w3 ⟨rfl, ⟨rows3, hv3, hn3⟩, hu3⟩; have S3 := KC.out _ ((Fr.refl _ w2).drew.trans (Fr.of_upd hu3 (.inl rfl) (.inr (.inl rfl)) (.inr (.inr rfl))))))
  all_goals
    have hF3 : Fr (fun b => b = f.rv ∨ b = f.gb ∨ b = f.gv) w2 w3 := (Fr.refl _ w2).drew.trans (Fr.of_upd hu3 (.inl rfl) (.inr (.inl rfl)) (.inr (.inr rfl)))
    have s2 := hwq.size
    have hM3 := (hMq.below (Below.refl _ _).drew).revol hu3 hv3 hn3 (fun b hb => by have := hY b hb; have e0 : w2.drew.heap.size = w2.heap.size := rfl; omega)
    have hB3 := hBq.fr hF3 (by omega)
    have F03 : Fr f.W w w3 := (Fr.of_below hwq).trans (hF3.mono fun b hb => by rcases hb with hb | hb | hb; exact .inr (.inl hb); exact .inr (.inr (.inl hb)); exact .inr (.inr (.inr (.inl hb))))
    have hQ' : ∀ b, (Q b ∧ b < w.heap.size) → ¬ f.W b := fun b hb => (hQ b hb.1).2
    have hE3 := hE.fr7 F03 hQ'
    have hrE3 := hr_sRows.fr F03 (fun hne x hx hW => hQ' _ (hq_sRows (fun e0 => hne (List.eq_nil_of_length_eq_zero (by rw [hE.1, e0]; rfl))) x hx) hW)
    have hrM3 := hr_sGroupMembers.fr F03 (fun hne x hx hW => hQ' _ (HqM.out (fun e0 => hne (by rw [e0]; rfl)) x hx) hW)
    clear S3 S0
    have y4 := hB3.cell (j := 4) rfl
    have s3 := F03.size
    have l3 := hM3.lts
    go_wp2_with fail
    go_fit (trload_at sRowsA sRowsn sRowsc sRowsv sRows _ w3 HlE.out hrE3 hE3 X4.out)
    rintro xx w4 ⟨rt, A', c', rfl, hT4, hrt, hA', hb4⟩
    have hM4 := hM3.below hb4
    have hB4 := hB3.below hb4
    have hrM4 := hrM3.below hb4
    have hE4 := hE3.below hb4
    have tl4 := hT4.blk.lt
    have s4 := hb4.size
    have xf2 := hM4.blk.frozen 2
    have xx2 := hM4.blk.cell (j := 2) rfl
    obtain ⟨w5, hw5⟩ : ∃ y, w4.setCell ⟨f.rb, 2, none⟩ (.pointer (some ⟨rt, 0, none⟩)) = y := ⟨_, rfl⟩
    have F5 : Fr (fun b => b = f.rb) w4 w5 := by rw [← hw5]; exact Fr.setg w4 f.rb 2 _
    have hK5 : Blk w5 f.rb [.int .i64 a.num, .pointer (some ⟨f.rv, 0, none⟩), .pointer (some ⟨rt, 0, none⟩), .int .i64 a.ep, .slice G gn gc] 56 := by rw [← hw5]; exact hM4.blk.set 2 _
    have hB5 := hB4.fr F5 (by omega)
    have s5 := F5.size
    have Hw5 := hide hw5
    have HK5 := hide hK5
    have HB5 := hide hB5
    have HF5 := hide F5
    have hgb : w.heap.size ≠ f.rb := by omega
    clear hw5 y4 hK5 hB5 F5
    go_wp2_with fail
    rw [Hw5.out]
    clear xf2 xx2
    obtain ⟨wd, hwd⟩ : ∃ y, w5.drew = y := ⟨_, rfl⟩
    have F6 : Fr (fun b => b = f.rb) w4 wd := by rw [← hwd]; exact HF5.out.drew
    have hKd : Blk wd f.rb [.int .i64 a.num, .pointer (some ⟨f.rv, 0, none⟩), .pointer (some ⟨rt, 0, none⟩), .int .i64 a.ep, .slice G gn gc] 56 := by rw [← hwd]; exact HK5.out
    have hBd : Blk wd w.heap.size [.int .i64 sNum, .int .i64 sShapeBlocks, .int .i64 sShapeSize, .slice sPagesA sPagesn sPagesc, .slice sRowsA sRowsn sRowsc, .int .i64 sGroupEpoch, .slice sGroupMembersA sGroupMembersn sGroupMembersc] 30 := by rw [← hwd]; exact HB5.out
    rw [← hwd] at hKd hBd
    have Hwd := hide hwd
    clear hwd
    have y0 := hBd.cell (j := 0) rfl
    have y5 := hBd.cell (j := 5) rfl
    have y6 := hBd.cell (j := 6) rfl
    have xf0 := hKd.frozen 0
    have xf3 := hKd.frozen 3
    have xf4 := hKd.frozen 4
    have xx0 := hKd.cell (j := 0) rfl
    have xx3 := hKd.cell (j := 3) rfl
    have xx4 := hKd.cell (j := 4) rfl
    have xg0 := HK5.out.frozen 0
    have xg3 := HK5.out.frozen 3
    have xg4 := HK5.out.frozen 4
    have xy0 := HK5.out.cell (j := 0) rfl
    have xy3 := HK5.out.cell (j := 3) rfl
    have xy4 := HK5.out.cell (j := 4) rfl
    have yz0 := HB5.out.cell (j := 0) rfl
    have yz5 := HB5.out.cell (j := 5) rfl
    have yz6 := HB5.out.cell (j := 6) rfl
    go_region
    all_goals
      obtain ⟨w7, hw7⟩ : ∃ y, (((w5.setCell ⟨f.rb, 0, none⟩ (.int .i64 sNum)).setCell ⟨f.rb, 3, none⟩ (.int .i64 sGroupEpoch)).setCell ⟨f.rb, 4, none⟩ (.slice sGroupMembersA sGroupMembersn sGroupMembersc)).drew = y := ⟨_, rfl⟩
      have hK7 : Blk w7 f.rb [.int .i64 sNum, .pointer (some ⟨f.rv, 0, none⟩), .pointer (some ⟨rt, 0, none⟩), .int .i64 sGroupEpoch, .slice sGroupMembersA sGroupMembersn sGroupMembersc] 56 := by
        rw [← hw7]
        exact ((HK5.out.set 0 (.int .i64 sNum)).set 3 (.int .i64 sGroupEpoch)).set 4 (.slice sGroupMembersA sGroupMembersn sGroupMembersc)
      have F7 : Fr (fun b => b = f.rb) w4 w7 := by
        rw [← hw7]
        exact (((HF5.out.trans (Fr.setg _ f.rb 0 _)).trans (Fr.setg _ f.rb 3 _)).trans (Fr.setg _ f.rb 4 _)).drew
      rw [hw7]
      clear hw7 y0 y5 y6 xf0 xf3 xf4 xx0 xx3 xx4 xg0 xg3 xg4 xy0 xy3 xy4 yz0 yz5 yz6
      have FW : Fr f.W w w7 := (F03.trans (Fr.of_below hb4)).trans (F7.mono fun b hb => .inl hb)
      have q1 : ∀ b, (Q b ∧ b < w.heap.size) → ¬ Y b ∧ ¬ ({ f with rt := rt } : RFp).W b := fun b hb => ⟨(hQ b hb.1).1, fun hW => by
        rcases hW with e | e | e | e | e
        · exact (hQ b hb.1).2 (.inl e)
        · exact (hQ b hb.1).2 (.inr (.inl e))
        · exact (hQ b hb.1).2 (.inr (.inr (.inl e)))
        · exact (hQ b hb.1).2 (.inr (.inr (.inr (.inl e))))
        · have e2 : b = rt := e
          have := hb.2
          omega⟩
      have haq : sRows ≠ [] → ∀ x, A' = some x → ¬ Y x.block ∧ ¬ ({ f with rt := rt } : RFp).W x.block := by
        intro hne x hx
        have h1 := hA' x hx
        obtain ⟨e0, er, he⟩ := List.exists_cons_of_ne_nil hne
        obtain ⟨D, d, dc, k0, _⟩ := hT4.rows.2 0 e0 (by rw [he]; rfl)
        refine ⟨fun hy => by have := hY _ hy; omega, ?_⟩
        rintro (h | h | h | h | h) <;> simp only at h
        · omega
        · omega
        · omega
        · omega
        · exact rd_sepV hT4.blk hT4.rd (k := .i64) k0 x hx h
      obtain ⟨t1, t2⟩ := hT4.fr (hE4.keep (fun _ _ h _ => h) q1) haq F7 (by omega) (fun b hb _ hq => hq.2 (.inl hb))
      have hV7 := hM4.vol.fr1 F7 ⟨n1, n2, n3⟩ hM4.blk (by intro u hu y; simp at hu; rcases hu with rfl | rfl | rfl | rfl | rfl <;> simp)
      have hR7 := hrM4.fr F7 (fun _ x hx e => (q1 _ (HqM.out (fun e0 => by have := HlM.out; rw [e0] at this; simp at this; omega) x hx)).2 (.inl e))
      obtain ⟨yA1, yA2, yA3, yA4, yA5⟩ := h.yA
      obtain ⟨lo1, lo2⟩ := h.lo2
      have HR : RMIs w7 lo Y { f with rt := rt } (a.patch (sNum, (sShapeBlocks, sShapeSize), sPages, sRows, (sGroupEpoch, sGroupMembers))) NN cb cv sRowsn c' rows3 sv sRowsv A' sGroupMembersA sGroupMembersn sGroupMembersc :=
        { blk := hK7, vol := hV7, tab := t1, rq := t2, aq := haq, gr := hR7, gl := HlM.out, gc_ := ⟨hc_sGroupMembers, hm_sGroupMembers⟩, ok := X5.out
          gq := fun x hx => q1 _ (HqM.out (fun e0 => by have := HlM.out; rw [e0] at this; simp at this; omega) x hx)
          vq := hM4.vq
          yA := ⟨yA1, yA2, yA3, yA4, fun hy => by have := hY _ hy; simp only at this; omega⟩
          lo2 := ⟨lo1, by show lo ≤ rt; omega⟩
          ne := by simp only; omega }
      have HRR := hide HR
      have HFW := hide FW
      clear HR FW F7 t1 t2 hV7 hR7 hK7 haq q1 hM4 hT4
      go_wp2
      go_ret
      exact ⟨rfl, ⟨{ f with rt := rt }, rfl, rfl, rfl, rfl, ⟨_, _, _, _, _, _, _, _, _, _, _, _, HRR.out⟩, by show w.heap.size ≤ rt; omega⟩, HFW.out⟩
/-- What the document's Patch leaves. -/
def RPatchM (lo : Nat) (Y : Nat → Prop) (f : RFp) (a : MA) (x : StateD) (w : World) (e : Ending) (w' : World) : Prop :=
  if a.patchB x = true then e = .returned (.int .i64 0) ∧ (∃ f' : RFp, f'.rb = f.rb ∧ f'.rv = f.rv ∧ f'.gb = f.gb ∧ f'.gv = f.gv ∧ RMX w' lo Y f' (a.patch x) ∧ w.heap.size ≤ f'.rt) ∧ Fr f.W w w'
  else e = .returned (.int .i64 72) ∧ Below w.heap.size w w'
/-- What a machine's Patch leaves. -/
def PatchM (L : Nat) (Y : Nat → Prop) (f : MFp) (a : MA) (x : StateD) (w : World) (e : Ending) (w' : World) : Prop :=
  if a.patchB x = true then e = .returned (.int .i64 0) ∧ (∃ f' : MFp, f'.mb = f.mb ∧ f'.v = f.v ∧ f'.r = f.r ∧ f'.s = f.s ∧ MX w' L Y f' (a.patch x) 64 ∧ (f'.bm = f.bm ∨ w.heap.size ≤ f'.bm)) ∧ Fr f.W w w'
  else e = .returned (.int .i64 72) ∧ Below w.heap.size w w'
theorem patchB_no {x : StateD} (h : ¬ a.patchB x = true) (h1 : stateB x = true) (h2 : x.2.1.1 = a.b) (h3 : x.2.1.2 = a.z) : x.1 < a.num := by
  refine Classical.byContradiction fun h4 => h ?_
  unfold MA.patchB
  rw [h1, decide_eq_true h2, decide_eq_true h3, decide_eq_false h4]; rfl
theorem rpatch7_any {Q : Nat → Prop} {x : StateD} {cs9 : List Value} (h : RMX w lo Y f a) (hs : tyState.Is w Q x cs9) (hQ : ∀ b, Q b → ¬ Y b ∧ ¬ f.W b) (hY : ∀ b, Y b → b < w.heap.size) : Calls Tryz.prog 23 #[.pointer (some ⟨f.rb, 0, none⟩), .agg cs9.toArray] w (RPatchM lo Y f a x w) := by
  obtain ⟨NN, cb, cv, n, c, rows, sv, cs, A, G, gn, gc, h⟩ := h
  unfold RPatchM
  by_cases hp : a.patchB x = true
  · simp only [if_pos hp]; exact rpatch7_ok h hs hp hQ hY
  · simp only [if_neg hp]
    cases h1 : stateB x with
    | false => exact rpatch7_badS h hs h1
    | true =>
      by_cases h2 : x.2.1.1 = a.b
      · by_cases h3 : x.2.1.2 = a.z
        · exact rpatch7_badN h hs h1 h2 h3 (patchB_no hp h1 h2 h3)
        · exact rpatch7_badZ h hs h1 h2 h3
      · exact rpatch7_badB h hs h1 h2
theorem patch7_any {L N : Nat} {f : MFp} {Q : Nat → Prop} {x : StateD} {cs9 : List Value} (h : MX w L Y f a N) (hs : tyState.Is w Q x cs9) (hQ : ∀ b, Q b → ¬ f.W b) (hY : ∀ b, Y b → b < w.heap.size) : Calls Tryz.prog 22 #[.pointer (some ⟨f.mb, 0, none⟩), .agg cs9.toArray] w (PatchM L Y f a x w) := by
  obtain ⟨NN, B, D, G, gn, gc, h⟩ := h
  unfold PatchM
  by_cases hp : a.patchB x = true
  · simp only [if_pos hp]; exact patch7_ok h hs hp hQ hY
  · simp only [if_neg hp]
    cases h1 : stateB x with
    | false => exact patch7_badS h hs h1
    | true =>
      by_cases h2 : x.2.1.1 = a.b
      · by_cases h3 : x.2.1.2 = a.z
        · exact patch7_badN h hs h1 h2 h3 (patchB_no hp h1 h2 h3)
        · exact patch7_badZ h hs h1 h2 h3
      · exact patch7_badB h hs h1 h2
end
end Go.Proofs.YtkknkdjdneldlaaGreat
namespace Go.Proofs.YtkknkdjdneldlaaGreat
set_option maxRecDepth 20000
open Go.RowKit Go.Px Go.Maps
set_option linter.unusedVariables false
theorem eqG_self (e : Int) (xs : List Int) : eqG e xs e xs = true := by
  unfold eqG eqB; simp
theorem sameB_self (es : List RowT) : sameB es es = true := by unfold sameB; simp
set_option maxRecDepth 20000 in
set_option maxHeartbeats 3200000 in
theorem sameSt_any {w : World} {Q Q' : Nat → Prop} {x y : StateD} {cs ds : List Value} (h : tyState.Is w Q x cs) (h' : tyState.Is w Q' y ds) (hxy : y = x) : Calls Tryz.prog 16 #[.agg cs.toArray, .agg ds.toArray] w fun e w' => e = .returned (.bool true) ∧ Below w.heap.size w w' := by
  obtain ⟨sNum, sShapeBlocks, sShapeSize, sPages, sPagesA, sPagesn, sPagesc, sPagesv, sRows, sRowsA, sRowsn, sRowsc, sRowsv, sGroupEpoch, sGroupMembers, sGroupMembersA, sGroupMembersn, sGroupMembersc, sGroupMembersv, rfl, rfl, h1_sNum, h2_sNum, h1_sShapeBlocks, h2_sShapeBlocks, h1_sShapeSize, h2_sShapeSize, hl_sPages, hc_sPages, hm_sPages, hr_sPages, hq_sPages, he_sPages, hl_sRows, hc_sRows, hm_sRows, hr_sRows, hq_sRows, he_sRows, h1_sGroupEpoch, h2_sGroupEpoch, hl_sGroupMembers, hc_sGroupMembers, hm_sGroupMembers, hr_sGroupMembers, hq_sGroupMembers, he_sGroupMembers⟩ := State_out h
  obtain ⟨tNum, tShapeBlocks, tShapeSize, tPages, tPagesA, tPagesn, tPagesc, tPagesv, tRows, tRowsA, tRowsn, tRowsc, tRowsv, tGroupEpoch, tGroupMembers, tGroupMembersA, tGroupMembersn, tGroupMembersc, tGroupMembersv, rfl, rfl, h1_tNum, h2_tNum, h1_tShapeBlocks, h2_tShapeBlocks, h1_tShapeSize, h2_tShapeSize, hl_tPages, hc_tPages, hm_tPages, hr_tPages, hq_tPages, he_tPages, hl_tRows, hc_tRows, hm_tRows, hr_tRows, hq_tRows, he_tRows, h1_tGroupEpoch, h2_tGroupEpoch, hl_tGroupMembers, hc_tGroupMembers, hm_tGroupMembers, hr_tGroupMembers, hq_tGroupMembers, he_tGroupMembers⟩ := State_out h'
  have hxy := hxy.symm
  simp only [Prod.mk.injEq] at hxy
  obtain ⟨rfl, ⟨rfl, rfl⟩, rfl, rfl, rfl, rfl⟩ := hxy
  have hP := pg_of he_sPages
  have hP' := pg_of he_tPages
  have hE := rw_of he_sRows
  have hE' := rw_of he_tRows
  obtain ⟨hmi, _⟩ := i64rows he_sGroupMembers
  subst hmi
  obtain ⟨hmi', _⟩ := i64rows he_tGroupMembers
  subst hmi'
  obtain rfl : sPagesn = tPagesn := hl_sPages.symm.trans hl_tPages
  obtain ⟨g, hg⟩ : ∃ g, w.heap.size = g := ⟨_, rfl⟩
  obtain ⟨w0, hw0⟩ : ∃ x, (w.alloc (.cells #[.int .i64 sNum, .int .i64 sShapeBlocks, .int .i64 sShapeSize, .slice sPagesA sPagesn sPagesc, .slice sRowsA sRowsn sRowsc, .int .i64 sGroupEpoch, .slice sGroupMembersA sGroupMembersn sGroupMembersc] 30)).alloc (.cells #[.int .i64 sNum, .int .i64 sShapeBlocks, .int .i64 sShapeSize, .slice tPagesA sPagesn tPagesc, .slice tRowsA tRowsn tRowsc, .int .i64 sGroupEpoch, .slice tGroupMembersA tGroupMembersn tGroupMembersc] 30) = x := ⟨_, rfl⟩
  have hS : Blk w0 g [.int .i64 sNum, .int .i64 sShapeBlocks, .int .i64 sShapeSize, .slice sPagesA sPagesn sPagesc, .slice sRowsA sRowsn sRowsc, .int .i64 sGroupEpoch, .slice sGroupMembersA sGroupMembersn sGroupMembersc] 30 := by rw [← hw0, ← hg]; exact (Blk.new w [.int .i64 sNum, .int .i64 sShapeBlocks, .int .i64 sShapeSize, .slice sPagesA sPagesn sPagesc, .slice sRowsA sRowsn sRowsc, .int .i64 sGroupEpoch, .slice sGroupMembersA sGroupMembersn sGroupMembersc] _).alloc _
  have hT : Blk w0 (g + 1) [.int .i64 sNum, .int .i64 sShapeBlocks, .int .i64 sShapeSize, .slice tPagesA sPagesn tPagesc, .slice tRowsA tRowsn tRowsc, .int .i64 sGroupEpoch, .slice tGroupMembersA tGroupMembersn tGroupMembersc] 30 := by
    rw [← hw0, ← hg]
    have := Blk.new (w.alloc (.cells #[.int .i64 sNum, .int .i64 sShapeBlocks, .int .i64 sShapeSize, .slice sPagesA sPagesn sPagesc, .slice sRowsA sRowsn sRowsc, .int .i64 sGroupEpoch, .slice sGroupMembersA sGroupMembersn sGroupMembersc] 30)) [.int .i64 sNum, .int .i64 sShapeBlocks, .int .i64 sShapeSize, .slice tPagesA sPagesn tPagesc, .slice tRowsA tRowsn tRowsc, .int .i64 sGroupEpoch, .slice tGroupMembersA tGroupMembersn tGroupMembersc] 30
    rwa [World.size_alloc] at this
  have hb0 : Below w.heap.size w w0 := by rw [← hw0]; exact ((Below.refl _ _).alloc (Nat.le_refl _) _).alloc (by simp) _
  have Hw0 := hide hw0
  have HlP := hide hl_sPages
  have HlR := hide hl_sRows
  have HlR' := hide hl_tRows
  have HlM := hide hl_sGroupMembers
  have HlM' := hide hl_tGroupMembers
  clear hw0 hl_sPages hl_tPages hl_sRows hl_tRows hl_sGroupMembers hl_tGroupMembers
  have y0 := Blk.cell hS (j := 0) rfl; have y1 := Blk.cell hS (j := 1) rfl; have y2 := Blk.cell hS (j := 2) rfl; have y3 := Blk.cell hS (j := 3) rfl; have y4 := Blk.cell hS (j := 4) rfl; have y5 := Blk.cell hS (j := 5) rfl; have y6 := Blk.cell hS (j := 6) rfl
  have z0 := Blk.cell hT (j := 0) rfl; have z1 := Blk.cell hT (j := 1) rfl; have z2 := Blk.cell hT (j := 2) rfl; have z3 := Blk.cell hT (j := 3) rfl; have z4 := Blk.cell hT (j := 4) rfl; have z5 := Blk.cell hT (j := 5) rfl; have z6 := Blk.cell hT (j := 6) rfl
  go_enter Tryz.func16, Tryz.ntmps16
  go_wp2_with fail
  rw [Hw0.out]
  go_fit (samePages_eq sPagesA sPagesn sPagesc sPagesv tPagesA tPagesc tPagesv _ _ _ w0 HlP.out hc_sPages hm_sPages (hr_sPages.below hb0) (hr_tPages.below hb0) (hP.below hb0) (hP'.below hb0))
  rintro xx w1 ⟨rfl, q1, hw1⟩
  have hb1 : Below w0.heap.size w0 w1 := by rw [hw1]; exact ⟨rfl, rfl, rfl, Nat.le_refl _, fun _ _ => rfl⟩
  clear hw1
  have hb01 := hb0.trans (hb1.mono hb0.size)
  clear y0 y1 y2 y3 y4 y5 y6 z0 z1 z2 z3 z4 z5 z6
  have y0 := Blk.cell (hS.below hb1) (j := 0) rfl; have y1 := Blk.cell (hS.below hb1) (j := 1) rfl; have y2 := Blk.cell (hS.below hb1) (j := 2) rfl; have y3 := Blk.cell (hS.below hb1) (j := 3) rfl; have y4 := Blk.cell (hS.below hb1) (j := 4) rfl; have y5 := Blk.cell (hS.below hb1) (j := 5) rfl; have y6 := Blk.cell (hS.below hb1) (j := 6) rfl
  have z0 := Blk.cell (hT.below hb1) (j := 0) rfl; have z1 := Blk.cell (hT.below hb1) (j := 1) rfl; have z2 := Blk.cell (hT.below hb1) (j := 2) rfl; have z3 := Blk.cell (hT.below hb1) (j := 3) rfl; have z4 := Blk.cell (hT.below hb1) (j := 4) rfl; have z5 := Blk.cell (hT.below hb1) (j := 5) rfl; have z6 := Blk.cell (hT.below hb1) (j := 6) rfl
  go_wp2_with fail
  go_fit (rsame6_any sRowsA sRowsn sRowsc sRowsv _ _ tRowsA tRowsn tRowsc tRowsv _ _ _ HlR.out (hr_sRows.below hb01) (hE.below hb01) HlR'.out (hr_tRows.below hb01) (hE'.below hb01) (by omega))
  rw [sameB_self]
  rintro xx w2 ⟨rfl, hb2⟩
  have hb12 := hb1.trans (hb2.mono hb1.size)
  have hb02 := hb01.trans (hb2.mono hb01.size)
  clear y0 y1 y2 y3 y4 y5 y6 z0 z1 z2 z3 z4 z5 z6
  have y0 := Blk.cell (hS.below hb12) (j := 0) rfl; have y1 := Blk.cell (hS.below hb12) (j := 1) rfl; have y2 := Blk.cell (hS.below hb12) (j := 2) rfl; have y3 := Blk.cell (hS.below hb12) (j := 3) rfl; have y4 := Blk.cell (hS.below hb12) (j := 4) rfl; have y5 := Blk.cell (hS.below hb12) (j := 5) rfl; have y6 := Blk.cell (hS.below hb12) (j := 6) rfl
  have z0 := Blk.cell (hT.below hb12) (j := 0) rfl; have z1 := Blk.cell (hT.below hb12) (j := 1) rfl; have z2 := Blk.cell (hT.below hb12) (j := 2) rfl; have z3 := Blk.cell (hT.below hb12) (j := 3) rfl; have z4 := Blk.cell (hT.below hb12) (j := 4) rfl; have z5 := Blk.cell (hT.below hb12) (j := 5) rfl; have z6 := Blk.cell (hT.below hb12) (j := 6) rfl
  go_wp2_with fail
  go_fit (rsameg_any sGroupEpoch sGroupMembersA sGroupMembersn sGroupMembersc _ sGroupEpoch tGroupMembersA tGroupMembersn tGroupMembersc _ _ HlM.out HlM'.out (by omega) (by omega) (hr_sGroupMembers.below hb02) (hr_tGroupMembers.below hb02))
  rw [eqG_self]
  rintro xx w3 ⟨rfl, hb3⟩
  go_wp2
  go_ret
  exact ⟨rfl, hb02.trans (hb3.mono hb02.size)⟩
end Go.Proofs.YtkknkdjdneldlaaGreat
