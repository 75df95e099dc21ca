/- Texts joined (shake.py). -/
import Derived.Deep.RegionHeldLaw
import Derived.Test.YtkknkdjdneldlaaK71
import Derived.Test.YtkknkdjdneldlaaK74
import Derived.Test.YtkknkdjdneldlaaK75
import Derived.Test.YtkknkdjdneldlaaK76
import Derived.Test.YtkknkdjdneldlaaK710
namespace Go.Proofs.Ytkknkdjdneldlaa
set_option maxRecDepth 20000
open Go.RowKit Go.Px Go.Maps
set_option linter.unusedVariables false
theorem RwRows.fr7 {X Q : Nat → Prop} {w w' : World} {cs : List Value} {es : List RowT} (h : RwRows w Q cs es) (hf : Fr X w w') (hx : ∀ b, Q b → ¬ X b) : RwRows w' Q cs es := h.keep (fun A xs hr hq => hr.fr hf (fun _ a ha => hx _ (hq a ha))) (fun _ h => h)
theorem pgq_of {w : World} {Q : Nat → Prop} {b z : Nat} {ps : List PageD} {vs : List Value} (h : tyPage.Rows w Q ps vs) (hg : Good b z ps) (hz : 1 ≤ z) : PgRows w Q vs ps := by
  refine ⟨h.1, fun j p hp => ?_⟩
  obtain ⟨P, _, _, hl, _⟩ := hg j p hp
  obtain ⟨cs, hI, hc⟩ := h.get hp
  obtain ⟨pAt, pVersion, pData, pDataA, pDatan, pDatac, rfl, rfl, h1_pAt, h2_pAt, h1_pVersion, h2_pVersion, hl_pData, hc_pData, hm_pData, hr_pData, hq_pData⟩ := Page_out hI
  exact ⟨pDataA, pDatan, pDatac, hc 0 _ rfl, hc 1 _ rfl, hc 2 _ rfl, hl_pData, hc_pData, hm_pData, hr_pData, hq_pData (by intro e; simp only at hl; rw [e] at hl; simp at hl; omega)⟩
/-- May a state be laid? -/
def MA.patchB (a : MA) (x : StateD) : Bool := stateB x && ((decide (x.2.1.1 = a.b) && decide (x.2.1.2 = a.z)) && !decide (x.1 < a.num))
def MA.patch (a : MA) (x : StateD) : MA :=
  { num := x.1, b := a.b, z := a.z, bs := layB a.z a.bs x.2.2.1, vs := layV a.vs x.2.2.1, last := layL a.last x.2.2.1, rows := x.2.2.2.1, ep := x.2.2.2.2.1, ms := x.2.2.2.2.2 }
set_option maxHeartbeats 1600000 in
theorem patch_ok2 (w : World) (v r s b z N : Nat) (bs : List UInt8) (vs : List Int) (last : Int) (A : Option Addr) (n c : Nat) (cs : List Value) (ps : List (Int × Int × List UInt8)) (h : VolIs w v r s b z N bs vs last) (hn : ps.length = n) (hnc : n ≤ c) (hc : c ≤ 9223372036854775807)
    (hr : Rd w A cs) (hA : ps ≠ [] → ∀ a, A = some a → a.block ≠ v ∧ a.block ≠ r ∧ a.block ≠ s) (hP : PgRows w (fun B => B ≠ v ∧ B ≠ r ∧ B ≠ s) cs ps) (hm : mpA b z (-1) ps = true) :
    Calls Try.prog 47 #[.pointer (some ⟨v, 0, none⟩), .slice A n c] w fun e w' => e = .returned (.int .i64 0) ∧ VolIs w' v r s b z N (layB z bs ps) (layV vs ps) (layL last ps) ∧ Upd v r s w w' := by
  have x0 := h.blk.cell (j := 0) rfl
  have x1 := h.blk.cell (j := 1) rfl
  have Hm := hide hm
  have hgd := good_of_mpA (by omega) hm
  clear hm
  go_enter Try.func47, Try.ntmps47
  go_wp2_with fail
  go_fit (made_any w v r s b z N bs vs last h)
  rintro x w1 ⟨rfl, rfl⟩
  go_wp2_with fail
  go_fit (mayPages_any b z A n c cs ps _ w hn hnc hc hr hP)
  rw [Hm.out]
  rintro x w1 ⟨rfl, hb1⟩
  have hU1 := Upd.of_below (v := v) (r := r) (s := s) hb1
  go_wp2_with fail
  go_fit (lay_any2 w1 v r s b z N bs vs last A n c cs ps (h.below hb1) hn hnc hc (hr.below hb1) hA (hP.below hb1) hgd)
  rintro x w2 ⟨rfl, hV2, hU2⟩
  go_wp2
  go_ret
  exact ⟨rfl, hV2, hU1.trans hU2⟩
section
variable {Y : Nat → Prop} {w : World} {L : Nat} {f : MFp} {a : MA} {N NN B : Nat} {D : DataW Value} {G : Option Addr} {gn gc : Nat}

set_option maxRecDepth 20000 in
set_option maxHeartbeats 6400000 in
theorem patch7_badS {Q : Nat → Prop} {x : StateD} {cs : List Value} (h : MIs w L Y f a N NN B D G gn gc) (hs : tyState.Is w Q x cs) (hx : stateB x = false) : Calls Try.prog 22 #[.pointer (some ⟨f.mb, 0, none⟩), .agg cs.toArray] w fun e w' => e = .returned (.int .i64 72) ∧ Below w.heap.size w w' := by
  have hs' := hs
  obtain ⟨sNum, sShapeBlocks, sShapeSize, sPages, sPagesA, sPagesn, sPagesc, sPagesv, sRows, sRowsA, sRowsn, sRowsc, sRowsv, sGroupEpoch, sGroupMembers, sGroupMembersA, sGroupMembersn, sGroupMembersc, sGroupMembersv, rfl, rfl, h1_sNum, h2_sNum, h1_sShapeBlocks, h2_sShapeBlocks, h1_sShapeSize, h2_sShapeSize, hl_sPages, hc_sPages, hm_sPages, hr_sPages, hq_sPages, he_sPages, hl_sRows, hc_sRows, hm_sRows, hr_sRows, hq_sRows, he_sRows, h1_sGroupEpoch, h2_sGroupEpoch, hl_sGroupMembers, hc_sGroupMembers, hm_sGroupMembers, hr_sGroupMembers, hq_sGroupMembers, he_sGroupMembers⟩ := State_out hs'
  obtain ⟨w0, hw0⟩ : ∃ x, w.alloc (.cells #[.int .i64 sNum, .int .i64 sShapeBlocks, .int .i64 sShapeSize, .slice sPagesA sPagesn sPagesc, .slice sRowsA sRowsn sRowsc, .int .i64 sGroupEpoch, .slice sGroupMembersA sGroupMembersn sGroupMembersc] 39) = x := ⟨_, rfl⟩; have hBw0 : Blk w0 w.heap.size [.int .i64 sNum, .int .i64 sShapeBlocks, .int .i64 sShapeSize, .slice sPagesA sPagesn sPagesc, .slice sRowsA sRowsn sRowsc, .int .i64 sGroupEpoch, .slice sGroupMembersA sGroupMembersn sGroupMembersc] 39 := (by rw [← hw0]; exact Blk.new w [.int .i64 sNum, .int .i64 sShapeBlocks, .int .i64 sShapeSize, .slice sPagesA sPagesn sPagesc, .slice sRowsA sRowsn sRowsc, .int .i64 sGroupEpoch, .slice sGroupMembersA sGroupMembersn sGroupMembersc] _); have hbw0 : Below w.heap.size w w0 := (by rw [← hw0]; exact (Below.refl _ _).alloc (Nat.le_refl _) _); have Hw0 := hide hw0; clear hw0
  have h0 := h.below hbw0
  have hs0 := hs.below hbw0
  have HM := hide (show ∀ X, Below w0.heap.size w0 X → MIs X L Y f a N NN B D G gn gc from fun X hX => h0.below hX)
  have HBx := hide (show ∀ X, Below w0.heap.size w0 X → Blk X w.heap.size [.int .i64 sNum, .int .i64 sShapeBlocks, .int .i64 sShapeSize, .slice sPagesA sPagesn sPagesc, .slice sRowsA sRowsn sRowsc, .int .i64 sGroupEpoch, .slice sGroupMembersA sGroupMembersn sGroupMembersc] 39 from fun X hX => hBw0.below hX)
  have y0 : ∀ x : InC (fun W => Below w0.heap.size w0 W), x.W.cell? ⟨w.heap.size, 0, none⟩ = some (.int .i64 sNum) := fun x => (HBx.out x.W x.h).cell (j := 0) rfl
  have y1 : ∀ x : InC (fun W => Below w0.heap.size w0 W), x.W.cell? ⟨w.heap.size, 1, none⟩ = some (.int .i64 sShapeBlocks) := fun x => (HBx.out x.W x.h).cell (j := 1) rfl
  have y2 : ∀ x : InC (fun W => Below w0.heap.size w0 W), x.W.cell? ⟨w.heap.size, 2, none⟩ = some (.int .i64 sShapeSize) := fun x => (HBx.out x.W x.h).cell (j := 2) rfl
  have y3 : ∀ x : InC (fun W => Below w0.heap.size w0 W), x.W.cell? ⟨w.heap.size, 3, none⟩ = some (.slice sPagesA sPagesn sPagesc) := fun x => (HBx.out x.W x.h).cell (j := 3) rfl
  have y4 : ∀ x : InC (fun W => Below w0.heap.size w0 W), x.W.cell? ⟨w.heap.size, 4, none⟩ = some (.slice sRowsA sRowsn sRowsc) := fun x => (HBx.out x.W x.h).cell (j := 4) rfl
  have y5 : ∀ x : InC (fun W => Below w0.heap.size w0 W), x.W.cell? ⟨w.heap.size, 5, none⟩ = some (.int .i64 sGroupEpoch) := fun x => (HBx.out x.W x.h).cell (j := 5) rfl
  have y6 : ∀ x : InC (fun W => Below w0.heap.size w0 W), x.W.cell? ⟨w.heap.size, 6, none⟩ = some (.slice sGroupMembersA sGroupMembersn sGroupMembersc) := fun x => (HBx.out x.W x.h).cell (j := 6) rfl
  have x0 : ∀ x : InC (fun W => Below w0.heap.size w0 W), x.W.cell? ⟨f.mb, 0, none⟩ = some (.pointer (some ⟨f.v, 0, none⟩)) := fun x => (HM.out x.W x.h).blk.cell (j := 0) rfl
  have x4 : ∀ x : InC (fun W => Below w0.heap.size w0 W), x.W.cell? ⟨f.mb, 4, none⟩ = some (.int .i64 a.num) := fun x => (HM.out x.W x.h).blk.cell (j := 4) rfl
  have HS := hide (show ∀ x : InC (fun W => Below w0.heap.size w0 W), Calls Try.prog 44 #[.agg #[.int .i64 sNum, .int .i64 sShapeBlocks, .int .i64 sShapeSize, .slice sPagesA sPagesn sPagesc, .slice sRowsA sRowsn sRowsc, .int .i64 sGroupEpoch, .slice sGroupMembersA sGroupMembersn sGroupMembersc]] x.W fun e w' => e = .returned (.bool (stateB (sNum, (sShapeBlocks, sShapeSize), sPages, sRows, (sGroupEpoch, sGroupMembers)))) ∧ Below x.W.heap.size x.W w' from fun x => mayState_any (hs0.below x.h))
  have HSh := hide (show ∀ x : InC (fun W => Below w0.heap.size w0 W), Calls Try.prog 31 #[.pointer (some ⟨f.v, 0, none⟩)] x.W fun e w' => e = .returned (shp a.b a.z) ∧ Below x.W.heap.size x.W w' from fun x => shapeOf_any x.W _ _ _ _ _ _ _ _ _ (HM.out x.W x.h).vol)
  have HX := hide hx
  clear hx
  go_enter Try.func22, Try.ntmps22
  go_wp2_with fail
  rw [Hw0.out]
  go_fit (made7_any h0)
  rintro xx w1 ⟨rfl, rfl⟩
  go_wp2_with fail
  refine wp_region_in (fun W => Below w0.heap.size w0 W) (Below.refl _ _).drew (by kernel_rfl) (by kernel_rfl) ?_
  repeat (go_big_quiet_step (first
    | (go_at_call 44; have hh := HS.out; rw [HX.out] at hh; exact Calls.in_below (hh _))
    | (go_at_call 31; exact Calls.in_below (HSh.out _))))
  refine wpQuiet_nil ?_
  intro _ hw'
  obtain ⟨nq, hw''⟩ := hw'
  subst hw''
  have hbq := nq.h
  go_wp2
  go_ret
  exact ⟨rfl, hbw0.trans (hbq.mono hbw0.size)⟩

set_option maxRecDepth 20000 in
set_option maxHeartbeats 6400000 in
theorem patch7_badB {Q : Nat → Prop} {x : StateD} {cs : List Value} (h : MIs w L Y f a N NN B D G gn gc) (hs : tyState.Is w Q x cs) (hx : stateB x = true) (hb : ¬ x.2.1.1 = a.b) : Calls Try.prog 22 #[.pointer (some ⟨f.mb, 0, none⟩), .agg cs.toArray] w fun e w' => e = .returned (.int .i64 72) ∧ Below w.heap.size w w' := by
  have hs' := hs
  obtain ⟨sNum, sShapeBlocks, sShapeSize, sPages, sPagesA, sPagesn, sPagesc, sPagesv, sRows, sRowsA, sRowsn, sRowsc, sRowsv, sGroupEpoch, sGroupMembers, sGroupMembersA, sGroupMembersn, sGroupMembersc, sGroupMembersv, rfl, rfl, h1_sNum, h2_sNum, h1_sShapeBlocks, h2_sShapeBlocks, h1_sShapeSize, h2_sShapeSize, hl_sPages, hc_sPages, hm_sPages, hr_sPages, hq_sPages, he_sPages, hl_sRows, hc_sRows, hm_sRows, hr_sRows, hq_sRows, he_sRows, h1_sGroupEpoch, h2_sGroupEpoch, hl_sGroupMembers, hc_sGroupMembers, hm_sGroupMembers, hr_sGroupMembers, hq_sGroupMembers, he_sGroupMembers⟩ := State_out hs'
  obtain ⟨w0, hw0⟩ : ∃ x, w.alloc (.cells #[.int .i64 sNum, .int .i64 sShapeBlocks, .int .i64 sShapeSize, .slice sPagesA sPagesn sPagesc, .slice sRowsA sRowsn sRowsc, .int .i64 sGroupEpoch, .slice sGroupMembersA sGroupMembersn sGroupMembersc] 39) = x := ⟨_, rfl⟩; have hBw0 : Blk w0 w.heap.size [.int .i64 sNum, .int .i64 sShapeBlocks, .int .i64 sShapeSize, .slice sPagesA sPagesn sPagesc, .slice sRowsA sRowsn sRowsc, .int .i64 sGroupEpoch, .slice sGroupMembersA sGroupMembersn sGroupMembersc] 39 := (by rw [← hw0]; exact Blk.new w [.int .i64 sNum, .int .i64 sShapeBlocks, .int .i64 sShapeSize, .slice sPagesA sPagesn sPagesc, .slice sRowsA sRowsn sRowsc, .int .i64 sGroupEpoch, .slice sGroupMembersA sGroupMembersn sGroupMembersc] _); have hbw0 : Below w.heap.size w w0 := (by rw [← hw0]; exact (Below.refl _ _).alloc (Nat.le_refl _) _); have Hw0 := hide hw0; clear hw0
  have h0 := h.below hbw0
  have hs0 := hs.below hbw0
  have HM := hide (show ∀ X, Below w0.heap.size w0 X → MIs X L Y f a N NN B D G gn gc from fun X hX => h0.below hX)
  have HBx := hide (show ∀ X, Below w0.heap.size w0 X → Blk X w.heap.size [.int .i64 sNum, .int .i64 sShapeBlocks, .int .i64 sShapeSize, .slice sPagesA sPagesn sPagesc, .slice sRowsA sRowsn sRowsc, .int .i64 sGroupEpoch, .slice sGroupMembersA sGroupMembersn sGroupMembersc] 39 from fun X hX => hBw0.below hX)
  have y0 : ∀ x : InC (fun W => Below w0.heap.size w0 W), x.W.cell? ⟨w.heap.size, 0, none⟩ = some (.int .i64 sNum) := fun x => (HBx.out x.W x.h).cell (j := 0) rfl
  have y1 : ∀ x : InC (fun W => Below w0.heap.size w0 W), x.W.cell? ⟨w.heap.size, 1, none⟩ = some (.int .i64 sShapeBlocks) := fun x => (HBx.out x.W x.h).cell (j := 1) rfl
  have y2 : ∀ x : InC (fun W => Below w0.heap.size w0 W), x.W.cell? ⟨w.heap.size, 2, none⟩ = some (.int .i64 sShapeSize) := fun x => (HBx.out x.W x.h).cell (j := 2) rfl
  have y3 : ∀ x : InC (fun W => Below w0.heap.size w0 W), x.W.cell? ⟨w.heap.size, 3, none⟩ = some (.slice sPagesA sPagesn sPagesc) := fun x => (HBx.out x.W x.h).cell (j := 3) rfl
  have y4 : ∀ x : InC (fun W => Below w0.heap.size w0 W), x.W.cell? ⟨w.heap.size, 4, none⟩ = some (.slice sRowsA sRowsn sRowsc) := fun x => (HBx.out x.W x.h).cell (j := 4) rfl
  have y5 : ∀ x : InC (fun W => Below w0.heap.size w0 W), x.W.cell? ⟨w.heap.size, 5, none⟩ = some (.int .i64 sGroupEpoch) := fun x => (HBx.out x.W x.h).cell (j := 5) rfl
  have y6 : ∀ x : InC (fun W => Below w0.heap.size w0 W), x.W.cell? ⟨w.heap.size, 6, none⟩ = some (.slice sGroupMembersA sGroupMembersn sGroupMembersc) := fun x => (HBx.out x.W x.h).cell (j := 6) rfl
  have x0 : ∀ x : InC (fun W => Below w0.heap.size w0 W), x.W.cell? ⟨f.mb, 0, none⟩ = some (.pointer (some ⟨f.v, 0, none⟩)) := fun x => (HM.out x.W x.h).blk.cell (j := 0) rfl
  have x4 : ∀ x : InC (fun W => Below w0.heap.size w0 W), x.W.cell? ⟨f.mb, 4, none⟩ = some (.int .i64 a.num) := fun x => (HM.out x.W x.h).blk.cell (j := 4) rfl
  have HS := hide (show ∀ x : InC (fun W => Below w0.heap.size w0 W), Calls Try.prog 44 #[.agg #[.int .i64 sNum, .int .i64 sShapeBlocks, .int .i64 sShapeSize, .slice sPagesA sPagesn sPagesc, .slice sRowsA sRowsn sRowsc, .int .i64 sGroupEpoch, .slice sGroupMembersA sGroupMembersn sGroupMembersc]] x.W fun e w' => e = .returned (.bool (stateB (sNum, (sShapeBlocks, sShapeSize), sPages, sRows, (sGroupEpoch, sGroupMembers)))) ∧ Below x.W.heap.size x.W w' from fun x => mayState_any (hs0.below x.h))
  have HSh := hide (show ∀ x : InC (fun W => Below w0.heap.size w0 W), Calls Try.prog 31 #[.pointer (some ⟨f.v, 0, none⟩)] x.W fun e w' => e = .returned (shp a.b a.z) ∧ Below x.W.heap.size x.W w' from fun x => shapeOf_any x.W _ _ _ _ _ _ _ _ _ (HM.out x.W x.h).vol)
  have HX := hide hx
  have q : (sShapeBlocks == (a.b : Int)) = false := by simpa using hb
  clear hx hb
  go_enter Try.func22, Try.ntmps22
  go_wp2_with fail
  rw [Hw0.out]
  go_fit (made7_any h0)
  rintro xx w1 ⟨rfl, rfl⟩
  go_wp2_with fail
  refine wp_region_in (fun W => Below w0.heap.size w0 W) (Below.refl _ _).drew (by kernel_rfl) (by kernel_rfl) ?_
  repeat (go_big_quiet_step (first
    | (go_at_call 44; have hh := HS.out; rw [HX.out] at hh; exact Calls.in_below (hh _))
    | (go_at_call 31; exact Calls.in_below (HSh.out _))))
  refine wpQuiet_nil ?_
  intro _ hw'
  obtain ⟨nq, hw''⟩ := hw'
  subst hw''
  have hbq := nq.h
  go_wp2
  go_ret
  exact ⟨rfl, hbw0.trans (hbq.mono hbw0.size)⟩

set_option maxRecDepth 20000 in
set_option maxHeartbeats 6400000 in
theorem patch7_badZ {Q : Nat → Prop} {x : StateD} {cs : List Value} (h : MIs w L Y f a N NN B D G gn gc) (hs : tyState.Is w Q x cs) (hx : stateB x = true) (hb : x.2.1.1 = a.b) (hz : ¬ x.2.1.2 = a.z) : Calls Try.prog 22 #[.pointer (some ⟨f.mb, 0, none⟩), .agg cs.toArray] w fun e w' => e = .returned (.int .i64 72) ∧ Below w.heap.size w w' := by
  have hs' := hs
  obtain ⟨sNum, sShapeBlocks, sShapeSize, sPages, sPagesA, sPagesn, sPagesc, sPagesv, sRows, sRowsA, sRowsn, sRowsc, sRowsv, sGroupEpoch, sGroupMembers, sGroupMembersA, sGroupMembersn, sGroupMembersc, sGroupMembersv, rfl, rfl, h1_sNum, h2_sNum, h1_sShapeBlocks, h2_sShapeBlocks, h1_sShapeSize, h2_sShapeSize, hl_sPages, hc_sPages, hm_sPages, hr_sPages, hq_sPages, he_sPages, hl_sRows, hc_sRows, hm_sRows, hr_sRows, hq_sRows, he_sRows, h1_sGroupEpoch, h2_sGroupEpoch, hl_sGroupMembers, hc_sGroupMembers, hm_sGroupMembers, hr_sGroupMembers, hq_sGroupMembers, he_sGroupMembers⟩ := State_out hs'
  obtain ⟨w0, hw0⟩ : ∃ x, w.alloc (.cells #[.int .i64 sNum, .int .i64 sShapeBlocks, .int .i64 sShapeSize, .slice sPagesA sPagesn sPagesc, .slice sRowsA sRowsn sRowsc, .int .i64 sGroupEpoch, .slice sGroupMembersA sGroupMembersn sGroupMembersc] 39) = x := ⟨_, rfl⟩; have hBw0 : Blk w0 w.heap.size [.int .i64 sNum, .int .i64 sShapeBlocks, .int .i64 sShapeSize, .slice sPagesA sPagesn sPagesc, .slice sRowsA sRowsn sRowsc, .int .i64 sGroupEpoch, .slice sGroupMembersA sGroupMembersn sGroupMembersc] 39 := (by rw [← hw0]; exact Blk.new w [.int .i64 sNum, .int .i64 sShapeBlocks, .int .i64 sShapeSize, .slice sPagesA sPagesn sPagesc, .slice sRowsA sRowsn sRowsc, .int .i64 sGroupEpoch, .slice sGroupMembersA sGroupMembersn sGroupMembersc] _); have hbw0 : Below w.heap.size w w0 := (by rw [← hw0]; exact (Below.refl _ _).alloc (Nat.le_refl _) _); have Hw0 := hide hw0; clear hw0
  have h0 := h.below hbw0
  have hs0 := hs.below hbw0
  have HM := hide (show ∀ X, Below w0.heap.size w0 X → MIs X L Y f a N NN B D G gn gc from fun X hX => h0.below hX)
  have HBx := hide (show ∀ X, Below w0.heap.size w0 X → Blk X w.heap.size [.int .i64 sNum, .int .i64 sShapeBlocks, .int .i64 sShapeSize, .slice sPagesA sPagesn sPagesc, .slice sRowsA sRowsn sRowsc, .int .i64 sGroupEpoch, .slice sGroupMembersA sGroupMembersn sGroupMembersc] 39 from fun X hX => hBw0.below hX)
  have y0 : ∀ x : InC (fun W => Below w0.heap.size w0 W), x.W.cell? ⟨w.heap.size, 0, none⟩ = some (.int .i64 sNum) := fun x => (HBx.out x.W x.h).cell (j := 0) rfl
  have y1 : ∀ x : InC (fun W => Below w0.heap.size w0 W), x.W.cell? ⟨w.heap.size, 1, none⟩ = some (.int .i64 sShapeBlocks) := fun x => (HBx.out x.W x.h).cell (j := 1) rfl
  have y2 : ∀ x : InC (fun W => Below w0.heap.size w0 W), x.W.cell? ⟨w.heap.size, 2, none⟩ = some (.int .i64 sShapeSize) := fun x => (HBx.out x.W x.h).cell (j := 2) rfl
  have y3 : ∀ x : InC (fun W => Below w0.heap.size w0 W), x.W.cell? ⟨w.heap.size, 3, none⟩ = some (.slice sPagesA sPagesn sPagesc) := fun x => (HBx.out x.W x.h).cell (j := 3) rfl
  have y4 : ∀ x : InC (fun W => Below w0.heap.size w0 W), x.W.cell? ⟨w.heap.size, 4, none⟩ = some (.slice sRowsA sRowsn sRowsc) := fun x => (HBx.out x.W x.h).cell (j := 4) rfl
  have y5 : ∀ x : InC (fun W => Below w0.heap.size w0 W), x.W.cell? ⟨w.heap.size, 5, none⟩ = some (.int .i64 sGroupEpoch) := fun x => (HBx.out x.W x.h).cell (j := 5) rfl
  have y6 : ∀ x : InC (fun W => Below w0.heap.size w0 W), x.W.cell? ⟨w.heap.size, 6, none⟩ = some (.slice sGroupMembersA sGroupMembersn sGroupMembersc) := fun x => (HBx.out x.W x.h).cell (j := 6) rfl
  have x0 : ∀ x : InC (fun W => Below w0.heap.size w0 W), x.W.cell? ⟨f.mb, 0, none⟩ = some (.pointer (some ⟨f.v, 0, none⟩)) := fun x => (HM.out x.W x.h).blk.cell (j := 0) rfl
  have x4 : ∀ x : InC (fun W => Below w0.heap.size w0 W), x.W.cell? ⟨f.mb, 4, none⟩ = some (.int .i64 a.num) := fun x => (HM.out x.W x.h).blk.cell (j := 4) rfl
  have HS := hide (show ∀ x : InC (fun W => Below w0.heap.size w0 W), Calls Try.prog 44 #[.agg #[.int .i64 sNum, .int .i64 sShapeBlocks, .int .i64 sShapeSize, .slice sPagesA sPagesn sPagesc, .slice sRowsA sRowsn sRowsc, .int .i64 sGroupEpoch, .slice sGroupMembersA sGroupMembersn sGroupMembersc]] x.W fun e w' => e = .returned (.bool (stateB (sNum, (sShapeBlocks, sShapeSize), sPages, sRows, (sGroupEpoch, sGroupMembers)))) ∧ Below x.W.heap.size x.W w' from fun x => mayState_any (hs0.below x.h))
  have HSh := hide (show ∀ x : InC (fun W => Below w0.heap.size w0 W), Calls Try.prog 31 #[.pointer (some ⟨f.v, 0, none⟩)] x.W fun e w' => e = .returned (shp a.b a.z) ∧ Below x.W.heap.size x.W w' from fun x => shapeOf_any x.W _ _ _ _ _ _ _ _ _ (HM.out x.W x.h).vol)
  have HX := hide hx
  have q0 : (sShapeBlocks == (a.b : Int)) = true := by simpa using hb
  have q : (sShapeSize == (a.z : Int)) = false := by simpa using hz
  clear hx hb hz
  go_enter Try.func22, Try.ntmps22
  go_wp2_with fail
  rw [Hw0.out]
  go_fit (made7_any h0)
  rintro xx w1 ⟨rfl, rfl⟩
  go_wp2_with fail
  refine wp_region_in (fun W => Below w0.heap.size w0 W) (Below.refl _ _).drew (by kernel_rfl) (by kernel_rfl) ?_
  repeat (go_big_quiet_step (first
    | (go_at_call 44; have hh := HS.out; rw [HX.out] at hh; exact Calls.in_below (hh _))
    | (go_at_call 31; exact Calls.in_below (HSh.out _))))
  refine wpQuiet_nil ?_
  intro _ hw'
  obtain ⟨nq, hw''⟩ := hw'
  subst hw''
  have hbq := nq.h
  go_wp2
  go_ret
  exact ⟨rfl, hbw0.trans (hbq.mono hbw0.size)⟩

set_option maxRecDepth 20000 in
set_option maxHeartbeats 6400000 in
theorem patch7_badN {Q : Nat → Prop} {x : StateD} {cs : List Value} (h : MIs w L Y f a N NN B D G gn gc) (hs : tyState.Is w Q x cs) (hx : stateB x = true) (hb : x.2.1.1 = a.b) (hz : x.2.1.2 = a.z) (hn : x.1 < a.num) : Calls Try.prog 22 #[.pointer (some ⟨f.mb, 0, none⟩), .agg cs.toArray] w fun e w' => e = .returned (.int .i64 72) ∧ Below w.heap.size w w' := by
  have hs' := hs
  obtain ⟨sNum, sShapeBlocks, sShapeSize, sPages, sPagesA, sPagesn, sPagesc, sPagesv, sRows, sRowsA, sRowsn, sRowsc, sRowsv, sGroupEpoch, sGroupMembers, sGroupMembersA, sGroupMembersn, sGroupMembersc, sGroupMembersv, rfl, rfl, h1_sNum, h2_sNum, h1_sShapeBlocks, h2_sShapeBlocks, h1_sShapeSize, h2_sShapeSize, hl_sPages, hc_sPages, hm_sPages, hr_sPages, hq_sPages, he_sPages, hl_sRows, hc_sRows, hm_sRows, hr_sRows, hq_sRows, he_sRows, h1_sGroupEpoch, h2_sGroupEpoch, hl_sGroupMembers, hc_sGroupMembers, hm_sGroupMembers, hr_sGroupMembers, hq_sGroupMembers, he_sGroupMembers⟩ := State_out hs'
  obtain ⟨w0, hw0⟩ : ∃ x, w.alloc (.cells #[.int .i64 sNum, .int .i64 sShapeBlocks, .int .i64 sShapeSize, .slice sPagesA sPagesn sPagesc, .slice sRowsA sRowsn sRowsc, .int .i64 sGroupEpoch, .slice sGroupMembersA sGroupMembersn sGroupMembersc] 39) = x := ⟨_, rfl⟩; have hBw0 : Blk w0 w.heap.size [.int .i64 sNum, .int .i64 sShapeBlocks, .int .i64 sShapeSize, .slice sPagesA sPagesn sPagesc, .slice sRowsA sRowsn sRowsc, .int .i64 sGroupEpoch, .slice sGroupMembersA sGroupMembersn sGroupMembersc] 39 := (by rw [← hw0]; exact Blk.new w [.int .i64 sNum, .int .i64 sShapeBlocks, .int .i64 sShapeSize, .slice sPagesA sPagesn sPagesc, .slice sRowsA sRowsn sRowsc, .int .i64 sGroupEpoch, .slice sGroupMembersA sGroupMembersn sGroupMembersc] _); have hbw0 : Below w.heap.size w w0 := (by rw [← hw0]; exact (Below.refl _ _).alloc (Nat.le_refl _) _); have Hw0 := hide hw0; clear hw0
  have h0 := h.below hbw0
  have hs0 := hs.below hbw0
  have HM := hide (show ∀ X, Below w0.heap.size w0 X → MIs X L Y f a N NN B D G gn gc from fun X hX => h0.below hX)
  have HBx := hide (show ∀ X, Below w0.heap.size w0 X → Blk X w.heap.size [.int .i64 sNum, .int .i64 sShapeBlocks, .int .i64 sShapeSize, .slice sPagesA sPagesn sPagesc, .slice sRowsA sRowsn sRowsc, .int .i64 sGroupEpoch, .slice sGroupMembersA sGroupMembersn sGroupMembersc] 39 from fun X hX => hBw0.below hX)
  have y0 : ∀ x : InC (fun W => Below w0.heap.size w0 W), x.W.cell? ⟨w.heap.size, 0, none⟩ = some (.int .i64 sNum) := fun x => (HBx.out x.W x.h).cell (j := 0) rfl
  have y1 : ∀ x : InC (fun W => Below w0.heap.size w0 W), x.W.cell? ⟨w.heap.size, 1, none⟩ = some (.int .i64 sShapeBlocks) := fun x => (HBx.out x.W x.h).cell (j := 1) rfl
  have y2 : ∀ x : InC (fun W => Below w0.heap.size w0 W), x.W.cell? ⟨w.heap.size, 2, none⟩ = some (.int .i64 sShapeSize) := fun x => (HBx.out x.W x.h).cell (j := 2) rfl
  have y3 : ∀ x : InC (fun W => Below w0.heap.size w0 W), x.W.cell? ⟨w.heap.size, 3, none⟩ = some (.slice sPagesA sPagesn sPagesc) := fun x => (HBx.out x.W x.h).cell (j := 3) rfl
  have y4 : ∀ x : InC (fun W => Below w0.heap.size w0 W), x.W.cell? ⟨w.heap.size, 4, none⟩ = some (.slice sRowsA sRowsn sRowsc) := fun x => (HBx.out x.W x.h).cell (j := 4) rfl
  have y5 : ∀ x : InC (fun W => Below w0.heap.size w0 W), x.W.cell? ⟨w.heap.size, 5, none⟩ = some (.int .i64 sGroupEpoch) := fun x => (HBx.out x.W x.h).cell (j := 5) rfl
  have y6 : ∀ x : InC (fun W => Below w0.heap.size w0 W), x.W.cell? ⟨w.heap.size, 6, none⟩ = some (.slice sGroupMembersA sGroupMembersn sGroupMembersc) := fun x => (HBx.out x.W x.h).cell (j := 6) rfl
  have x0 : ∀ x : InC (fun W => Below w0.heap.size w0 W), x.W.cell? ⟨f.mb, 0, none⟩ = some (.pointer (some ⟨f.v, 0, none⟩)) := fun x => (HM.out x.W x.h).blk.cell (j := 0) rfl
  have x4 : ∀ x : InC (fun W => Below w0.heap.size w0 W), x.W.cell? ⟨f.mb, 4, none⟩ = some (.int .i64 a.num) := fun x => (HM.out x.W x.h).blk.cell (j := 4) rfl
  have HS := hide (show ∀ x : InC (fun W => Below w0.heap.size w0 W), Calls Try.prog 44 #[.agg #[.int .i64 sNum, .int .i64 sShapeBlocks, .int .i64 sShapeSize, .slice sPagesA sPagesn sPagesc, .slice sRowsA sRowsn sRowsc, .int .i64 sGroupEpoch, .slice sGroupMembersA sGroupMembersn sGroupMembersc]] x.W fun e w' => e = .returned (.bool (stateB (sNum, (sShapeBlocks, sShapeSize), sPages, sRows, (sGroupEpoch, sGroupMembers)))) ∧ Below x.W.heap.size x.W w' from fun x => mayState_any (hs0.below x.h))
  have HSh := hide (show ∀ x : InC (fun W => Below w0.heap.size w0 W), Calls Try.prog 31 #[.pointer (some ⟨f.v, 0, none⟩)] x.W fun e w' => e = .returned (shp a.b a.z) ∧ Below x.W.heap.size x.W w' from fun x => shapeOf_any x.W _ _ _ _ _ _ _ _ _ (HM.out x.W x.h).vol)
  have HX := hide hx
  have q0 : (sShapeBlocks == (a.b : Int)) = true := by simpa using hb
  have q : (sShapeSize == (a.z : Int)) = true := by simpa using hz
  have q2 : decide (sNum < a.num) = true := decide_eq_true hn
  clear hx hb hz hn
  go_enter Try.func22, Try.ntmps22
  go_wp2_with fail
  rw [Hw0.out]
  go_fit (made7_any h0)
  rintro xx w1 ⟨rfl, rfl⟩
  go_wp2_with fail
  refine wp_region_in (fun W => Below w0.heap.size w0 W) (Below.refl _ _).drew (by kernel_rfl) (by kernel_rfl) ?_
  repeat (go_big_quiet_step (first
    | (go_at_call 44; have hh := HS.out; rw [HX.out] at hh; exact Calls.in_below (hh _))
    | (go_at_call 31; exact Calls.in_below (HSh.out _))))
  refine wpQuiet_nil ?_
  intro _ hw'
  obtain ⟨nq, hw''⟩ := hw'
  subst hw''
  have hbq := nq.h
  go_wp2
  go_ret
  exact ⟨rfl, hbw0.trans (hbq.mono hbw0.size)⟩

set_option maxRecDepth 20000 in
set_option maxHeartbeats 6400000 in
theorem patch7_ok {Q : Nat → Prop} {x : StateD} {cs : List Value} (h : MIs w L Y f a N NN B D G gn gc) (hs : tyState.Is w Q x cs) (hx : a.patchB x = true) (hQ : ∀ b, Q b → ¬ f.W b) (hY : ∀ b, Y b → b < w.heap.size) : Calls Try.prog 22 #[.pointer (some ⟨f.mb, 0, none⟩), .agg cs.toArray] w fun e w' => e = .returned (.int .i64 0) ∧ (∃ f' : MFp, f'.mb = f.mb ∧ f'.v = f.v ∧ f'.r = f.r ∧ f'.s = f.s ∧ MX w' L Y f' (a.patch x) 64 ∧ (f'.bm = f.bm ∨ w.heap.size ≤ f'.bm)) ∧ Fr f.W w w' := by
  have hs' := hs
  obtain ⟨sNum, sShapeBlocks, sShapeSize, sPages, sPagesA, sPagesn, sPagesc, sPagesv, sRows, sRowsA, sRowsn, sRowsc, sRowsv, sGroupEpoch, sGroupMembers, sGroupMembersA, sGroupMembersn, sGroupMembersc, sGroupMembersv, rfl, rfl, h1_sNum, h2_sNum, h1_sShapeBlocks, h2_sShapeBlocks, h1_sShapeSize, h2_sShapeSize, hl_sPages, hc_sPages, hm_sPages, hr_sPages, hq_sPages, he_sPages, hl_sRows, hc_sRows, hm_sRows, hr_sRows, hq_sRows, he_sRows, h1_sGroupEpoch, h2_sGroupEpoch, hl_sGroupMembers, hc_sGroupMembers, hm_sGroupMembers, hr_sGroupMembers, hq_sGroupMembers, he_sGroupMembers⟩ := State_out hs'
  obtain ⟨w0, hw0⟩ : ∃ x, w.alloc (.cells #[.int .i64 sNum, .int .i64 sShapeBlocks, .int .i64 sShapeSize, .slice sPagesA sPagesn sPagesc, .slice sRowsA sRowsn sRowsc, .int .i64 sGroupEpoch, .slice sGroupMembersA sGroupMembersn sGroupMembersc] 39) = x := ⟨_, rfl⟩; have hBw0 : Blk w0 w.heap.size [.int .i64 sNum, .int .i64 sShapeBlocks, .int .i64 sShapeSize, .slice sPagesA sPagesn sPagesc, .slice sRowsA sRowsn sRowsc, .int .i64 sGroupEpoch, .slice sGroupMembersA sGroupMembersn sGroupMembersc] 39 := (by rw [← hw0]; exact Blk.new w [.int .i64 sNum, .int .i64 sShapeBlocks, .int .i64 sShapeSize, .slice sPagesA sPagesn sPagesc, .slice sRowsA sRowsn sRowsc, .int .i64 sGroupEpoch, .slice sGroupMembersA sGroupMembersn sGroupMembersc] _); have hbw0 : Below w.heap.size w w0 := (by rw [← hw0]; exact (Below.refl _ _).alloc (Nat.le_refl _) _); have Hw0 := hide hw0; clear hw0
  have h0 := h.below hbw0
  have hs0 := hs.below hbw0
  have HM := hide (show ∀ X, Below w0.heap.size w0 X → MIs X L Y f a N NN B D G gn gc from fun X hX => h0.below hX)
  have HBx := hide (show ∀ X, Below w0.heap.size w0 X → Blk X w.heap.size [.int .i64 sNum, .int .i64 sShapeBlocks, .int .i64 sShapeSize, .slice sPagesA sPagesn sPagesc, .slice sRowsA sRowsn sRowsc, .int .i64 sGroupEpoch, .slice sGroupMembersA sGroupMembersn sGroupMembersc] 39 from fun X hX => hBw0.below hX)
  unfold MA.patchB at hx
  simp only [Bool.and_eq_true, decide_eq_true_eq, Bool.not_eq_true', decide_eq_false_iff_not] at hx
  obtain ⟨hx, ⟨hb, hz⟩, hn⟩ := hx
  obtain ⟨x1, x2, x3, x4', x5, x6⟩ := stateB_out hx
  simp only at x1 x2 x3 x4' x5 x6
  have hE := rw_of he_sRows
  obtain ⟨hmi, _⟩ := i64rows he_sGroupMembers
  subst hmi
  have gl := grp_len x5
  have r64 := (rowsB_out x4').1
  have HlP := hide hl_sPages
  have HlE := hide hl_sRows
  have HlM := hide hl_sGroupMembers
  have hgn : sGroupMembersn ≤ 9 := by rw [← HlM.out]; exact gl.2
  rw [hb, hz] at x3
  have hP := pgq_of he_sPages (good_of_mpA (by omega) x3) h.vol.hz.1
  have X3 := hide x3
  have X4 := hide x4'
  have X5 := hide x5
  have HX := hide hx
  have HPx := hide (show (∀ b, Q b → b ≠ f.v ∧ b ≠ f.r ∧ b ≠ f.s) from fun b hb => ⟨fun e => hQ b hb (.inr (.inl e)), fun e => hQ b hb (.inr (.inr (.inl e))), fun e => hQ b hb (.inr (.inr (.inr (.inl e))))⟩)
  have q0 : (sShapeBlocks == (a.b : Int)) = true := by simpa using hb
  have q : (sShapeSize == (a.z : Int)) = true := by simpa using hz
  have q2 : decide (sNum < a.num) = false := decide_eq_false hn
  clear hx hb hz hn hl_sPages hl_sRows hl_sGroupMembers x1 x2 x3 x4' x5 x6
  have y0 : ∀ x : InC (fun W => Below w0.heap.size w0 W), x.W.cell? ⟨w.heap.size, 0, none⟩ = some (.int .i64 sNum) := fun x => (HBx.out x.W x.h).cell (j := 0) rfl
  have y1 : ∀ x : InC (fun W => Below w0.heap.size w0 W), x.W.cell? ⟨w.heap.size, 1, none⟩ = some (.int .i64 sShapeBlocks) := fun x => (HBx.out x.W x.h).cell (j := 1) rfl
  have y2 : ∀ x : InC (fun W => Below w0.heap.size w0 W), x.W.cell? ⟨w.heap.size, 2, none⟩ = some (.int .i64 sShapeSize) := fun x => (HBx.out x.W x.h).cell (j := 2) rfl
  have y3 : ∀ x : InC (fun W => Below w0.heap.size w0 W), x.W.cell? ⟨w.heap.size, 3, none⟩ = some (.slice sPagesA sPagesn sPagesc) := fun x => (HBx.out x.W x.h).cell (j := 3) rfl
  have y4 : ∀ x : InC (fun W => Below w0.heap.size w0 W), x.W.cell? ⟨w.heap.size, 4, none⟩ = some (.slice sRowsA sRowsn sRowsc) := fun x => (HBx.out x.W x.h).cell (j := 4) rfl
  have y5 : ∀ x : InC (fun W => Below w0.heap.size w0 W), x.W.cell? ⟨w.heap.size, 5, none⟩ = some (.int .i64 sGroupEpoch) := fun x => (HBx.out x.W x.h).cell (j := 5) rfl
  have y6 : ∀ x : InC (fun W => Below w0.heap.size w0 W), x.W.cell? ⟨w.heap.size, 6, none⟩ = some (.slice sGroupMembersA sGroupMembersn sGroupMembersc) := fun x => (HBx.out x.W x.h).cell (j := 6) rfl
  have x0 : ∀ x : InC (fun W => Below w0.heap.size w0 W), x.W.cell? ⟨f.mb, 0, none⟩ = some (.pointer (some ⟨f.v, 0, none⟩)) := fun x => (HM.out x.W x.h).blk.cell (j := 0) rfl
  have x4 : ∀ x : InC (fun W => Below w0.heap.size w0 W), x.W.cell? ⟨f.mb, 4, none⟩ = some (.int .i64 a.num) := fun x => (HM.out x.W x.h).blk.cell (j := 4) rfl
  have HS := hide (show ∀ x : InC (fun W => Below w0.heap.size w0 W), Calls Try.prog 44 #[.agg #[.int .i64 sNum, .int .i64 sShapeBlocks, .int .i64 sShapeSize, .slice sPagesA sPagesn sPagesc, .slice sRowsA sRowsn sRowsc, .int .i64 sGroupEpoch, .slice sGroupMembersA sGroupMembersn sGroupMembersc]] x.W fun e w' => e = .returned (.bool (stateB (sNum, (sShapeBlocks, sShapeSize), sPages, sRows, (sGroupEpoch, sGroupMembers)))) ∧ Below x.W.heap.size x.W w' from fun x => mayState_any (hs0.below x.h))
  have HSh := hide (show ∀ x : InC (fun W => Below w0.heap.size w0 W), Calls Try.prog 31 #[.pointer (some ⟨f.v, 0, none⟩)] x.W fun e w' => e = .returned (shp a.b a.z) ∧ Below x.W.heap.size x.W w' from fun x => shapeOf_any x.W _ _ _ _ _ _ _ _ _ (HM.out x.W x.h).vol)
  go_enter Try.func22, Try.ntmps22
  go_wp2_with fail
  rw [Hw0.out]
  go_fit (made7_any h0)
  rintro xx w1 ⟨rfl, rfl⟩
  go_wp2_with fail
  refine wp_region_in (fun W => Below w0.heap.size w0 W) (Below.refl _ _).drew (by kernel_rfl) (by kernel_rfl) ?_
  repeat (go_big_quiet_step (first
    | (go_at_call 44; have hh := HS.out; rw [HX.out] at hh; exact Calls.in_below (hh _))
    | (go_at_call 31; exact Calls.in_below (HSh.out _))))
  refine wpQuiet_nil ?_
  intro _ hw'
  obtain ⟨nq, hw''⟩ := hw'
  subst hw''
  have hbq := nq.h
  have hMq := HM.out _ hbq
  have hBq := HBx.out _ hbq
  have hwq : Below w.heap.size w nq.W := hbw0.trans (hbq.mono hbw0.size)
  obtain ⟨w2, hw2⟩ : ∃ y, nq.W = y := ⟨_, rfl⟩
  rw [hw2] at hMq hBq hwq ⊢
  clear x0 x4 y0 y1 y2 y3 y4 y5 y6 hw2 hbq h0 hs0 HM HBx HS HSh
  have HN3 := hide (show ∀ X, Below w2.heap.size w2 X → VolIs X f.v f.r f.s a.b a.z NN a.bs a.vs a.last from fun X hX => (hMq.below hX).vol)
  have hPw := hP.below hwq
  have hrPw := hr_sPages.below hwq
  have HPt := hide (show ∀ X, Below w2.heap.size w2 X → Calls Try.prog 47 #[.pointer (some ⟨f.v, 0, none⟩), .slice sPagesA sPagesn sPagesc] X fun e w' => e = .returned (.int .i64 0) ∧ VolIs w' f.v f.r f.s a.b a.z NN (layB a.z a.bs sPages) (layV a.vs sPages) (layL a.last sPages) ∧ Upd f.v f.r f.s X w' from fun X hX => patch_ok2 X _ _ _ _ _ _ _ _ _ sPagesA sPagesn sPagesc sPagesv sPages (HN3.out X hX) HlP.out hc_sPages hm_sPages (hrPw.below hX) (fun hne x hx => HPx.out _ (hq_sPages hne x hx)) ((hPw.below hX).keep (fun _ _ h _ => h) HPx.out) X3.out)
  have KC := hide (show ∀ X, Below w2.heap.size w2 X → (X.cell? ⟨f.mb, 0, none⟩ = some (.pointer (some ⟨f.v, 0, none⟩)) ∧ X.cell? ⟨w.heap.size, 3, none⟩ = some (.slice sPagesA sPagesn sPagesc)) from fun X hX => ⟨(hMq.below hX).blk.cell (j := 0) rfl, (hBq.below hX).cell (j := 3) rfl⟩)
  have hlts := hMq.lts
  have l1 := h.lts
  have m1 := l1 _ (.inl rfl)
  have m2 := l1 _ (.inr (.inl rfl))
  have m3 := l1 _ (.inr (.inr (.inl rfl)))
  have m4 := l1 _ (.inr (.inr (.inr (.inl rfl))))
  have m5 := l1 _ (.inr (.inr (.inr (.inr rfl))))
  obtain ⟨hi1, hi2, hi3, hi4⟩ := h.hiB
  have n1 : f.mb ≠ f.v := by omega
  have n2 : f.mb ≠ f.r := by omega
  have n3 : f.mb ≠ f.s := by omega
  have KU := hide (show ∀ X, Upd f.v f.r f.s w2.drew X → (X.cell? ⟨f.mb, 0, none⟩ = some (.pointer (some ⟨f.v, 0, none⟩)) ∧ X.cell? ⟨w.heap.size, 3, none⟩ = some (.slice sPagesA sPagesn sPagesc)) from fun X hX => by
    have hF : Fr (fun b => b = f.v ∨ b = f.r ∨ b = f.s) w2 X := (Fr.refl _ w2).drew.trans (Fr.of_upd hX (.inl rfl) (.inr (.inl rfl)) (.inr (.inr rfl)))
    exact ⟨(hMq.blk.fr hF (by omega)).cell (j := 0) rfl, (hBq.fr hF (by omega)).cell (j := 3) rfl⟩)
  have S0 := KC.out w2.drew (Below.refl _ _).drew
  go_wp2_with fail
  go_region_held_law (fun X => X.cell? ⟨f.mb, 0, none⟩ = some (.pointer (some ⟨f.v, 0, none⟩)) ∧ X.cell? ⟨w.heap.size, 3, none⟩ = some (.slice sPagesA sPagesn sPagesc)) (first | with_reducible assumption) (first
    | (go_at_call 47; refine (HPt.out _ (Below.refl _ _).drew).mono ?_; rintro xx w3 ⟨rfl, hv3, hu3⟩; have S3 := KU.out _ hu3))
  all_goals
    have hF3 : Fr (fun b => b = f.v ∨ b = f.r ∨ b = f.s) w2 w3 := (Fr.refl _ w2).drew.trans (Fr.of_upd hu3 (.inl rfl) (.inr (.inl rfl)) (.inr (.inr rfl)))
    have hM3 := (hMq.below (Below.refl _ _).drew).upd hu3 hv3
    have hB3 := hBq.fr hF3 (by omega)
    have hs3 := hs.below hwq
    have F03 : Fr f.W w w3 := (Fr.of_below hwq).trans (hF3.mono fun b hb => by rcases hb with hb | hb | hb; exact .inr (.inl hb); exact .inr (.inr (.inl hb)); exact .inr (.inr (.inr (.inl hb))))
    have hE3 := hE.fr7 F03 hQ
    have hrE3 := hr_sRows.fr F03 (fun hne x hx hW => hQ _ (hq_sRows (fun e0 => hne (List.eq_nil_of_length_eq_zero (by rw [hE.1, e0]; rfl))) x hx) hW)
    have hrM3 := hr_sGroupMembers.fr F03 (fun hne x hx hW => hQ _ (hq_sGroupMembers (fun e0 => hne (by rw [e0]; rfl)) x hx) hW)
    clear hs3 S3 S0
    have y4 := hB3.cell (j := 4) rfl
    have s3 := F03.size
    go_wp2_with fail
    go_fit (tload_any sRowsA sRowsn sRowsc sRowsv sRows Q w3 HlE.out hrE3 hE3 X4.out)
    rintro xx w4 ⟨t, bm, N4, D4, tm, rfl, hT4, hN4, hsz4, hm4, hb4⟩
    have hM4 := hM3.below hb4
    have hB4 := hB3.below hb4
    have hrM4 := hrM3.below hb4
    have hdt := hT4.dataB
    obtain ⟨tB1, tB2⟩ := hT4.hB
    have tl4 := hT4.blk.lt
    have bl4 := hT4.own.lt
    have s4 := hb4.size
    have xf1 := hM4.blk.frozen 1
    have xx1 := hM4.blk.cell (j := 1) rfl
    obtain ⟨w5, hw5⟩ : ∃ y, w4.setCell ⟨f.mb, 1, none⟩ (.pointer (some ⟨t, 0, none⟩)) = y := ⟨_, rfl⟩
    have hF5 : Fr (fun b => b = f.mb) w4 w5 := by rw [← hw5]; exact Fr.setg w4 f.mb 1 _
    have hK5 : Blk w5 f.mb [.pointer (some ⟨f.v, 0, none⟩), .pointer (some ⟨t, 0, none⟩), .int .i64 a.ep, .slice G gn gc, .int .i64 a.num] 70 := by rw [← hw5]; exact hM4.blk.set 1 _
    have hB5 := hB4.fr hF5 (by omega)
    have hrM5 := hrM4.fr hF5 (fun hne x hx hW => hQ _ (hq_sGroupMembers (fun e0 => hne (by rw [e0]; rfl)) x hx) (.inl hW))
    have hV5 := hM4.vol.fr hF5 (by omega) (by omega) (by omega)
    have hT5 := hT4.fr hF5 (by omega) (by omega) (hdt.mono fun b hb => by omega)
    have s5 := hF5.size
    have Hw5 := hide hw5
    have HN4 := hide hN4
    have Hsz4 := hide hsz4
    have Hm4 := hide hm4
    have hB45 := hB4.apart (k := f.mb) (by omega) 1 (.pointer (some ⟨t, 0, none⟩))
    have y5 := hB45.cell (j := 5) rfl
    have y6 := hB45.cell (j := 6) rfl
    clear hw5 hN4 hsz4 hm4 y4 hT4 hM4 hM3 hMq
    have hgs : f.mb ≠ w.heap.size := by omega
    go_wp2_with fail
    rw [Hw5.out]
    clear xf1 xx1
    go_fit (cloneG_any sGroupEpoch sGroupMembersA sGroupMembersn sGroupMembersc sGroupMembers w5 HlM.out (by omega) hrM5)
    rintro xx w6 ⟨GA, gcap, rfl, hgc, hgm, hgr, hga, hb6⟩
    have hK6 := hK5.below hb6
    have hB6 := hB5.below hb6
    have s6 := hb6.size
    have xf2 := hK6.frozen 2
    have xf3 := hK6.frozen 3
    have xf4 := hK6.frozen 4
    have xx2 := hK6.cell (j := 2) rfl
    have xx3 := hK6.cell (j := 3) rfl
    have xx4 := hK6.cell (j := 4) rfl
    have hF7 : Fr (fun b => b = f.mb) w6 (((w6.setCell ⟨f.mb, 2, none⟩ (.int .i64 sGroupEpoch)).setCell ⟨f.mb, 3, none⟩ (.slice GA sGroupMembersn gcap)).setCell ⟨f.mb, 4, none⟩ (.int .i64 sNum)) := ((Fr.setg w6 f.mb 2 _).trans (Fr.setg _ f.mb 3 _)).trans (Fr.setg _ f.mb 4 _)
    have hK7 := ((hK6.set 2 (.int .i64 sGroupEpoch)).set 3 (.slice GA sGroupMembersn gcap)).set 4 (.int .i64 sNum)
    have hF27 : Fr (fun b => b = f.mb) w6 ((w6.setCell ⟨f.mb, 2, none⟩ (.int .i64 sGroupEpoch)).setCell ⟨f.mb, 3, none⟩ (.slice GA sGroupMembersn gcap)) := (Fr.setg w6 f.mb 2 _).trans (Fr.setg _ f.mb 3 _)
    clear y5 y6
    have y0 := (hB6.fr hF27 (by omega)).cell (j := 0) rfl
    have hV7 := (hV5.below hb6).fr hF7 (by omega) (by omega) (by omega)
    have hT7 := (hT5.below hb6).fr hF7 (by omega) (by omega) (hdt.mono fun b hb => by omega)
    have hG7 := hgr.fr hF7 (fun _ x hx => by have := hga x hx; omega)
    have hGl : ∀ x, GA = some x → x.block < w6.heap.size := rd_block hgr (fun e => by have e2 : sGroupMembers.length = 0 := (by simpa [ints] using congrArg List.length e); omega)
    have FW : Fr f.W w (((w6.setCell ⟨f.mb, 2, none⟩ (.int .i64 sGroupEpoch)).setCell ⟨f.mb, 3, none⟩ (.slice GA sGroupMembersn gcap)).setCell ⟨f.mb, 4, none⟩ (.int .i64 sNum)) := (((F03.trans (Fr.of_below hb4)).trans (hF5.mono fun b hb => .inl hb)).trans (Fr.of_below hb6)).trans (hF7.mono fun b hb => .inl hb)
    have HK7 := hide hK7
    have HV7 := hide hV7
    have HT7 := hide hT7
    have HG7 := hide hG7
    have HFW := hide FW
    clear hK7 hV7 hT7 hG7 FW hF7 hF27
    go_wp2
    go_ret
    have e1 := tmOf_eq Hm4.out
    subst e1
    have hBle : B ≤ w3.heap.size := by omega
    have hnY : ∀ b, w3.heap.size ≤ b → ¬ Y b := fun b h1 h2 => by have := hY b h2; omega
    obtain ⟨yA1, yA2, yA3, yA4, yA5, yA6⟩ := h.yA
    refine ⟨rfl, ⟨{ f with t := t, bm := bm }, rfl, rfl, rfl, rfl, ⟨NN, B, D4, GA, sGroupMembersn, gcap, ?_⟩, .inr (by show w.heap.size ≤ bm; omega)⟩, HFW.out⟩
    exact { blk := HK7.out, vol := HV7.out, tab := (HT7.out.weak hBle).upto (by rw [HN4.out]; exact r64), sz := Hsz4.out, gr := HG7.out, gl := HlM.out, gc_ := ⟨hgc, hgm⟩, ok := X5.out, lo := h.lo, hiB := h.hiB, ne := by show f.mb ≠ t ∧ f.mb ≠ bm; omega
            gA := fun x hx => by have := hGl x hx; have := hga x hx; exact ⟨by omega, by show x.block ≠ f.mb; omega, by show x.block ≠ bm; omega, by show x.block ≠ t; omega, hnY _ (by omega)⟩
            dA := hdt.mono fun b hb => ⟨by show b ≠ f.mb; omega, hnY _ (by omega)⟩
            yA := ⟨yA1, yA2, yA3, yA4, hnY _ (by show w3.heap.size ≤ t; omega), hnY _ (by show w3.heap.size ≤ bm; omega)⟩ }
end
end Go.Proofs.Ytkknkdjdneldlaa
namespace Go.Proofs.Ytkknkdjdneldlaa
set_option maxRecDepth 20000
open Go.RowKit Go.Px Go.Maps
set_option linter.unusedVariables false
set_option maxRecDepth 20000 in
set_option maxHeartbeats 1600000 in
theorem trload_at (A : Option Addr) (n c : Nat) (cs : List Value) (es : List RowT) (Q : Nat → Prop) (w : World) (hn : es.length = n) (hr : Rd w A cs) (hE : RwRows w Q cs es) (hB : rowsB es = true) :
    Calls Try.prog 61 #[.slice A n c] w fun e w' => ∃ r A' c', e = .returned (.tuple #[.pointer (some ⟨r, 0, none⟩), .int .i64 0]) ∧ RfIs w' r A' n c' cs es ∧ w.heap.size ≤ r ∧ (∀ a, A' = some a → w.heap.size ≤ a.block) ∧ Below w.heap.size w w' := by
  obtain ⟨h64, _, _⟩ := rowsB_out hB
  have HB := hide hB
  have hl := hE.1
  clear hB
  go_enter Try.func61, Try.ntmps61
  go_wp2_with fail
  go_fit (right_any A n c cs es Q w hn hr hE)
  rw [HB.out]
  rintro x w1 ⟨rfl, hb1⟩
  have hown : (w1.alloc (.cells #[] 108)).ownsRow w1.heap.size 108 4 (.slice (some ⟨w1.heap.size, 0, none⟩) 0 0) 0 [] := own_made #[] 0 0 (Nat.le_refl _) (Nat.le_refl _) (by decide) (by simp)
  have hb2 : Below w.heap.size w (w1.alloc (.cells #[] 108)) := hb1.alloc hb1.size _
  have hr2 := hr.below hb2
  have sz1 := hb1.size
  have ho0 : ∀ g, (Value.slice (some ⟨w1.heap.size, 0, none⟩) 0 0).ownBlock = some g → w.heap.size ≤ g := by
    intro g hg
    have hg' : w1.heap.size = g := by simpa [Value.ownBlock] using hg
    omega
  go_wp2_with (first | (with_reducible refine stop_append rfl ?_) | (with_reducible refine stop_copy rfl ?_) | (with_reducible refine stop_make rfl ?_))
  refine go_append rfl rfl tRows rfl hown rfl (m := n) (news := cs) (by omega) hr2 (rows_one hE) (by omega) (by omega) (by simp) ?_
  intro v w3 ho3 hg3 hv3
  have hb3 : Below w.heap.size w w3 := hb2.grown hg3 (by simp; omega) ho0
  obtain ⟨A1, c1, hv1, hl1, hc1, hcm1, hr1, ha1⟩ := own_out ho3
  subst hv1
  have sz3 := hb3.size
  go_wp2
  go_ret2
  refine ⟨w3.heap.size, A1, c1, by simp, ?_, sz3, (fun a ha => by have := (ha1 a ha).1; omega), hb3.alloc sz3 _⟩
  have hbz : Below w3.heap.size w3 (w3.alloc (.cells #[.slice A1 (0 + n) c1] 80)) := (Below.refl _ _).alloc (Nat.le_refl _) _
  rw [Nat.zero_add] at *
  exact ⟨Blk.new w3 [.slice A1 n c1] _, hn, hc1, by unfold maxLen at hcm1; omega, by simpa using hr1.below hbz, (hE.below (hb3.trans (hbz.mono sz3))).keep (fun _ _ h _ => h) (fun _ _ => trivial)⟩
/-- The blocks that the document's machine writes. -/
structure RFp where
  rb : Nat
  rv : Nat
  gb : Nat
  gv : Nat
  rt : Nat
def RFp.W (f : RFp) (k : Nat) : Prop := k = f.rb ∨ k = f.rv ∨ k = f.gb ∨ k = f.gv ∨ k = f.rt
/-- The document's machine in memory: nothing of it lies in Y; its volume's lies from lo on. -/
structure RMIs (w : World) (lo : Nat) (Y : Nat → Prop) (f : RFp) (a : MA) (NN cb cv n c : Nat) (rows sv cs : List Value) (A G : Option Addr) (gn gc : Nat) : Prop where
  blk : Blk w f.rb [.int .i64 a.num, .pointer (some ⟨f.rv, 0, none⟩), .pointer (some ⟨f.rt, 0, none⟩), .int .i64 a.ep, .slice G gn gc] 82
  vol : RVolIs w lo f.rv f.gb f.gv cb cv a.b a.z NN rows sv a.bs a.vs a.last
  tab : RfIs w f.rt A n c cs a.rows
  rq : RwRows w (fun b => ¬ Y b ∧ ¬ f.W b) cs a.rows
  aq : a.rows ≠ [] → ∀ x, A = some x → ¬ Y x.block ∧ ¬ f.W x.block
  gr : Rd w G (ints a.ms)
  gl : a.ms.length = gn
  gc_ : gn ≤ gc ∧ gc ≤ 9223372036854775807
  ok : grpOk a.ep a.ms = true
  gq : ∀ x, G = some x → ¬ Y x.block ∧ ¬ f.W x.block
  hY : ∀ b, Y b → b < lo
  lo2 : lo ≤ f.rb ∧ lo ≤ f.rt
  ne : f.rb ≠ f.rv ∧ f.rb ≠ f.gb ∧ f.rb ≠ f.gv ∧ f.rb ≠ f.rt ∧ f.rt ≠ f.rv ∧ f.rt ≠ f.gb ∧ f.rt ≠ f.gv
/-- .. somehow. -/
def RMX (w : World) (lo : Nat) (Y : Nat → Prop) (f : RFp) (a : MA) : Prop := ∃ NN cb cv n c rows sv cs A G gn gc, RMIs w lo Y f a NN cb cv n c rows sv cs A G gn gc
section
variable {X Y : Nat → Prop} {w w' : World} {lo : Nat} {f : RFp} {a : MA} {NN cb cv n c : Nat} {rows sv cs : List Value} {A G : Option Addr} {gn gc : Nat}
theorem RVolIs.fr {rv gb gv b z N : Nat} {bs : List UInt8} {vs : List Int} {last : Int} (h : RVolIs w lo rv gb gv cb cv b z N rows sv bs vs last) (hf : Fr X w w') (hx : ∀ b, X b → b < w.heap.size → b < lo) : RVolIs w' lo rv gb gv cb cv b z N rows sv bs vs last := by
  obtain ⟨l1, l2, l3⟩ := h.hlo
  exact { h with
    blk := h.blk.fr hf (fun hX => by have := hx _ hX h.blk.lt; omega)
    row := h.row.fr hf (fun hX => by have := hx _ hX h.row.lt; omega)
    ver := h.ver.fr hf (fun hX => by have := hx _ hX h.ver.lt; omega)
    cells := fun i hi => by
      obtain ⟨A, c, h1, h2, h3, h4, h5⟩ := h.cells i hi
      exact ⟨A, c, h1, h2, h3, h4.fr hf (fun hne a ha hX => by have := hx _ hX (rd_block h4 hne a ha); have := (h5 a ha).1; omega), h5⟩ }
theorem RfIs.fr {Q : Nat → Prop} {r : Nat} {es : List RowT} (h : RfIs w r A n c cs es) (hq : RwRows w Q cs es) (hA : es ≠ [] → ∀ x, A = some x → Q x.block) (hf : Fr X w w') (h1 : ¬ X r) (hx : ∀ b, X b → b < w.heap.size → ¬ Q b) : RfIs w' r A n c cs es ∧ RwRows w' Q cs es := by
  have hq' : RwRows w' Q cs es := by
    refine ⟨hq.1, fun j e he => ?_⟩
    obtain ⟨D, d, dc, q1, q2, q3, q4, q5, q6, q7, q8, q9, q10⟩ := hq.2 j e he
    refine ⟨D, d, dc, q1, q2, q3, q4, q5, q6, q7, q8, q9.fr hf (fun hne a ha hX => ?_), q10⟩
    exact hx _ hX (rd_block q9 hne a ha) (q10 (fun e0 => hne (by rw [e0]; rfl)) a ha)
  refine ⟨⟨h.blk.fr hf h1, h.len, h.nc, h.cm, h.rd.fr hf (fun hne a ha hX => ?_), hq'.keep (fun _ _ h _ => h) (fun _ _ => trivial)⟩, hq'⟩
  refine hx _ hX (rd_block h.rd hne a ha) (hA (fun e0 => hne ?_) a ha)
  have := hq.1
  rw [e0] at this
  exact List.eq_nil_of_length_eq_zero (by simpa using this)
theorem RMIs.fr (h : RMIs w lo Y f a NN cb cv n c rows sv cs A G gn gc) (hf : Fr X w w') (hX : ∀ b, X b → b < w.heap.size → Y b) : RMIs w' lo Y f a NN cb cv n c rows sv cs A G gn gc := by
  obtain ⟨l1, l2, l3⟩ := h.vol.hlo
  obtain ⟨l4, l5⟩ := h.lo2
  have nx : ∀ b, b < w.heap.size → lo ≤ b → ¬ X b := fun b h1 h2 h3 => by have := h.hY _ (hX b h3 h1); omega
  obtain ⟨t1, t2⟩ := h.tab.fr h.rq h.aq hf (nx _ h.tab.blk.lt l5) (fun b h1 h2 h3 => h3.1 (hX b h1 h2))
  exact { h with
    blk := h.blk.fr hf (nx _ h.blk.lt l4)
    vol := h.vol.fr hf (fun b h1 h2 => h.hY _ (hX b h1 h2))
    tab := t1
    rq := t2
    gr := h.gr.fr hf (fun hne x hx hX' => (h.gq x hx).1 (hX _ hX' (rd_block h.gr hne x hx))) }
theorem RMIs.below (h : RMIs w lo Y f a NN cb cv n c rows sv cs A G gn gc) (hb : Below w.heap.size w w') : RMIs w' lo Y f a NN cb cv n c rows sv cs A G gn gc :=
  h.fr (X := fun _ => False) (Fr.of_below hb) (fun b h => h.elim)
theorem RMX.fr (h : RMX w lo Y f a) (hf : Fr X w w') (hX : ∀ b, X b → b < w.heap.size → Y b) : RMX w' lo Y f a := by
  obtain ⟨NN, cb, cv, n, c, rows, sv, cs, A, G, gn, gc, h⟩ := h
  exact ⟨NN, cb, cv, n, c, rows, sv, cs, A, G, gn, gc, h.fr hf hX⟩
theorem RMX.below (h : RMX w lo Y f a) (hb : Below w.heap.size w w') : RMX w' lo Y f a :=
  h.fr (X := fun _ => False) (Fr.of_below hb) (fun b h => h.elim)
theorem RMX.low (h : RMX w lo Y f a) : ∀ k, f.W k → lo ≤ k := by
  obtain ⟨NN, cb, cv, n, c, rows, sv, cs, A, G, gn, gc, h⟩ := h
  obtain ⟨l1, l2, l3⟩ := h.vol.hlo
  obtain ⟨l4, l5⟩ := h.lo2
  rintro k (rfl | rfl | rfl | rfl | rfl) <;> assumption
theorem RMX.lts (h : RMX w lo Y f a) : ∀ k, f.W k → k < w.heap.size := by
  obtain ⟨NN, cb, cv, n, c, rows, sv, cs, A, G, gn, gc, h⟩ := h
  rintro k (rfl | rfl | rfl | rfl | rfl)
  · exact h.blk.lt
  · exact h.vol.blk.lt
  · exact h.vol.row.lt
  · exact h.vol.ver.lt
  · exact h.tab.blk.lt
end
set_option maxRecDepth 20000 in
set_option maxHeartbeats 3200000 in
theorem rload7_bad {w : World} {Q : Nat → Prop} {x : StateD} {cs : List Value} (h : tyState.Is w Q x cs) (hx : stateB x = false) : Calls Try.prog 39 #[.agg cs.toArray] w fun e w' => e = .returned (.tuple #[.pointer none, .int .i64 72]) ∧ Below w.heap.size w w' := by
  have h' := h
  obtain ⟨sNum, sShapeBlocks, sShapeSize, sPages, sPagesA, sPagesn, sPagesc, sPagesv, sRows, sRowsA, sRowsn, sRowsc, sRowsv, sGroupEpoch, sGroupMembers, sGroupMembersA, sGroupMembersn, sGroupMembersc, sGroupMembersv, rfl, rfl, h1_sNum, h2_sNum, h1_sShapeBlocks, h2_sShapeBlocks, h1_sShapeSize, h2_sShapeSize, hl_sPages, hc_sPages, hm_sPages, hr_sPages, hq_sPages, he_sPages, hl_sRows, hc_sRows, hm_sRows, hr_sRows, hq_sRows, he_sRows, h1_sGroupEpoch, h2_sGroupEpoch, hl_sGroupMembers, hc_sGroupMembers, hm_sGroupMembers, hr_sGroupMembers, hq_sGroupMembers, he_sGroupMembers⟩ := State_out h'
  obtain ⟨w0, hw0⟩ : ∃ x, w.alloc (.cells #[.int .i64 sNum, .int .i64 sShapeBlocks, .int .i64 sShapeSize, .slice sPagesA sPagesn sPagesc, .slice sRowsA sRowsn sRowsc, .int .i64 sGroupEpoch, .slice sGroupMembersA sGroupMembersn sGroupMembersc] 39) = x := ⟨_, rfl⟩; have hBw0 : Blk w0 w.heap.size [.int .i64 sNum, .int .i64 sShapeBlocks, .int .i64 sShapeSize, .slice sPagesA sPagesn sPagesc, .slice sRowsA sRowsn sRowsc, .int .i64 sGroupEpoch, .slice sGroupMembersA sGroupMembersn sGroupMembersc] 39 := (by rw [← hw0]; exact Blk.new w [.int .i64 sNum, .int .i64 sShapeBlocks, .int .i64 sShapeSize, .slice sPagesA sPagesn sPagesc, .slice sRowsA sRowsn sRowsc, .int .i64 sGroupEpoch, .slice sGroupMembersA sGroupMembersn sGroupMembersc] _); have hbw0 : Below w.heap.size w w0 := (by rw [← hw0]; exact (Below.refl _ _).alloc (Nat.le_refl _) _); have Hw0 := hide hw0; clear hw0
  have h0 := h.below hbw0
  have y0 := Blk.cell hBw0 (j := 0) rfl; have y1 := Blk.cell hBw0 (j := 1) rfl; have y2 := Blk.cell hBw0 (j := 2) rfl; have y3 := Blk.cell hBw0 (j := 3) rfl; have y4 := Blk.cell hBw0 (j := 4) rfl; have y5 := Blk.cell hBw0 (j := 5) rfl; have y6 := Blk.cell hBw0 (j := 6) rfl
  have HX := hide hx
  clear hx
  go_enter Try.func39, Try.ntmps39
  go_wp2_with fail
  rw [Hw0.out]
  go_fit (rstate_any h0)
  rw [stE_no HX.out]
  rintro xx w1 ⟨rfl, hb1⟩
  go_wp2
  go_ret2
  exact ⟨rfl, hbw0.trans (hb1.mono hbw0.size)⟩
set_option maxRecDepth 20000 in
set_option maxHeartbeats 6400000 in
theorem rload7_any {w : World} {Q Y : Nat → Prop} {x : StateD} {cs : List Value} (h : tyState.Is w Q x cs) (hx : stateB x = true) (hQ : ∀ b, Q b → ¬ Y b) (hY : ∀ b, Y b → b < w.heap.size) : Calls Try.prog 39 #[.agg cs.toArray] w fun e w' =>
    ∃ f, e = .returned (.tuple #[.pointer (some ⟨f.rb, 0, none⟩), .int .i64 0]) ∧ RMX w' w.heap.size Y f (MA.of x) ∧ Below w.heap.size w w' := by
  have h' := h.here
  obtain ⟨sNum, sShapeBlocks, sShapeSize, sPages, sPagesA, sPagesn, sPagesc, sPagesv, sRows, sRowsA, sRowsn, sRowsc, sRowsv, sGroupEpoch, sGroupMembers, sGroupMembersA, sGroupMembersn, sGroupMembersc, sGroupMembersv, rfl, rfl, h1_sNum, h2_sNum, h1_sShapeBlocks, h2_sShapeBlocks, h1_sShapeSize, h2_sShapeSize, hl_sPages, hc_sPages, hm_sPages, hr_sPages, hq_sPages, he_sPages, hl_sRows, hc_sRows, hm_sRows, hr_sRows, hq_sRows, he_sRows, h1_sGroupEpoch, h2_sGroupEpoch, hl_sGroupMembers, hc_sGroupMembers, hm_sGroupMembers, hr_sGroupMembers, hq_sGroupMembers, he_sGroupMembers⟩ := State_out h'
  obtain ⟨x1, x2, x3, x4, x5, x6⟩ := stateB_out hx
  simp only at x1 x2 x3 x4 x5 x6
  obtain ⟨sShapeBlocks, sShapeSize, rfl, rfl, hb, hz⟩ := shE_out x2
  have hP := pg_of he_sPages
  have hE := rw_of he_sRows
  obtain ⟨hmi, _⟩ := i64rows he_sGroupMembers
  subst hmi
  obtain ⟨w0, hw0⟩ : ∃ x, w.alloc (.cells #[.int .i64 sNum, .int .i64 sShapeBlocks, .int .i64 sShapeSize, .slice sPagesA sPagesn sPagesc, .slice sRowsA sRowsn sRowsc, .int .i64 sGroupEpoch, .slice sGroupMembersA sGroupMembersn sGroupMembersc] 39) = x := ⟨_, rfl⟩; have hBw0 : Blk w0 w.heap.size [.int .i64 sNum, .int .i64 sShapeBlocks, .int .i64 sShapeSize, .slice sPagesA sPagesn sPagesc, .slice sRowsA sRowsn sRowsc, .int .i64 sGroupEpoch, .slice sGroupMembersA sGroupMembersn sGroupMembersc] 39 := (by rw [← hw0]; exact Blk.new w [.int .i64 sNum, .int .i64 sShapeBlocks, .int .i64 sShapeSize, .slice sPagesA sPagesn sPagesc, .slice sRowsA sRowsn sRowsc, .int .i64 sGroupEpoch, .slice sGroupMembersA sGroupMembersn sGroupMembersc] _); have hbw0 : Below w.heap.size w w0 := (by rw [← hw0]; exact (Below.refl _ _).alloc (Nat.le_refl _) _); have Hw0 := hide hw0; clear hw0
  have h0 := h.below hbw0
  have hP0 := hP.below hbw0
  have hE0 := hE.below hbw0
  have hrP := hr_sPages.below hbw0
  have hrE := hr_sRows.below hbw0
  have hrM := hr_sGroupMembers.below hbw0
  have gl := grp_len x5
  have hgd := good_of_mpA (by omega) x3
  have HlP := hide hl_sPages
  have HlE := hide hl_sRows
  have HlM := hide hl_sGroupMembers
  have HqE := hide hq_sRows
  have HqM := hide hq_sGroupMembers
  have HX := hide hx
  have X3 := hide x3
  have X4 := hide x4
  have X5 := hide x5
  have r64 := (rowsB_out x4).1
  have hgn : sGroupMembersn ≤ 9 := by rw [← HlM.out]; exact gl.2
  have hgp : 1 ≤ sGroupMembersn := by rw [← HlM.out]; exact gl.1
  have y0 := Blk.cell hBw0 (j := 0) rfl; have y1 := Blk.cell hBw0 (j := 1) rfl; have y2 := Blk.cell hBw0 (j := 2) rfl; have y3 := Blk.cell hBw0 (j := 3) rfl; have y4 := Blk.cell hBw0 (j := 4) rfl; have y5 := Blk.cell hBw0 (j := 5) rfl; have y6 := Blk.cell hBw0 (j := 6) rfl
  clear hl_sPages hl_sRows hl_sGroupMembers hq_sPages hq_sRows hq_sGroupMembers he_sPages he_sRows he_sGroupMembers hP hE hr_sPages hr_sRows hr_sGroupMembers hx x1 x2 x3 x4 x5 x6 h
  go_enter Try.func39, Try.ntmps39
  go_wp2_with fail
  rw [Hw0.out]
  go_fit (rstate_any h0)
  rw [stE_ok HX.out]
  rintro xx w1 ⟨rfl, hb1⟩
  have h01 : Below w0.heap.size w0 w1 := hb1
  have hB1 := hBw0.below h01
  have hP1 := hP0.below h01
  have hrP1 := hrP.below h01
  clear y0 y1 y2 y3 y4 y5 y6
  have y0 := Blk.cell hB1 (j := 0) rfl; have y1 := Blk.cell hB1 (j := 1) rfl; have y2 := Blk.cell hB1 (j := 2) rfl; have y3 := Blk.cell hB1 (j := 3) rfl; have y4 := Blk.cell hB1 (j := 4) rfl; have y5 := Blk.cell hB1 (j := 5) rfl; have y6 := Blk.cell hB1 (j := 6) rfl
  go_wp2_with fail
  go_fit (rload_okP sShapeBlocks sShapeSize (sShapeBlocks * sShapeSize) w1 hb hz rfl sPagesA sPagesn sPagesc sPagesv sPages HlP.out hc_sPages hm_sPages hrP1 hP1 (fun hne => rd_cells_lt hrP1 hP1.1 hne) (hP1.goodlt hgd hz.1) X3.out)
  rintro xx w2 ⟨rv, gb, gv, cb, cv, rows, sv, rfl, hV2, hb2⟩
  have h02 := h01.trans (hb2.mono h01.size)
  have hB2 := hBw0.below h02
  clear y0 y1 y2 y3 y4 y5 y6
  have y0 := Blk.cell hB2 (j := 0) rfl; have y1 := Blk.cell hB2 (j := 1) rfl; have y2 := Blk.cell hB2 (j := 2) rfl; have y3 := Blk.cell hB2 (j := 3) rfl; have y4 := Blk.cell hB2 (j := 4) rfl; have y5 := Blk.cell hB2 (j := 5) rfl; have y6 := Blk.cell hB2 (j := 6) rfl
  go_wp2_with fail
  go_fit (trload_at sRowsA sRowsn sRowsc sRowsv sRows _ w2 HlE.out (hrE.below h02) (hE0.below h02) X4.out)
  rintro xx w3 ⟨rt, A', c', rfl, hT3, hrt, hA', hb3⟩
  have h03 := h02.trans (hb3.mono h02.size)
  have hB3 := hBw0.below h03
  have hV3 := hV2.below hb3
  have hrM3 := hrM.below h03
  have hE3 := hE0.below h03
  have z0 := hbw0.size
  have z1 := h01.size
  have z2 := hb2.size
  have z3 := hb3.size
  have v1 := hV2.blk.lt
  have v2 := hV2.row.lt
  have v3 := hV2.ver.lt
  obtain ⟨l1, l2, l3⟩ := hV2.hlo
  have tl := hT3.blk.lt
  clear y0 y1 y2 y3 y4 y5 y6 hV2
  have y0 := hB3.cell (j := 0) rfl
  have y5 := hB3.cell (j := 5) rfl
  have y6 := hB3.cell (j := 6) rfl
  obtain ⟨w4, hw4⟩ : ∃ y, w3.alloc (.cells #[.int .i64 sNum, .pointer (some ⟨rv, 0, none⟩), .pointer (some ⟨rt, 0, none⟩), .int .i64 sGroupEpoch, .slice sGroupMembersA sGroupMembersn sGroupMembersc] 82) = y := ⟨_, rfl⟩
  have hM4 : Blk w4 w3.heap.size [.int .i64 sNum, .pointer (some ⟨rv, 0, none⟩), .pointer (some ⟨rt, 0, none⟩), .int .i64 sGroupEpoch, .slice sGroupMembersA sGroupMembersn sGroupMembersc] 82 := by rw [← hw4]; exact Blk.new w3 [.int .i64 sNum, .pointer (some ⟨rv, 0, none⟩), .pointer (some ⟨rt, 0, none⟩), .int .i64 sGroupEpoch, .slice sGroupMembersA sGroupMembersn sGroupMembersc] _
  have hb34 : Below w3.heap.size w3 w4 := by rw [← hw4]; exact (Below.refl _ _).alloc (Nat.le_refl _) _
  have Hw4 := hide hw4
  clear hw4
  go_wp2
  rw [Hw4.out]
  go_ret2
  have hWlo : ∀ b, (⟨w3.heap.size, rv, gb, gv, rt⟩ : RFp).W b → w.heap.size ≤ b := by
    rintro b (h | h | h | h | h) <;> simp only at h <;> omega
  have q1 : ∀ b, (Q b ∧ b < w.heap.size) → ¬ Y b ∧ ¬ (⟨w3.heap.size, rv, gb, gv, rt⟩ : RFp).W b := fun b hb => ⟨hQ b hb.1, fun hW => by have := hWlo b hW; omega⟩
  refine ⟨⟨w3.heap.size, rv, gb, gv, rt⟩, rfl, ⟨sShapeBlocks * sShapeSize, cb, cv, sRowsn, c', rows, sv, sRowsv, A', sGroupMembersA, sGroupMembersn, sGroupMembersc, ?_⟩, (hbw0.trans (h03.mono hbw0.size)).trans (hb34.mono (by omega))⟩
  have hT4 := hT3.below hb34
  have hE4 := (hE3.below hb34).keep (fun _ _ h _ => h) q1
  have haq : sRows ≠ [] → ∀ x, A' = some x → ¬ Y x.block ∧ ¬ (⟨w3.heap.size, rv, gb, gv, rt⟩ : RFp).W x.block := by
    intro hne x hx
    have h1 := hA' x hx
    obtain ⟨e0, er, he⟩ := List.exists_cons_of_ne_nil hne
    obtain ⟨D, d, dc, k0, _⟩ := hT3.rows.2 0 e0 (by rw [he]; rfl)
    have h2 := rd_block hT3.rd (fun e => by rw [e] at k0; simp at k0) x hx
    refine ⟨fun hy => by have := hY _ hy; omega, ?_⟩
    rintro (h | h | h | h | h) <;> simp only at h
    · omega
    · omega
    · omega
    · omega
    · exact rd_sepV hT3.blk hT3.rd (k := .i64) k0 x hx h
  exact { blk := hM4, vol := (hV3.below hb34).lower (by omega), tab := hT4, rq := hE4
          aq := haq
          gr := hrM3.below hb34, gl := HlM.out, gc_ := ⟨hc_sGroupMembers, hm_sGroupMembers⟩, ok := X5.out
          gq := fun x hx => q1 _ (HqM.out (fun e0 => by have := HlM.out; rw [e0] at this; simp at this; omega) x hx)
          hY := hY, lo2 := by simp only; omega, ne := by simp only; omega }
end Go.Proofs.Ytkknkdjdneldlaa
namespace Go.Proofs.Ytkknkdjdneldlaa
set_option maxRecDepth 20000
open Go.RowKit Go.Px Go.Maps
set_option linter.unusedVariables false
set_option maxRecDepth 20000 in
set_option maxHeartbeats 1600000 in
theorem rnew7_bad (b z e : Int) (A : Option Addr) (n c : Nat) (ms : List Int) (w : World) (hn : ms.length = n) (hr : Rd w A (ints ms)) (hE : newE b z e ms ≠ 0) :
    Calls Try.prog 9 #[shp b z, grp e A n c] w fun x w' => x = .returned (.tuple #[.pointer none, .int .i64 (newE b z e ms)]) ∧ Below w.heap.size w w' := by
  obtain ⟨w0, hw0⟩ : ∃ x, (w.alloc (.cells #[.int .i64 b, .int .i64 z] 23)).alloc (.cells #[.int .i64 e, .slice A n c] 26) = x := ⟨_, rfl⟩
  have hP : Blk w0 w.heap.size [.int .i64 b, .int .i64 z] 23 := by rw [← hw0]; exact (Blk.new w [.int .i64 b, .int .i64 z] _).alloc _
  have hZ : Blk w0 (w.heap.size + 1) [.int .i64 e, .slice A n c] 26 := by
    rw [← hw0]
    have := Blk.new (w.alloc (.cells #[.int .i64 b, .int .i64 z] 23)) [.int .i64 e, .slice A n c] 26
    rwa [World.size_alloc] at this
  have hb0 : Below w.heap.size w w0 := by rw [← hw0]; exact ((Below.refl _ _).alloc (Nat.le_refl _) _).alloc (by simp) _
  have Hw0 := hide hw0
  have Hn := hide hn
  have y0 := hP.cell (j := 0) rfl
  have y1 := hP.cell (j := 1) rfl
  have hr0 := hr.below hb0
  clear hw0 hn
  by_cases hs : shE b z = 0
  · have hg : newE b z e ms = gE e ms := if_pos hs
    rw [hg] at hE
    have h71 : gE e ms = 71 := by
      unfold gE at hE ⊢
      split at hE
      · exact absurd rfl hE
      · rename_i hq; rw [if_neg hq]
    have HG := hide (hg.trans h71)
    have H7 := hide h71
    obtain ⟨b, z, rfl, rfl, hb, hz⟩ := shE_out hs
    clear hs hg hE h71
    go_enter Try.func9, Try.ntmps9
    go_wp2_with fail
    rw [Hw0.out]
    go_fit (rnew_full b z (b * z) w0 hb hz rfl)
    rintro xx w1 ⟨rv, gb, gv, cb, cv, rows, sv, rfl, _, hb1⟩
    have z0 := (hZ.below hb1).cell (j := 0) rfl
    have z1 := (hZ.below hb1).cell (j := 1) rfl
    go_wp2_with fail
    go_fit (rgroup_any e A n c ms w1 Hn.out (hr0.below hb1))
    rw [H7.out]
    rintro xx w2 ⟨rfl, hb2⟩
    go_wp2
    go_ret2
    have hb02 := hb0.trans (hb1.mono hb0.size)
    exact ⟨by rw [HG.out]; rfl, hb02.trans (hb2.mono hb02.size)⟩
  · have hg : newE b z e ms = shE b z := if_neg hs
    have q : (shE b z != 0) = true := by simpa using hs
    have HG := hide hg
    have C := hide (rnew_bad b z w0 hs)
    clear hs hg hE
    obtain ⟨E, hEE⟩ : ∃ E, shE b z = E := ⟨_, rfl⟩
    rw [hEE] at q C
    have HE := hide hEE
    clear hEE
    go_enter Try.func9, Try.ntmps9
    go_wp2_with fail
    rw [Hw0.out]
    go_fit C.out
    rintro xx w1 ⟨rfl, hb1⟩
    go_wp2
    go_ret2
    exact ⟨by rw [HG.out, HE.out]; rfl, hb0.trans (hb1.mono hb0.size)⟩
set_option maxRecDepth 20000 in
set_option maxHeartbeats 3200000 in
theorem rnew7_any (b z e : Int) (A : Option Addr) (n c : Nat) (ms : List Int) (w : World) {Y : Nat → Prop} (hn : ms.length = n) (hnc : n ≤ c) (hcm : c ≤ 9223372036854775807) (hr : Rd w A (ints ms)) (hE : newE b z e ms = 0) (hA : ∀ a, A = some a → ¬ Y a.block) (hY : ∀ b, Y b → b < w.heap.size) :
    Calls Try.prog 9 #[shp b z, grp e A n c] w fun x w' => ∃ f, x = .returned (.tuple #[.pointer (some ⟨f.rb, 0, none⟩), .int .i64 0]) ∧ RMX w' w.heap.size Y f (MA.of (newSt b z e ms)) ∧ Below w.heap.size w w' := by
  obtain ⟨w0, hw0⟩ : ∃ x, (w.alloc (.cells #[.int .i64 b, .int .i64 z] 23)).alloc (.cells #[.int .i64 e, .slice A n c] 26) = x := ⟨_, rfl⟩
  have hP : Blk w0 w.heap.size [.int .i64 b, .int .i64 z] 23 := by rw [← hw0]; exact (Blk.new w [.int .i64 b, .int .i64 z] _).alloc _
  have hZ : Blk w0 (w.heap.size + 1) [.int .i64 e, .slice A n c] 26 := by
    rw [← hw0]
    have := Blk.new (w.alloc (.cells #[.int .i64 b, .int .i64 z] 23)) [.int .i64 e, .slice A n c] 26
    rwa [World.size_alloc] at this
  have hb0 : Below w.heap.size w w0 := by rw [← hw0]; exact ((Below.refl _ _).alloc (Nat.le_refl _) _).alloc (by simp) _
  have Hw0 := hide hw0
  have Hn := hide hn
  have y0 := hP.cell (j := 0) rfl
  have y1 := hP.cell (j := 1) rfl
  have hr0 := hr.below hb0
  clear hw0 hn
  have hs : shE b z = 0 := by
    by_cases hs : shE b z = 0
    · exact hs
    · exact absurd (hE.symm.trans (if_neg hs)).symm hs
  have hg0 : grpOk e ms = true := by
    have hg : newE b z e ms = gE e ms := if_pos hs
    cases hq : grpOk e ms with
    | true => rfl
    | false => rw [hg, gE_bad hq] at hE; cases hE
  have gl := grp_len hg0
  obtain ⟨b, z, rfl, rfl, hb, hz⟩ := shE_out hs
  have Hg0 := hide hg0
  have HAl := hide (show ∀ a, A = some a → a.block < w.heap.size from rd_block hr (fun e0 => by have h1 : ms.length = 0 := (by simpa [ints] using congrArg List.length e0); omega))
  clear hs hE hg0 gl
  go_enter Try.func9, Try.ntmps9
  go_wp2_with fail
  rw [Hw0.out]
  go_fit (rnew_full b z (b * z) w0 hb hz rfl)
  rintro xx w1 ⟨rv, gb, gv, cb, cv, rows, sv, rfl, hV1, hb1⟩
  have z0 := (hZ.below hb1).cell (j := 0) rfl
  have z1 := (hZ.below hb1).cell (j := 1) rfl
  have v1 := hV1.blk.lt
  have v2 := hV1.row.lt
  have v3 := hV1.ver.lt
  obtain ⟨l1, l2, l3⟩ := hV1.hlo
  have s0 := hb0.size
  have s1 := hb1.size
  have hb01 := hb0.trans (hb1.mono hb0.size)
  go_wp2_with fail
  go_fit (rgroup_any e A n c ms w1 Hn.out (hr0.below hb1))
  rw [gE_ok Hg0.out]
  rintro xx w2 ⟨rfl, hb2⟩
  have z0 := ((hZ.below hb1).below hb2).cell (j := 0) rfl
  have z1 := ((hZ.below hb1).below hb2).cell (j := 1) rfl
  have s2 := hb2.size
  have hb02 := hb01.trans (hb2.mono hb01.size)
  have hV2 := hV1.below hb2
  have hr2 := hr.below hb02
  clear hV1
  obtain ⟨w3, hw3⟩ : ∃ y, w2.alloc (.cells #[.slice none 0 0] 80) = y := ⟨_, rfl⟩
  have hT3 : Blk w3 w2.heap.size [.slice none 0 0] 80 := by rw [← hw3]; exact Blk.new w2 [.slice none 0 0] _
  have hb23 : Below w2.heap.size w2 w3 := by rw [← hw3]; exact (Below.refl _ _).alloc (Nat.le_refl _) _
  have s3 : w3.heap.size = w2.heap.size + 1 := by rw [← hw3, World.size_alloc]
  obtain ⟨w4, hw4⟩ : ∃ y, w3.alloc (.cells #[.int .i64 0, .pointer (some ⟨rv, 0, none⟩), .pointer (some ⟨w2.heap.size, 0, none⟩), .int .i64 e, .slice A n c] 82) = y := ⟨_, rfl⟩
  have hM4 : Blk w4 w3.heap.size [.int .i64 0, .pointer (some ⟨rv, 0, none⟩), .pointer (some ⟨w2.heap.size, 0, none⟩), .int .i64 e, .slice A n c] 82 := by rw [← hw4]; exact Blk.new w3 [.int .i64 0, .pointer (some ⟨rv, 0, none⟩), .pointer (some ⟨w2.heap.size, 0, none⟩), .int .i64 e, .slice A n c] _
  have hb34 : Below w3.heap.size w3 w4 := by rw [← hw4]; exact (Below.refl _ _).alloc (Nat.le_refl _) _
  have z0 := (((hZ.below hb1).below hb2).alloc (.cells #[.slice none 0 0] 80)).cell (j := 0) rfl
  have z1 := (((hZ.below hb1).below hb2).alloc (.cells #[.slice none 0 0] 80)).cell (j := 1) rfl
  have hw4' : (w2.alloc (.cells #[.slice none 0 0] 80)).alloc (.cells #[.int .i64 0, .pointer (some ⟨rv, 0, none⟩), .pointer (some ⟨w2.heap.size, 0, none⟩), .int .i64 e, .slice A n c] 82) = w4 := by rw [hw3]; exact hw4
  have Hw4 := hide hw4'
  have Hs3 := hide s3
  clear hw3 hw4 hw4' s3
  have hb24 := hb23.trans (hb34.mono hb23.size)
  go_wp2
  rw [Hw4.out]
  go_ret2
  have s3 := Hs3.out
  have hWlo : ∀ b, (⟨w3.heap.size, rv, gb, gv, w2.heap.size⟩ : RFp).W b → w.heap.size ≤ b := by
    rintro b (h | h | h | h | h) <;> simp only at h <;> omega
  refine ⟨⟨w3.heap.size, rv, gb, gv, w2.heap.size⟩, by simp [s3], ⟨b * z, cb, cv, 0, 0, rows, sv, [], none, A, n, c, ?_⟩, hb02.trans (hb24.mono hb02.size)⟩
  exact { blk := hM4, vol := (hV2.below hb24).lower (by omega)
          tab := ⟨hT3.below hb34, rfl, Nat.le_refl _, by decide, Rd.nil, RwRows.nil⟩, rq := RwRows.nil
          aq := fun hne => absurd rfl hne
          gr := hr2.below hb24, gl := Hn.out, gc_ := ⟨hnc, hcm⟩, ok := Hg0.out
          gq := fun x hx => ⟨hA x hx, fun hW => by have := hWlo _ hW; have := HAl.out x hx; omega⟩
          hY := hY, lo2 := by simp only; omega, ne := by simp only; omega }
theorem below_far7 {B : Nat} {X0 X : World} {g : Nat} (v0 v1 v2 v3 v4 v5 v6 : Value) (h : Below B X0 X) (hg : B ≤ g) : Below B X0 (((((((X.setCell ⟨g, 0, none⟩ v0).setCell ⟨g, 1, none⟩ v1).setCell ⟨g, 2, none⟩ v2).setCell ⟨g, 3, none⟩ v3).setCell ⟨g, 4, none⟩ v4).setCell ⟨g, 5, none⟩ v5).setCell ⟨g, 6, none⟩ v6) :=
  ((((((h.setCell (leBk hg) _).setCell (leBk hg) _).setCell (leBk hg) _).setCell (leBk hg) _).setCell (leBk hg) _).setCell (leBk hg) _).setCell (leBk hg) _
section
variable {Y : Nat → Prop} {w : World} {lo : Nat} {f : RFp} {a : MA} {NN cb cv n c : Nat} {rows sv cs : List Value} {A G : Option Addr} {gn gc : Nat}
set_option maxRecDepth 20000 in
set_option maxHeartbeats 6400000 in
theorem rstate7_any (h : RMIs w lo Y f a NN cb cv n c rows sv cs A G gn gc) (hok : a.Ok) (since : Int) : Calls Try.prog 14 #[.pointer (some ⟨f.rb, 0, none⟩), .int .i64 since] w fun e w' =>
    ∃ cs, e = .returned (.agg cs.toArray) ∧ tyState.Is w' (fun _ => True) (a.st since) cs ∧ Below w.heap.size w w' := by
  have hr64 := (rowsB_out hok.rows).1
  have hrng := pgL_range (b := a.b) (z := a.z) (bs := a.bs) (since := since) h.vol.hb.2 hok.num hok.vs
  have gl := grp_len h.ok
  have hn64 : n ≤ 64 := by rw [← h.tab.len]; exact hr64
  obtain ⟨g, hg⟩ : ∃ g, w.heap.size = g := ⟨_, rfl⟩
  obtain ⟨w0, hw0⟩ : ∃ x, w.alloc (.cells #[.int .i64 0, .int .i64 0, .int .i64 0, .slice none 0 0, .slice none 0 0, .int .i64 0, .slice none 0 0] 39) = x := ⟨_, rfl⟩
  have hZ : Blk w0 g [.int .i64 0, .int .i64 0, .int .i64 0, .slice none 0 0, .slice none 0 0, .int .i64 0, .slice none 0 0] 39 := by rw [← hw0, ← hg]; exact Blk.new w [.int .i64 0, .int .i64 0, .int .i64 0, .slice none 0 0, .slice none 0 0, .int .i64 0, .slice none 0 0] _
  have hb0 : Below w.heap.size w w0 := by rw [← hw0]; exact (Below.refl _ _).alloc (Nat.le_refl _) _
  have Hw0 := hide hw0
  have h0 := h.below hb0
  have HOk := hide hok
  have Hrng := hide hrng
  have zl := hZ.lt
  clear hw0 hok hrng
  have HM := hide (show ∀ X, Below w0.heap.size w0 X → RMIs X lo Y f a NN cb cv n c rows sv cs A G gn gc from fun X hX => h0.below hX)
  have Mk := hide (show ∀ X, Below w0.heap.size w0 X → (X.cell? ⟨f.rb, 0, none⟩ = some (.int .i64 a.num) ∧ X.cell? ⟨f.rb, 1, none⟩ = some (.pointer (some ⟨f.rv, 0, none⟩)) ∧ X.cell? ⟨f.rb, 2, none⟩ = some (.pointer (some ⟨f.rt, 0, none⟩)) ∧ X.cell? ⟨f.rb, 3, none⟩ = some (.int .i64 a.ep) ∧ X.cell? ⟨f.rb, 4, none⟩ = some (.slice G gn gc) ∧ X.cell? ⟨f.rv, 0, none⟩ = some (.int .i64 a.b) ∧ X.cell? ⟨f.rv, 1, none⟩ = some (.int .i64 a.z) ∧ X.cell? ⟨f.rt, 0, none⟩ = some (.slice A n c)) from fun X hX => ⟨(h0.below hX).blk.cell (j := 0) rfl, (h0.below hX).blk.cell (j := 1) rfl, (h0.below hX).blk.cell (j := 2) rfl, (h0.below hX).blk.cell (j := 3) rfl, (h0.below hX).blk.cell (j := 4) rfl, (h0.below hX).vol.blk.cell (j := 0) rfl, (h0.below hX).vol.blk.cell (j := 1) rfl, (h0.below hX).tab.blk.cell (j := 0) rfl⟩)
  have HAl := hide (show ∀ X o, Below w0.heap.size w0 X → Below w0.heap.size w0 (X.alloc o) from fun X o hX => hX.alloc hX.size o)
  have KZ := hide (show ∀ X, Below w0.heap.size w0 X → (X.cell? ⟨g, 0, none⟩ = some (.int .i64 0) ∧ X.cell? ⟨g, 1, none⟩ = some (.int .i64 0) ∧ X.cell? ⟨g, 2, none⟩ = some (.int .i64 0) ∧ X.cell? ⟨g, 3, none⟩ = some (.slice none 0 0) ∧ X.cell? ⟨g, 4, none⟩ = some (.slice none 0 0) ∧ X.cell? ⟨g, 5, none⟩ = some (.int .i64 0) ∧ X.cell? ⟨g, 6, none⟩ = some (.slice none 0 0) ∧ X.frozen? ⟨g, 0, none⟩ = false ∧ X.frozen? ⟨g, 1, none⟩ = false ∧ X.frozen? ⟨g, 2, none⟩ = false ∧ X.frozen? ⟨g, 3, none⟩ = false ∧ X.frozen? ⟨g, 4, none⟩ = false ∧ X.frozen? ⟨g, 5, none⟩ = false ∧ X.frozen? ⟨g, 6, none⟩ = false) from fun X hX => ⟨(hZ.below hX).cell (j := 0) rfl, (hZ.below hX).cell (j := 1) rfl, (hZ.below hX).cell (j := 2) rfl, (hZ.below hX).cell (j := 3) rfl, (hZ.below hX).cell (j := 4) rfl, (hZ.below hX).cell (j := 5) rfl, (hZ.below hX).cell (j := 6) rfl, (hZ.below hX).frozen 0, (hZ.below hX).frozen 1, (hZ.below hX).frozen 2, (hZ.below hX).frozen 3, (hZ.below hX).frozen 4, (hZ.below hX).frozen 5, (hZ.below hX).frozen 6⟩)
  have hmg : f.rb ≠ g := by have := h.blk.lt; omega
  have hvg : f.rv ≠ g := by have := h.vol.blk.lt; omega
  have htg : f.rt ≠ g := by have := h.tab.blk.lt; omega
  have KS := hide (show ∀ (X : World) (v0 v1 v2 v3 v4 v5 v6 : Value), (X.cell? ⟨f.rb, 0, none⟩ = some (.int .i64 a.num) ∧ X.cell? ⟨f.rb, 1, none⟩ = some (.pointer (some ⟨f.rv, 0, none⟩)) ∧ X.cell? ⟨f.rb, 2, none⟩ = some (.pointer (some ⟨f.rt, 0, none⟩)) ∧ X.cell? ⟨f.rb, 3, none⟩ = some (.int .i64 a.ep) ∧ X.cell? ⟨f.rb, 4, none⟩ = some (.slice G gn gc) ∧ X.cell? ⟨f.rv, 0, none⟩ = some (.int .i64 a.b) ∧ X.cell? ⟨f.rv, 1, none⟩ = some (.int .i64 a.z) ∧ X.cell? ⟨f.rt, 0, none⟩ = some (.slice A n c)) → ((((((((X.setCell ⟨g, 0, none⟩ v0).setCell ⟨g, 1, none⟩ v1).setCell ⟨g, 2, none⟩ v2).setCell ⟨g, 3, none⟩ v3).setCell ⟨g, 4, none⟩ v4).setCell ⟨g, 5, none⟩ v5).setCell ⟨g, 6, none⟩ v6).cell? ⟨f.rb, 0, none⟩ = some (.int .i64 a.num) ∧ (((((((X.setCell ⟨g, 0, none⟩ v0).setCell ⟨g, 1, none⟩ v1).setCell ⟨g, 2, none⟩ v2).setCell ⟨g, 3, none⟩ v3).setCell ⟨g, 4, none⟩ v4).setCell ⟨g, 5, none⟩ v5).setCell ⟨g, 6, none⟩ v6).cell? ⟨f.rb, 1, none⟩ = some (.pointer (some ⟨f.rv, 0, none⟩)) ∧ (((((((X.setCell ⟨g, 0, none⟩ v0).setCell ⟨g, 1, none⟩ v1).setCell ⟨g, 2, none⟩ v2).setCell ⟨g, 3, none⟩ v3).setCell ⟨g, 4, none⟩ v4).setCell ⟨g, 5, none⟩ v5).setCell ⟨g, 6, none⟩ v6).cell? ⟨f.rb, 2, none⟩ = some (.pointer (some ⟨f.rt, 0, none⟩)) ∧ (((((((X.setCell ⟨g, 0, none⟩ v0).setCell ⟨g, 1, none⟩ v1).setCell ⟨g, 2, none⟩ v2).setCell ⟨g, 3, none⟩ v3).setCell ⟨g, 4, none⟩ v4).setCell ⟨g, 5, none⟩ v5).setCell ⟨g, 6, none⟩ v6).cell? ⟨f.rb, 3, none⟩ = some (.int .i64 a.ep) ∧ (((((((X.setCell ⟨g, 0, none⟩ v0).setCell ⟨g, 1, none⟩ v1).setCell ⟨g, 2, none⟩ v2).setCell ⟨g, 3, none⟩ v3).setCell ⟨g, 4, none⟩ v4).setCell ⟨g, 5, none⟩ v5).setCell ⟨g, 6, none⟩ v6).cell? ⟨f.rb, 4, none⟩ = some (.slice G gn gc) ∧ (((((((X.setCell ⟨g, 0, none⟩ v0).setCell ⟨g, 1, none⟩ v1).setCell ⟨g, 2, none⟩ v2).setCell ⟨g, 3, none⟩ v3).setCell ⟨g, 4, none⟩ v4).setCell ⟨g, 5, none⟩ v5).setCell ⟨g, 6, none⟩ v6).cell? ⟨f.rv, 0, none⟩ = some (.int .i64 a.b) ∧ (((((((X.setCell ⟨g, 0, none⟩ v0).setCell ⟨g, 1, none⟩ v1).setCell ⟨g, 2, none⟩ v2).setCell ⟨g, 3, none⟩ v3).setCell ⟨g, 4, none⟩ v4).setCell ⟨g, 5, none⟩ v5).setCell ⟨g, 6, none⟩ v6).cell? ⟨f.rv, 1, none⟩ = some (.int .i64 a.z) ∧ (((((((X.setCell ⟨g, 0, none⟩ v0).setCell ⟨g, 1, none⟩ v1).setCell ⟨g, 2, none⟩ v2).setCell ⟨g, 3, none⟩ v3).setCell ⟨g, 4, none⟩ v4).setCell ⟨g, 5, none⟩ v5).setCell ⟨g, 6, none⟩ v6).cell? ⟨f.rt, 0, none⟩ = some (.slice A n c)) from fun X v0 v1 v2 v3 v4 v5 v6 hS => ⟨cell_far7 _ _ _ _ _ _ _ hS.1 (by show _ ≠ g; first | exact hmg | exact hvg | exact htg), cell_far7 _ _ _ _ _ _ _ hS.2.1 (by show _ ≠ g; first | exact hmg | exact hvg | exact htg), cell_far7 _ _ _ _ _ _ _ hS.2.2.1 (by show _ ≠ g; first | exact hmg | exact hvg | exact htg), cell_far7 _ _ _ _ _ _ _ hS.2.2.2.1 (by show _ ≠ g; first | exact hmg | exact hvg | exact htg), cell_far7 _ _ _ _ _ _ _ hS.2.2.2.2.1 (by show _ ≠ g; first | exact hmg | exact hvg | exact htg), cell_far7 _ _ _ _ _ _ _ hS.2.2.2.2.2.1 (by show _ ≠ g; first | exact hmg | exact hvg | exact htg), cell_far7 _ _ _ _ _ _ _ hS.2.2.2.2.2.2.1 (by show _ ≠ g; first | exact hmg | exact hvg | exact htg), cell_far7 _ _ _ _ _ _ _ hS.2.2.2.2.2.2.2 (by show _ ≠ g; first | exact hmg | exact hvg | exact htg)⟩)
  have HT := hide (show ∀ X X', Below w0.heap.size w0 X → Below X.heap.size X X' → Below w0.heap.size w0 X' from fun X X' h1 h2 => h1.trans (h2.mono h1.size))
  have S0 := Mk.out w0.drew (Below.refl _ _).drew
  have c0 : Below w0.heap.size w0 w0.drew := (Below.refl _ _).drew
  have cA0 : Below w0.heap.size w0 (w0.alloc (.cells #[] 108)).drew := (HAl.out _ (.cells #[] 108) (Below.refl _ _)).drew
  have SA0 := Mk.out _ cA0
  go_enter Try.func14, Try.ntmps14
  go_wp2_with fail
  rw [Hw0.out]
  have HOwn := hide (show ∀ X : World, (X.alloc (.cells #[] 108)).ownsRow X.heap.size 108 4 (.slice (some ⟨X.heap.size, 0, none⟩) 0 0) 0 [] from fun X => own_made #[] 0 0 (Nat.le_refl _) (Nat.le_refl _) (by decide) (by simp))
  have HRd := hide (show ∀ X, Below w0.heap.size w0 X → Rd X A cs from fun X hX => (h0.below hX).tab.rd)
  have hcl : cs.length = n * 4 := by have := h.rq.1; have := h.tab.len; omega
  have h1c := rows_one h.rq
  have hL0 : (0 + n) * 48 ≤ 140737488355328 := by omega
  have hL1 : 0 + n ≤ 140737488355328 := by omega
  have HSz := hide (show ∀ X o, Below w0.heap.size w0 X → w0.heap.size ≤ X.heap.size ∧ X.heap.size ≤ (X.alloc o).heap.size from fun X o hX => ⟨hX.size, by simp⟩)
  have HG := hide (show ∀ X Z Z' : World, Below w0.heap.size w0 Z → w0.heap.size ≤ X.heap.size → Z.grownBy Z' (Value.slice (some ⟨X.heap.size, 0, none⟩) 0 0).ownBlock → Below w0.heap.size w0 Z' from fun X Z Z' h1 h2 h3 => h1.grown h3 h1.size (fun k hk => by have : X.heap.size = k := by simpa [Value.ownBlock] using hk
                                                                                                                                                                                                                                                                  omega))
  go_region_held_law (fun X => X.cell? ⟨f.rb, 0, none⟩ = some (.int .i64 a.num) ∧ X.cell? ⟨f.rb, 1, none⟩ = some (.pointer (some ⟨f.rv, 0, none⟩)) ∧ X.cell? ⟨f.rb, 2, none⟩ = some (.pointer (some ⟨f.rt, 0, none⟩)) ∧ X.cell? ⟨f.rb, 3, none⟩ = some (.int .i64 a.ep) ∧ X.cell? ⟨f.rb, 4, none⟩ = some (.slice G gn gc) ∧ X.cell? ⟨f.rv, 0, none⟩ = some (.int .i64 a.b) ∧ X.cell? ⟨f.rv, 1, none⟩ = some (.int .i64 a.z) ∧ X.cell? ⟨f.rt, 0, none⟩ = some (.slice A n c)) (first | with_reducible assumption | (with_reducible refine KS.out _ _ _ _ _ _ _ _ ?_); with_reducible assumption) (first
    | (go_at_call 35; refine (rpages_any _ _ _ _ _ _ _ _ _ _ _ _ _ _ _ since (HM.out _ (by assumption)).vol).mono ?_; rintro xx wb ⟨o, pc, rfl, hpo, hpp, hbb⟩; obtain ⟨PA, pcap, rfl, hp1⟩ := own_out hpo; have cb' := HT.out _ _ (by assumption) hbb; have Sb := Mk.out _ cb'; have cbA := HAl.out _ (.cells #[] 108) cb'; have SbA := Mk.out _ cbA; have Hp := hide (And.intro hbb (And.intro hp1 hpp)); clear hp1 hpp hpo hbb)
    | (refine step_own rfl rfl tRows (by simp [Act.eval]) (HOwn.out wb) (by simp [Act.eval]; rfl) (m := n) (news := cs) hcl (HRd.out _ cbA) h1c hL0 hL1 (HSz.out _ _ cb').2 ?_; intro v' w' ho' hg' hv'; rw [Nat.zero_add, List.nil_append] at ho'; obtain ⟨RA, rcap, rfl, hr1⟩ := own_out ho'; have c7 := HG.out _ _ _ (by first | exact cbA | exact cb') (HSz.out wb (.cells #[] 108) (by first | exact cb' | exact c0)).1 hg'; have S7 := Mk.out _ c7; obtain ⟨z0, z1, z2, z3, z4, z5, z6, f0, f1, f2, f3, f4, f5, f6⟩ := KZ.out _ c7)
    | (refine step_own rfl rfl tRows (by simp [Act.eval]) (own_below (show (w0.alloc (.cells #[] 108)).drew.ownsRow w0.heap.size 108 4 (.slice (some ⟨w0.heap.size, 0, none⟩) 0 0) 0 [] from HOwn.out w0) (And.left Hp.out)) (by simp [Act.eval]; rfl) (m := n) (news := cs) hcl (HRd.out _ cb') h1c hL0 hL1 (HSz.out _ (.cells #[] 108) cb').1 ?_; intro v' w' ho' hg' hv'; rw [Nat.zero_add, List.nil_append] at ho'; obtain ⟨RA, rcap, rfl, hr1⟩ := own_out ho'; have c7 := HG.out _ _ _ (by first | exact cbA | exact cb') (HSz.out w0.drew (.cells #[] 108) (by first | exact cb' | exact c0)).1 hg'; have S7 := Mk.out _ c7; obtain ⟨z0, z1, z2, z3, z4, z5, z6, f0, f1, f2, f3, f4, f5, f6⟩ := KZ.out _ c7)
    )
  all_goals
    obtain ⟨hbb, ⟨hpl, hpc, hpm, hpr, hpa⟩, hpp⟩ := Hp.out
    have e0 : w0.drew.heap.size = w0.heap.size := rfl
    have e1 : (w0.alloc (.cells #[] 108)).drew.heap.size = w0.heap.size + 1 := World.size_alloc _ _
    have sw := hb0.size
    have hQ1 : PgRows w' (fun b => w0.heap.size ≤ b) pc (pgL a.z a.bs a.vs since a.b) ∧ Rd w' PA pc := by
      first
      | (have hbw : Below wb.heap.size wb w' := ((Below.refl _ _).alloc (Nat.le_refl _) (.cells #[] 108)).grown hg' (by simp) (fun k hk => by have e : wb.heap.size = k := (by simpa [Value.ownBlock] using hk); omega)
         exact ⟨(hpp.below hbw).keep (fun _ _ h _ => h) (fun b hb => by have := hb.1; omega), hpr.below hbw⟩)
      | exact ⟨hpp.keep (fun A xs hr hq => hr.grown hg' (fun x hx e => by have := (hq x hx).1; have e2 : x.block = w0.heap.size := (by simpa [Value.ownBlock] using e); omega)) (fun b hb => by have := hb.1; omega), hpr.grown hg' (fun x hx e => by have := (hpa x hx).1; have e2 : x.block = w0.heap.size := (by simpa [Value.ownBlock] using e); omega)⟩
    obtain ⟨hP1, hPr1⟩ := hQ1
    obtain ⟨hrl, hrc, hrm, hrr, hra⟩ := hr1
    have hRa : ∀ x, RA = some x → w0.heap.size ≤ x.block := fun x hx => by have := (hra x hx).1; have := hbb.size; omega
    have hPa : ∀ x, PA = some x → w0.heap.size ≤ x.block := fun x hx => by have := (hpa x hx).1; omega
    have zl' : g < w0.heap.size := zl
    have hbw7 : Below w.heap.size w w' := hb0.trans (c7.mono hb0.size)
    have hR7 := ((rw_mk h.rq HOk.out.rows).low).below hbw7
    have hG7 := h.gr.below hbw7
    have hGl : ∀ x, G = some x → x.block < w.heap.size := rd_block h.gr (fun e => by have e2 : a.ms.length = 0 := (by simpa [ints] using congrArg List.length e); omega)
    have hfin := ((((((((hZ.below c7).set 0 (.int .i64 a.num)).set 1 (.int .i64 a.b)).set 2 (.int .i64 a.z)).set 3 (.slice PA (pgL a.z a.bs a.vs since a.b).length pcap)).set 4 (.slice RA n rcap)).set 5 (.int .i64 a.ep)).set 6 (.slice G gn gc))
    have hFr : Fr (fun b => b = g) w' (((((((w'.setCell ⟨g, 0, none⟩ (.int .i64 a.num)).setCell ⟨g, 1, none⟩ (.int .i64 a.b)).setCell ⟨g, 2, none⟩ (.int .i64 a.z)).setCell ⟨g, 3, none⟩ (.slice PA (pgL a.z a.bs a.vs since a.b).length pcap)).setCell ⟨g, 4, none⟩ (.slice RA n rcap)).setCell ⟨g, 5, none⟩ (.int .i64 a.ep)).setCell ⟨g, 6, none⟩ (.slice G gn gc)) := ((((((((Fr.refl (fun b => b = g) w').trans (Fr.setg _ g 0 _)).trans (Fr.setg _ g 1 _)).trans (Fr.setg _ g 2 _)).trans (Fr.setg _ g 3 _)).trans (Fr.setg _ g 4 _)).trans (Fr.setg _ g 5 _)).trans (Fr.setg _ g 6 _))
    obtain ⟨wf, hwf⟩ : ∃ y, (((((((w'.setCell ⟨g, 0, none⟩ (.int .i64 a.num)).setCell ⟨g, 1, none⟩ (.int .i64 a.b)).setCell ⟨g, 2, none⟩ (.int .i64 a.z)).setCell ⟨g, 3, none⟩ (.slice PA (pgL a.z a.bs a.vs since a.b).length pcap)).setCell ⟨g, 4, none⟩ (.slice RA n rcap)).setCell ⟨g, 5, none⟩ (.int .i64 a.ep)).setCell ⟨g, 6, none⟩ (.slice G gn gc)) = y := ⟨_, rfl⟩
    rw [hwf] at hfin hFr
    have Hwf := hide hwf
    have HP1 := hide hP1
    clear hwf z0 z1 z2 z3 z4 z5 z6 f0 f1 f2 f3 f4 f5 f6 hP1 hpp
    go_wp2
    rw [Hwf.out]
    refine bodyPost_ret (results_cell rfl rfl hfin Try.underlying39 rfl (by kernel_rfl)) rfl ?_
    have hP := (pg_mk HP1.out (Hrng.out)).fr hFr (fun b hb => by omega)
    have hR := hR7.fr hFr (fun b hb => by omega)
    have hG := hG7.fr hFr (fun _ x hx => by have := hGl x hx; omega)
    have hPr := hPr1.fr hFr (fun _ x hx => by have := hPa x hx; omega)
    have hRr := hrr.fr hFr (fun _ x hx => by have := hRa x hx; omega)
    refine ⟨_, rfl, ?_, hFr.below (hb0.trans (c7.mono hb0.size)) (by have := c7.size; omega) (fun k hk => by omega)⟩
    have hn := numB_out HOk.out.num
    have hbz := h.vol.hb
    have hzz := h.vol.hz
    have hep := grp_ep h.ok
    have hms := grp_ms h.ok
    exact State_mk (by omega) (by omega) (by omega) (by omega) (by omega) (by omega) rfl hpc (by unfold maxLen at hpm; omega) hPr (fun _ _ _ => trivial) hP.any h.tab.len (by omega) (by unfold maxLen at hrm; omega) hRr (fun _ _ _ => trivial) hR.any hep.1 hep.2 h.gl h.gc_.1 h.gc_.2 hG (fun _ _ _ => trivial) (i64rows_mk hms)
end
end Go.Proofs.Ytkknkdjdneldlaa
namespace Go.Proofs.Ytkknkdjdneldlaa
set_option maxRecDepth 20000
open Go.RowKit Go.Px Go.Maps
set_option linter.unusedVariables false
theorem eqG_self (e : Int) (xs : List Int) : eqG e xs e xs = true := by
  unfold eqG eqB; simp
theorem sameB_self (es : List RowT) : sameB es es = true := by unfold sameB; simp
set_option maxRecDepth 20000 in
set_option maxHeartbeats 3200000 in
theorem sameSt_any {w : World} {Q Q' : Nat → Prop} {x y : StateD} {cs ds : List Value} (h : tyState.Is w Q x cs) (h' : tyState.Is w Q' y ds) (hxy : y = x) : Calls Try.prog 12 #[.agg cs.toArray, .agg ds.toArray] w fun e w' => e = .returned (.bool true) ∧ Below w.heap.size w w' := by
  obtain ⟨sNum, sShapeBlocks, sShapeSize, sPages, sPagesA, sPagesn, sPagesc, sPagesv, sRows, sRowsA, sRowsn, sRowsc, sRowsv, sGroupEpoch, sGroupMembers, sGroupMembersA, sGroupMembersn, sGroupMembersc, sGroupMembersv, rfl, rfl, h1_sNum, h2_sNum, h1_sShapeBlocks, h2_sShapeBlocks, h1_sShapeSize, h2_sShapeSize, hl_sPages, hc_sPages, hm_sPages, hr_sPages, hq_sPages, he_sPages, hl_sRows, hc_sRows, hm_sRows, hr_sRows, hq_sRows, he_sRows, h1_sGroupEpoch, h2_sGroupEpoch, hl_sGroupMembers, hc_sGroupMembers, hm_sGroupMembers, hr_sGroupMembers, hq_sGroupMembers, he_sGroupMembers⟩ := State_out h
  obtain ⟨tNum, tShapeBlocks, tShapeSize, tPages, tPagesA, tPagesn, tPagesc, tPagesv, tRows, tRowsA, tRowsn, tRowsc, tRowsv, tGroupEpoch, tGroupMembers, tGroupMembersA, tGroupMembersn, tGroupMembersc, tGroupMembersv, rfl, rfl, h1_tNum, h2_tNum, h1_tShapeBlocks, h2_tShapeBlocks, h1_tShapeSize, h2_tShapeSize, hl_tPages, hc_tPages, hm_tPages, hr_tPages, hq_tPages, he_tPages, hl_tRows, hc_tRows, hm_tRows, hr_tRows, hq_tRows, he_tRows, h1_tGroupEpoch, h2_tGroupEpoch, hl_tGroupMembers, hc_tGroupMembers, hm_tGroupMembers, hr_tGroupMembers, hq_tGroupMembers, he_tGroupMembers⟩ := State_out h'
  have hxy := hxy.symm
  simp only [Prod.mk.injEq] at hxy
  obtain ⟨rfl, ⟨rfl, rfl⟩, rfl, rfl, rfl, rfl⟩ := hxy
  have hP := pg_of he_sPages
  have hP' := pg_of he_tPages
  have hE := rw_of he_sRows
  have hE' := rw_of he_tRows
  obtain ⟨hmi, _⟩ := i64rows he_sGroupMembers
  subst hmi
  obtain ⟨hmi', _⟩ := i64rows he_tGroupMembers
  subst hmi'
  obtain rfl : sPagesn = tPagesn := hl_sPages.symm.trans hl_tPages
  obtain ⟨g, hg⟩ : ∃ g, w.heap.size = g := ⟨_, rfl⟩
  obtain ⟨w0, hw0⟩ : ∃ x, (w.alloc (.cells #[.int .i64 sNum, .int .i64 sShapeBlocks, .int .i64 sShapeSize, .slice sPagesA sPagesn sPagesc, .slice sRowsA sRowsn sRowsc, .int .i64 sGroupEpoch, .slice sGroupMembersA sGroupMembersn sGroupMembersc] 39)).alloc (.cells #[.int .i64 sNum, .int .i64 sShapeBlocks, .int .i64 sShapeSize, .slice tPagesA sPagesn tPagesc, .slice tRowsA tRowsn tRowsc, .int .i64 sGroupEpoch, .slice tGroupMembersA tGroupMembersn tGroupMembersc] 39) = x := ⟨_, rfl⟩
  have hS : Blk w0 g [.int .i64 sNum, .int .i64 sShapeBlocks, .int .i64 sShapeSize, .slice sPagesA sPagesn sPagesc, .slice sRowsA sRowsn sRowsc, .int .i64 sGroupEpoch, .slice sGroupMembersA sGroupMembersn sGroupMembersc] 39 := by rw [← hw0, ← hg]; exact (Blk.new w [.int .i64 sNum, .int .i64 sShapeBlocks, .int .i64 sShapeSize, .slice sPagesA sPagesn sPagesc, .slice sRowsA sRowsn sRowsc, .int .i64 sGroupEpoch, .slice sGroupMembersA sGroupMembersn sGroupMembersc] _).alloc _
  have hT : Blk w0 (g + 1) [.int .i64 sNum, .int .i64 sShapeBlocks, .int .i64 sShapeSize, .slice tPagesA sPagesn tPagesc, .slice tRowsA tRowsn tRowsc, .int .i64 sGroupEpoch, .slice tGroupMembersA tGroupMembersn tGroupMembersc] 39 := by
    rw [← hw0, ← hg]
    have := Blk.new (w.alloc (.cells #[.int .i64 sNum, .int .i64 sShapeBlocks, .int .i64 sShapeSize, .slice sPagesA sPagesn sPagesc, .slice sRowsA sRowsn sRowsc, .int .i64 sGroupEpoch, .slice sGroupMembersA sGroupMembersn sGroupMembersc] 39)) [.int .i64 sNum, .int .i64 sShapeBlocks, .int .i64 sShapeSize, .slice tPagesA sPagesn tPagesc, .slice tRowsA tRowsn tRowsc, .int .i64 sGroupEpoch, .slice tGroupMembersA tGroupMembersn tGroupMembersc] 39
    rwa [World.size_alloc] at this
  have hb0 : Below w.heap.size w w0 := by rw [← hw0]; exact ((Below.refl _ _).alloc (Nat.le_refl _) _).alloc (by simp) _
  have Hw0 := hide hw0
  have HlP := hide hl_sPages
  have HlR := hide hl_sRows
  have HlR' := hide hl_tRows
  have HlM := hide hl_sGroupMembers
  have HlM' := hide hl_tGroupMembers
  clear hw0 hl_sPages hl_tPages hl_sRows hl_tRows hl_sGroupMembers hl_tGroupMembers
  have y0 := Blk.cell hS (j := 0) rfl; have y1 := Blk.cell hS (j := 1) rfl; have y2 := Blk.cell hS (j := 2) rfl; have y3 := Blk.cell hS (j := 3) rfl; have y4 := Blk.cell hS (j := 4) rfl; have y5 := Blk.cell hS (j := 5) rfl; have y6 := Blk.cell hS (j := 6) rfl
  have z0 := Blk.cell hT (j := 0) rfl; have z1 := Blk.cell hT (j := 1) rfl; have z2 := Blk.cell hT (j := 2) rfl; have z3 := Blk.cell hT (j := 3) rfl; have z4 := Blk.cell hT (j := 4) rfl; have z5 := Blk.cell hT (j := 5) rfl; have z6 := Blk.cell hT (j := 6) rfl
  go_enter Try.func12, Try.ntmps12
  go_wp2_with fail
  rw [Hw0.out]
  go_fit (samePages_eq sPagesA sPagesn sPagesc sPagesv tPagesA tPagesc tPagesv _ _ _ w0 HlP.out hc_sPages hm_sPages (hr_sPages.below hb0) (hr_tPages.below hb0) (hP.below hb0) (hP'.below hb0))
  rintro xx w1 ⟨rfl, q1, hw1⟩
  have hb1 : Below w0.heap.size w0 w1 := by rw [hw1]; exact ⟨rfl, rfl, rfl, Nat.le_refl _, fun _ _ => rfl⟩
  clear hw1
  have hb01 := hb0.trans (hb1.mono hb0.size)
  clear y0 y1 y2 y3 y4 y5 y6 z0 z1 z2 z3 z4 z5 z6
  have y0 := Blk.cell (hS.below hb1) (j := 0) rfl; have y1 := Blk.cell (hS.below hb1) (j := 1) rfl; have y2 := Blk.cell (hS.below hb1) (j := 2) rfl; have y3 := Blk.cell (hS.below hb1) (j := 3) rfl; have y4 := Blk.cell (hS.below hb1) (j := 4) rfl; have y5 := Blk.cell (hS.below hb1) (j := 5) rfl; have y6 := Blk.cell (hS.below hb1) (j := 6) rfl
  have z0 := Blk.cell (hT.below hb1) (j := 0) rfl; have z1 := Blk.cell (hT.below hb1) (j := 1) rfl; have z2 := Blk.cell (hT.below hb1) (j := 2) rfl; have z3 := Blk.cell (hT.below hb1) (j := 3) rfl; have z4 := Blk.cell (hT.below hb1) (j := 4) rfl; have z5 := Blk.cell (hT.below hb1) (j := 5) rfl; have z6 := Blk.cell (hT.below hb1) (j := 6) rfl
  go_wp2_with fail
  go_fit (rsame6_any sRowsA sRowsn sRowsc sRowsv _ _ tRowsA tRowsn tRowsc tRowsv _ _ _ HlR.out (hr_sRows.below hb01) (hE.below hb01) HlR'.out (hr_tRows.below hb01) (hE'.below hb01) (by omega))
  rw [sameB_self]
  rintro xx w2 ⟨rfl, hb2⟩
  have hb12 := hb1.trans (hb2.mono hb1.size)
  have hb02 := hb01.trans (hb2.mono hb01.size)
  clear y0 y1 y2 y3 y4 y5 y6 z0 z1 z2 z3 z4 z5 z6
  have y0 := Blk.cell (hS.below hb12) (j := 0) rfl; have y1 := Blk.cell (hS.below hb12) (j := 1) rfl; have y2 := Blk.cell (hS.below hb12) (j := 2) rfl; have y3 := Blk.cell (hS.below hb12) (j := 3) rfl; have y4 := Blk.cell (hS.below hb12) (j := 4) rfl; have y5 := Blk.cell (hS.below hb12) (j := 5) rfl; have y6 := Blk.cell (hS.below hb12) (j := 6) rfl
  have z0 := Blk.cell (hT.below hb12) (j := 0) rfl; have z1 := Blk.cell (hT.below hb12) (j := 1) rfl; have z2 := Blk.cell (hT.below hb12) (j := 2) rfl; have z3 := Blk.cell (hT.below hb12) (j := 3) rfl; have z4 := Blk.cell (hT.below hb12) (j := 4) rfl; have z5 := Blk.cell (hT.below hb12) (j := 5) rfl; have z6 := Blk.cell (hT.below hb12) (j := 6) rfl
  go_wp2_with fail
  go_fit (rsameg_any sGroupEpoch sGroupMembersA sGroupMembersn sGroupMembersc _ sGroupEpoch tGroupMembersA tGroupMembersn tGroupMembersc _ _ HlM.out HlM'.out (by omega) (by omega) (hr_sGroupMembers.below hb02) (hr_tGroupMembers.below hb02))
  rw [eqG_self]
  rintro xx w3 ⟨rfl, hb3⟩
  go_wp2
  go_ret
  exact ⟨rfl, hb02.trans (hb3.mono hb02.size)⟩
end Go.Proofs.Ytkknkdjdneldlaa
namespace Go.Proofs.Ytkknkdjdneldlaa
set_option maxRecDepth 20000
open Go.RowKit Go.Px Go.Maps
set_option linter.unusedVariables false
/-- A pointer to no machine, or to one that is nothing but zeros. -/
def Nob7 (w : World) (p : Option Addr) : Prop := p = none ∨ ∃ g, p = some ⟨g, 0, none⟩ ∧ Blk w g [.pointer none, .pointer none, .int .i64 0, .slice none 0 0, .int .i64 0] 70
theorem Nob7.below {w w' : World} {p : Option Addr} (h : Nob7 w p) (hb : Below w.heap.size w w') : Nob7 w' p := by
  rcases h with h | ⟨g, rfl, hB⟩
  · exact .inl h
  · exact .inr ⟨g, rfl, hB.below hb⟩
theorem made_nob7 (w : World) (p : Option Addr) (h : Nob7 w p) : Calls Try.prog 30 #[.pointer p] w fun e w' => e = .returned (.bool false) ∧ w = w' := by
  rcases h with rfl | ⟨g, rfl, hB⟩
  · go_enter Try.func30, Try.ntmps30
    go_wp2
    go_ret
    exact ⟨rfl, rfl⟩
  · have x0 := hB.cell (j := 0) rfl
    go_enter Try.func30, Try.ntmps30
    go_wp2
    go_ret
    exact ⟨rfl, rfl⟩
theorem num_nob7 (w : World) (p : Option Addr) (h : Nob7 w p) : Calls Try.prog 15 #[.pointer p] w fun e w' => e = .returned (.int .i64 0) ∧ w = w' := by
  go_enter Try.func15, Try.ntmps15
  go_wp2_with fail
  refine (made_nob7 w p h).mono ?_
  rintro x w1 ⟨rfl, rfl⟩
  go_wp2
  go_ret
  exact ⟨rfl, rfl⟩
theorem patch_nob7 (w : World) (p : Option Addr) (cs : List Value) (hcs : cs.length = 7) (h : Nob7 w p) : Calls Try.prog 22 #[.pointer p, .agg cs.toArray] w fun e w' => e = .returned (.int .i64 4) ∧ Below w.heap.size w w' := by
  obtain ⟨c0, c1, c2, c3, c4, c5, c6, rfl⟩ := list_7 hcs
  obtain ⟨w0, hw0⟩ : ∃ x, w.alloc (.cells #[c0, c1, c2, c3, c4, c5, c6] 39) = x := ⟨_, rfl⟩
  have hb0 : Below w.heap.size w w0 := by rw [← hw0]; exact (Below.refl _ _).alloc (Nat.le_refl _) _
  have Hw0 := hide hw0
  clear hw0
  have H := hide (made_nob7 w0 p (h.below hb0))
  go_enter Try.func22, Try.ntmps22
  go_wp2_with fail
  rw [Hw0.out]
  refine H.out.mono ?_
  rintro x w1 ⟨rfl, rfl⟩
  go_wp2
  go_ret
  exact ⟨rfl, hb0⟩
set_option maxHeartbeats 800000 in
theorem group_nob7 (w : World) (p : Option Addr) (h : Nob7 w p) : Calls Try.prog 23 #[.pointer p] w fun e w' => e = .returned (grp 0 none 0 0) ∧ Below w.heap.size w w' := by
  obtain ⟨g, hg⟩ : ∃ g, w.heap.size = g := ⟨_, rfl⟩
  obtain ⟨w0, hw0⟩ : ∃ w0, w.alloc (.cells #[.int .i64 0, .slice none 0 0] 26) = w0 := ⟨_, rfl⟩
  have hZ : Blk w0 g [.int .i64 0, .slice none 0 0] 26 := by rw [← hw0, ← hg]; exact Blk.new w [.int .i64 0, .slice none 0 0] _
  have hb0 : Below w.heap.size w w0 := by rw [← hw0]; exact (Below.refl _ _).alloc (Nat.le_refl _) _
  have H := hide (made_nob7 w0 p (h.below hb0))
  have y0 := hZ.cell (j := 0) rfl
  have y1 := hZ.cell (j := 1) rfl
  have f0 := hZ.frozen 0
  have f1 := hZ.frozen 1
  go_enter Try.func23, Try.ntmps23
  go_wp2_with fail
  refine H.out.mono ?_
  rintro x w1 ⟨rfl, rfl⟩
  go_wp2
  refine bodyPost_ret (results_cell rfl rfl ((hZ.set 0 (.int .i64 0)).set 1 (.slice none 0 0)) Try.underlying26 rfl (by kernel_rfl)) rfl ?_
  exact ⟨rfl, (hb0.setCell (by show w.heap.size ≤ g; omega) _).setCell (by show w.heap.size ≤ g; omega) _⟩
set_option maxHeartbeats 800000 in
theorem ask_nob7 (w : World) (p : Option Addr) (x s : Int) (h : Nob7 w p) : Calls Try.prog 18 #[.pointer p, .int .i64 x, .int .i64 s] w fun e w' => e = .returned (.tuple #[.int .i64 0, resv 0 none 0 0, .int .i64 4]) ∧ Below w.heap.size w w' := by
  obtain ⟨g, hg⟩ : ∃ g, w.heap.size = g := ⟨_, rfl⟩
  obtain ⟨w0, hw0⟩ : ∃ w0, w.alloc (.cells #[.int .u8 0, .slice none 0 0] 57) = w0 := ⟨_, rfl⟩
  have hZ : Blk w0 g [.int .u8 0, .slice none 0 0] 57 := by rw [← hw0, ← hg]; exact Blk.new w [.int .u8 0, .slice none 0 0] _
  have hb0 : Below w.heap.size w w0 := by rw [← hw0]; exact (Below.refl _ _).alloc (Nat.le_refl _) _
  have H := hide (made_nob7 w0 p (h.below hb0))
  have y0 := hZ.cell (j := 0) rfl
  have y1 := hZ.cell (j := 1) rfl
  have f0 := hZ.frozen 0
  have f1 := hZ.frozen 1
  go_enter Try.func18, Try.ntmps18
  go_wp2_with fail
  refine H.out.mono ?_
  rintro xx w1 ⟨rfl, rfl⟩
  go_wp2
  refine bodyPost_ret (results_scs rfl rfl ((hZ.set 0 (.int .u8 0)).set 1 (.slice none 0 0)) Try.underlying57 rfl (by kernel_rfl)) rfl ?_
  exact ⟨rfl, (hb0.setCell (by show w.heap.size ≤ g; omega) _).setCell (by show w.heap.size ≤ g; omega) _⟩
set_option maxHeartbeats 1600000 in
theorem apply_nob7 (w : World) (p : Option Addr) (cs : List Value) (hcs : cs.length = 12) (h : Nob7 w p) : Calls Try.prog 19 #[.pointer p, .agg cs.toArray] w fun e w' => e = .returned (.tuple #[resv 0 none 0 0, .int .i64 4]) ∧ Below w.heap.size w w' := by
  obtain ⟨c0, c1, c2, c3, c4, c5, c6, c7, c8, c9, c10, c11, rfl⟩ := list_12 hcs
  obtain ⟨g, hg⟩ : ∃ g, w.heap.size = g := ⟨_, rfl⟩
  obtain ⟨w0, hw0⟩ : ∃ x, (w.alloc (.cells #[c0, c1, c2, c3, c4, c5, c6, c7, c8, c9, c10, c11] 50)).alloc (.cells #[.int .u8 0, .slice none 0 0] 57) = x := ⟨_, rfl⟩
  have hZ : Blk w0 (g + 1) [.int .u8 0, .slice none 0 0] 57 := by
    rw [← hw0, ← hg]
    have := Blk.new (w.alloc (.cells #[c0, c1, c2, c3, c4, c5, c6, c7, c8, c9, c10, c11] 50)) [.int .u8 0, .slice none 0 0] 57
    rwa [World.size_alloc] at this
  have hb0 : Below w.heap.size w w0 := by rw [← hw0]; exact ((Below.refl _ _).alloc (Nat.le_refl _) _).alloc (by simp) _
  have Hw0 := hide hw0
  clear hw0
  have H := hide (made_nob7 w0 p (h.below hb0))
  have y0 := hZ.cell (j := 0) rfl
  have y1 := hZ.cell (j := 1) rfl
  have f0 := hZ.frozen 0
  have f1 := hZ.frozen 1
  go_enter Try.func19, Try.ntmps19
  go_wp2_with fail
  rw [Hw0.out]
  refine H.out.mono ?_
  rintro x w1 ⟨rfl, rfl⟩
  go_wp2
  refine bodyPost_ret (results_cell2 rfl rfl ((hZ.set 0 (.int .u8 0)).set 1 (.slice none 0 0)) Try.underlying57 rfl (by kernel_rfl)) rfl ?_
  exact ⟨rfl, (hb0.setCell (by show w.heap.size ≤ g + 1; omega) _).setCell (by show w.heap.size ≤ g + 1; omega) _⟩
set_option maxHeartbeats 1600000 in
theorem state_nob7 (w : World) (p : Option Addr) (i : Int) (h : Nob7 w p) : Calls Try.prog 13 #[.pointer p, .int .i64 i] w fun e w' => e = .returned (.agg #[.int .i64 0, .int .i64 0, .int .i64 0, .slice none 0 0, .slice none 0 0, .int .i64 0, .slice none 0 0]) ∧ Below w.heap.size w w' := by
  obtain ⟨g, hg⟩ : ∃ g, w.heap.size = g := ⟨_, rfl⟩
  obtain ⟨w0, hw0⟩ : ∃ x, w.alloc (.cells #[.int .i64 0, .int .i64 0, .int .i64 0, .slice none 0 0, .slice none 0 0, .int .i64 0, .slice none 0 0] 39) = x := ⟨_, rfl⟩
  have hZ : Blk w0 g [.int .i64 0, .int .i64 0, .int .i64 0, .slice none 0 0, .slice none 0 0, .int .i64 0, .slice none 0 0] 39 := by rw [← hw0, ← hg]; exact Blk.new w [.int .i64 0, .int .i64 0, .int .i64 0, .slice none 0 0, .slice none 0 0, .int .i64 0, .slice none 0 0] _
  have hb0 : Below w.heap.size w w0 := by rw [← hw0]; exact (Below.refl _ _).alloc (Nat.le_refl _) _
  have H := hide (made_nob7 w0 p (h.below hb0))
  have y0 := Blk.cell hZ (j := 0) rfl; have y1 := Blk.cell hZ (j := 1) rfl; have y2 := Blk.cell hZ (j := 2) rfl; have y3 := Blk.cell hZ (j := 3) rfl; have y4 := Blk.cell hZ (j := 4) rfl; have y5 := Blk.cell hZ (j := 5) rfl; have y6 := Blk.cell hZ (j := 6) rfl
  have f0 := hZ.frozen 0
  have f1 := hZ.frozen 1
  have f2 := hZ.frozen 2
  have f3 := hZ.frozen 3
  have f4 := hZ.frozen 4
  have f5 := hZ.frozen 5
  have f6 := hZ.frozen 6
  go_enter Try.func13, Try.ntmps13
  go_wp2_with fail
  refine H.out.mono ?_
  rintro x w1 ⟨rfl, rfl⟩
  go_wp2
  refine bodyPost_ret (results_cell rfl rfl (((((((hZ.set 0 (.int .i64 0)).set 1 (.int .i64 0)).set 2 (.int .i64 0)).set 3 (.slice none 0 0)).set 4 (.slice none 0 0)).set 5 (.int .i64 0)).set 6 (.slice none 0 0)) Try.underlying39 rfl (by kernel_rfl)) rfl ?_
  have hFr : Fr (fun b => b = g) w0 (((((((w0.setCell ⟨g, 0, none⟩ (.int .i64 0)).setCell ⟨g, 1, none⟩ (.int .i64 0)).setCell ⟨g, 2, none⟩ (.int .i64 0)).setCell ⟨g, 3, none⟩ (.slice none 0 0)).setCell ⟨g, 4, none⟩ (.slice none 0 0)).setCell ⟨g, 5, none⟩ (.int .i64 0)).setCell ⟨g, 6, none⟩ (.slice none 0 0)) := (((((((Fr.refl (fun b => b = g) w0).trans (Fr.setg _ g 0 _)).trans (Fr.setg _ g 1 _)).trans (Fr.setg _ g 2 _)).trans (Fr.setg _ g 3 _)).trans (Fr.setg _ g 4 _)).trans (Fr.setg _ g 5 _)).trans (Fr.setg _ g 6 _)
  have s0 := hb0.size
  exact ⟨rfl, hFr.below hb0 (by omega) (fun k hk => by omega)⟩
end Go.Proofs.Ytkknkdjdneldlaa
namespace Go.Proofs.Ytkknkdjdneldlaa
set_option maxRecDepth 20000
open Go.RowKit Go.Px Go.Maps
set_option linter.unusedVariables false
/-- All that is right of a machine. -/
structure MA.Fit (a : MA) : Prop where
  ok : a.Ok
  gk : grpOk a.ep a.ms = true
  hb : 1 ≤ a.b ∧ a.b ≤ 4096
  hz : 1 ≤ a.z ∧ a.z ≤ 4096
  lb : a.bs.length = a.b * a.z
  lv : a.vs.length = a.b
  zero : Since a.b a.z 0 (List.replicate (a.b * a.z) 0) (List.replicate a.b 0) a.bs a.vs
  last : a.last ≤ a.num
theorem since_lay {b z : Nat} {bs0 : List UInt8} {vs0 : List Int} : ∀ (ps : List PageD) (bs : List UInt8) (vs : List Int), bs.length = b * z → vs.length = b → Good b z ps → Since b z 0 bs0 vs0 bs vs →
    Since b z 0 bs0 vs0 (layB z bs ps) (layV vs ps) ∧ (layB z bs ps).length = b * z ∧ (layV vs ps).length = b
  | [], bs, vs, h1, h2, _, h3 => ⟨h3, h1, h2⟩
  | p :: r, bs, vs, h1, h2, hg, h3 => by
    obtain ⟨P, e1, e2, e3, e4⟩ := hg 0 p rfl
    have hfit : P * z + p.2.2.length ≤ bs.length := by
      rw [h1, e3, ← Nat.succ_mul]; exact Nat.mul_le_mul_right z e2
    have hs := serB_out e4
    refine since_lay r (splB bs (p.1.toNat * z) p.2.2) (vs.set p.1.toNat p.2.1) ?_ (by simp [h2]) (fun j q hq => hg (j + 1) q (by simpa using hq)) ?_
    · rw [e1, Int.toNat_natCast, splB_length hfit]; exact h1
    · intro i hi
      rw [e1, Int.toNat_natCast]
      by_cases c : P = i
      · subst c
        refine .inr ?_
        rw [List.getD_eq_getElem?_getD, List.getElem?_set_self (by omega)]
        show 0 < p.2.1
        omega
      · rcases h3 i hi with ⟨q1, q2⟩ | q1
        · refine .inl ⟨?_, fun r hr => ?_⟩
          · rw [List.getD_eq_getElem?_getD, List.getElem?_set_ne c, ← List.getD_eq_getElem?_getD]; exact q1
          · rw [splB_getD hfit, e3, if_neg]
            · exact q2 r hr
            · have := blk_out (i := i) (P := P) (M := 1) hr
              rw [Nat.one_mul] at this
              rw [this]; omega
        · refine .inr ?_
          rw [List.getD_eq_getElem?_getD, List.getElem?_set_ne c, ← List.getD_eq_getElem?_getD]; exact q1
theorem layV_mem : ∀ (ps : List PageD) (vs : List Int) (v : Int), v ∈ layV vs ps → v ∈ vs ∨ ∃ p ∈ ps, v = p.2.1
  | [], vs, v, h => .inl h
  | p :: r, vs, v, h => by
    rcases layV_mem r (vs.set p.1.toNat p.2.1) v h with h | ⟨q, hq, e⟩
    · rcases List.mem_or_eq_of_mem_set h with h | h
      · exact .inl h
      · exact .inr ⟨p, List.mem_cons_self, h⟩
    · exact .inr ⟨q, List.mem_cons_of_mem _ hq, e⟩
theorem layL_le : ∀ (ps : List PageD) (l num : Int), l ≤ num → (∀ p ∈ ps, p.2.1 ≤ num) → layL l ps ≤ num
  | [], l, num, h, _ => h
  | p :: r, l, num, h, hp => layL_le r (max l p.2.1) num (by have := hp p List.mem_cons_self; omega) (fun q hq => hp q (List.mem_cons_of_mem _ hq))
theorem versB_out {num : Int} {ps : List PageD} (h : versB num ps = true) : ∀ p ∈ ps, p.2.1 ≤ num := by
  unfold versB at h
  simpa using h
theorem fit_of {x : StateD} (hx : stateB x = true) : (MA.of x).Fit := by
  obtain ⟨n, ⟨b, z⟩, ps, rs, ep, ms⟩ := x
  obtain ⟨x1, x2, x3, x4, x5, x6⟩ := stateB_out hx
  simp only at x1 x2 x3 x4 x5 x6
  obtain ⟨b, z, rfl, rfl, hb, hz⟩ := shE_out x2
  have hg := good_of_mpA (by omega) x3
  have hv := versB_out x6
  have hn := numB_out x1
  obtain ⟨s1, s2, s3⟩ := since_lay (bs0 := List.replicate (b * z) 0) (vs0 := List.replicate b 0) ps (List.replicate (b * z) 0) (List.replicate b 0) (by simp) (by simp) hg (Since.refl _ _ _ _ _)
  refine ⟨⟨x1, x4, fun v h => ?_⟩, x5, hb, hz, s2, s3, s1, ?_⟩
  · have h' : v ∈ layV (List.replicate b 0) ps := h
    show 0 ≤ v ∧ v ≤ n
    rcases layV_mem ps _ v h' with h1 | ⟨p, hp, rfl⟩
    · have := List.eq_of_mem_replicate h1; omega
    · obtain ⟨j, hj, rfl⟩ := List.mem_iff_getElem.1 hp
      obtain ⟨P, _, _, _, e4⟩ := hg j _ (List.getElem?_eq_getElem hj)
      have := serB_out e4
      have := hv _ hp
      omega
  · show layL 0 ps ≤ n
    exact layL_le ps 0 n (by omega) hv
/-! ### Apply -/
theorem do_lens (b z : Nat) (bs : List UInt8) (vs : List Int) (last : Int) (k : Nat) (p n : Int) (ds os : List UInt8) (num : Int) (hb : bs.length = b * z) (hv : vs.length = b) :
    (doBE b z bs last k p n ds os num).length = b * z ∧ (doVE b z bs vs last k p n ds os num).length = b := by
  rcases do_changes b z bs vs last k p n ds os num with ⟨e1, e2⟩ | ⟨P, M, xs, hPM, hx, e1, e2, _⟩
  · rw [e1, e2]; exact ⟨hb, hv⟩
  · rw [e1, e2, stampL_length, splB_length (by rw [hx, hb, ← Nat.add_mul]; exact Nat.mul_le_mul_right z hPM)]
    exact ⟨hb, hv⟩
theorem doLE_le {b z : Nat} {last : Int} {k : Nat} {p n : Int} {ds os : List UInt8} {num : Int} (h : last ≤ num) : doLE b z last k p n ds os num ≤ num := by
  unfold doLE; split <;> omega
/-- What done leaves. -/
theorem done_fit {a : MA} (h : a.Fit) {e : EntryD} (hk : kindB e = true) (hn : a.num = e.2.1) (hl : a.last ≤ e.2.1) (h0 : 0 < e.2.1) :
    (a.done e).1.b = a.b ∧ (a.done e).1.z = a.z ∧ grpOk (a.done e).1.ep (a.done e).1.ms = true ∧ (a.done e).1.bs.length = a.b * a.z ∧ (a.done e).1.vs.length = a.b ∧ (a.done e).1.last ≤ e.2.1 := by
  unfold MA.done
  split
  · obtain ⟨l1, l2⟩ := do_lens a.b a.z a.bs a.vs a.last e.2.2.2.2.2.1.1 e.2.2.2.2.2.1.2.1 e.2.2.2.2.2.1.2.2.1 e.2.2.2.2.2.1.2.2.2.1 e.2.2.2.2.2.1.2.2.2.2 e.2.1 h.lb h.lv
    exact ⟨rfl, rfl, h.gk, l1, l2, doLE_le hl⟩
  · rename_i h1
    split
    · rename_i h2
      rcases kindB_two hk with hk | hk
      · exact absurd hk h1
      · exact ⟨rfl, rfl, hk.2, h.lb, h.lv, hl⟩
    · exact ⟨rfl, rfl, h.gk, h.lb, h.lv, hl⟩
theorem done_since {a : MA} {n : Int} {bs0 : List UInt8} {vs0 : List Int} (lb : a.bs.length = a.b * a.z) (lv : a.vs.length = a.b) {e : EntryD} (hs : Since a.b a.z n bs0 vs0 a.bs a.vs) (hn : n < e.2.1) : Since a.b a.z n bs0 vs0 (a.done e).1.bs (a.done e).1.vs := by
  unfold MA.done
  split
  · exact hs.step lb lv rfl _ _ _ _ _ _ hn
  · split <;> exact hs
theorem fit_apply {a : MA} (h : a.Fit) (e : EntryD) : (a.apply e).1.Fit ∧ (a.apply e).1.b = a.b ∧ (a.apply e).1.z = a.z := by
  have hok := ok_apply h.ok e
  revert hok
  unfold MA.apply
  by_cases h1 : entryB e = true
  · rw [if_pos h1]
    by_cases h2 : e.2.1 = a.num + 1
    · rw [if_pos h2]
      obtain ⟨hkd, hser⟩ := entryB_kind h1
      have hso := serB_out hser
      have hl := h.last
      by_cases h3 : (askV (tmOf a.rows) a.rows.length e.2.2.2.1 e.2.2.2.2.1).1 = 1
      · rw [if_pos h3]
        intro hok
        have h' : ({ a with num := e.2.1 } : MA).Fit := ⟨⟨serB_num hser, h.ok.rows, fun v hv => by have := h.ok.vs v hv; show 0 ≤ v ∧ v ≤ e.2.1; omega⟩, h.gk, h.hb, h.hz, h.lb, h.lv, h.zero, by show a.last ≤ e.2.1; omega⟩
        obtain ⟨d1, d2, d3, d4, d5, d6⟩ := done_fit h' hkd rfl (by show a.last ≤ e.2.1; omega) (by omega)
        have ds := done_since (n := 0) h'.lb h'.lv h'.zero (e := e) (by omega)
        have dn := done_num ({ a with num := e.2.1 } : MA) e
        refine ⟨⟨hok, d3, by rw [show _ = _ from d1]; exact h.hb, by rw [show _ = _ from d2]; exact h.hz, ?_, ?_, ?_, ?_⟩, d1, d2⟩
        · show (({ a with num := e.2.1 } : MA).done e).1.bs.length = (({ a with num := e.2.1 } : MA).done e).1.b * (({ a with num := e.2.1 } : MA).done e).1.z
          rw [d1, d2]; exact d4
        · show (({ a with num := e.2.1 } : MA).done e).1.vs.length = (({ a with num := e.2.1 } : MA).done e).1.b
          rw [d1]; exact d5
        · show Since (({ a with num := e.2.1 } : MA).done e).1.b (({ a with num := e.2.1 } : MA).done e).1.z 0 (List.replicate ((({ a with num := e.2.1 } : MA).done e).1.b * (({ a with num := e.2.1 } : MA).done e).1.z) 0) (List.replicate (({ a with num := e.2.1 } : MA).done e).1.b 0) (({ a with num := e.2.1 } : MA).done e).1.bs (({ a with num := e.2.1 } : MA).done e).1.vs
          rw [d1, d2]; exact ds
        · show (({ a with num := e.2.1 } : MA).done e).1.last ≤ (({ a with num := e.2.1 } : MA).done e).1.num
          rw [dn]; exact d6
      · rw [if_neg h3]
        intro hok
        exact ⟨⟨hok, h.gk, h.hb, h.hz, h.lb, h.lv, h.zero, by show a.last ≤ e.2.1; omega⟩, rfl, rfl⟩
    · rw [if_neg h2]; intro _; exact ⟨h, rfl, rfl⟩
  · rw [if_neg h1]; intro _; exact ⟨h, rfl, rfl⟩
/-- What was changed since an earlier machine. -/
structure MA.From (a0 a : MA) : Prop where
  b : a.b = a0.b
  z : a.z = a0.z
  num : a0.num ≤ a.num
  since : Since a0.b a0.z a0.num a0.bs a0.vs a.bs a.vs
theorem MA.From.refl (a : MA) : a.From a := ⟨rfl, rfl, Int.le_refl _, Since.refl _ _ _ _ _⟩
theorem from_apply {a0 a : MA} (h : a0.From a) (hf : a.Fit) (e : EntryD) : a0.From (a.apply e).1 := by
  obtain ⟨_, f1, f2⟩ := fit_apply hf e
  obtain ⟨n1, n2⟩ := apply_num hf.ok e
  refine ⟨f1.trans h.b, f2.trans h.z, by have := h.num; omega, ?_⟩
  have hb := h.b
  have hz := h.z
  have hn := h.num
  unfold MA.apply
  split
  · split
    · rename_i h2
      split
      · have hs := h.since
        rw [← hb, ← hz] at hs ⊢
        exact done_since (a := { a with num := e.2.1 }) hf.lb hf.lv hs (by omega)
      · exact h.since
    · exact h.since
  · exact h.since
/-! ### alike but for the volume's last number -/
theorem doE_last {b z : Nat} {l l' : Int} {k : Nat} {p n : Int} {d o : Nat} {num : Int} (h : l ≤ num) (h' : l' ≤ num) : doE b z l k p n d o num = doE b z l' k p n d o num := by
  unfold doE
  by_cases hs : serB num = true
  · rw [if_pos ⟨hs, by omega⟩, if_pos ⟨hs, by omega⟩]
  · rw [if_neg (fun q => hs q.1), if_neg (fun q => hs q.1)]
theorem done_last {a : MA} {l : Int} {e : EntryD} (h : a.last ≤ e.2.1) (h' : l ≤ e.2.1) : ∃ l', ({ a with last := l } : MA).done e = ({ (a.done e).1 with last := l' }, (a.done e).2) := by
  unfold MA.done
  split
  · refine ⟨doLE a.b a.z l e.2.2.2.2.2.1.1 e.2.2.2.2.2.1.2.1 e.2.2.2.2.2.1.2.2.1 e.2.2.2.2.2.1.2.2.2.1 e.2.2.2.2.2.1.2.2.2.2 e.2.1, ?_⟩
    unfold doKE doDE doBE doVE
    rw [doE_last h' h]
  · split <;> exact ⟨l, rfl⟩
theorem apply_last {a : MA} {l : Int} (h : a.last ≤ a.num) (h' : l ≤ a.num) (e : EntryD) : ∃ l', ({ a with last := l } : MA).apply e = ({ (a.apply e).1 with last := l' }, (a.apply e).2) := by
  unfold MA.apply
  by_cases h1 : entryB e = true
  · rw [if_pos h1, if_pos h1]
    by_cases h2 : e.2.1 = a.num + 1
    · have h2' : e.2.1 = ({ a with last := l } : MA).num + 1 := h2
      rw [if_pos h2', if_pos h2]
      by_cases h3 : (askV (tmOf a.rows) a.rows.length e.2.2.2.1 e.2.2.2.2.1).1 = 1
      · have h3' : (askV (tmOf ({ a with last := l } : MA).rows) ({ a with last := l } : MA).rows.length e.2.2.2.1 e.2.2.2.2.1).1 = 1 := h3
        rw [if_pos h3', if_pos h3]
        obtain ⟨l', hd⟩ := done_last (a := { a with num := e.2.1 }) (l := l) (e := e) (by show a.last ≤ e.2.1; omega) (by omega)
        refine ⟨l', ?_⟩
        have hd' : (({ ({ a with last := l } : MA) with num := e.2.1 } : MA)).done e = ({ (({ a with num := e.2.1 } : MA).done e).1 with last := l' }, (({ a with num := e.2.1 } : MA).done e).2) := hd
        simp only [hd']
      · have h3' : ¬ (askV (tmOf ({ a with last := l } : MA).rows) ({ a with last := l } : MA).rows.length e.2.2.2.1 e.2.2.2.2.1).1 = 1 := h3
        rw [if_neg h3', if_neg h3]
        exact ⟨l, rfl⟩
    · have h2' : ¬ e.2.1 = ({ a with last := l } : MA).num + 1 := h2
      rw [if_neg h2', if_neg h2]
      exact ⟨l, rfl⟩
  · rw [if_neg h1, if_neg h1]
    exact ⟨l, rfl⟩
/-! ### states of machines -/
theorem getD_mem_or {vs : List Int} {i : Nat} : vs.getD i 0 ∈ vs ∨ vs.getD i 0 = 0 := by
  rw [List.getD_eq_getElem?_getD]
  cases h : vs[i]? with
  | none => exact .inr rfl
  | some v => exact .inl (List.mem_of_getElem? h)
theorem MA.Fit.ver {a : MA} (h : a.Fit) (i : Nat) : 0 ≤ a.vs.getD i 0 ∧ a.vs.getD i 0 ≤ a.num := by
  have := numB_out h.ok.num
  rcases getD_mem_or (vs := a.vs) (i := i) with hm | hm
  · exact h.ok.vs _ hm
  · omega
theorem stateB_st {a : MA} (h : a.Fit) (since : Int) : stateB (a.st since) = true := by
  have hn := numB_out h.ok.num
  have h1 : shE (a.b : Int) (a.z : Int) = 0 := by
    unfold shE; rw [if_pos]
    have := h.hb; have := h.hz
    omega
  have h2 : mpA (a.b : Int) (a.z : Int) (-1) (pgL a.z a.bs a.vs since a.b) = true := pgL_may h.lb rfl (fun i _ => by have := h.ver i; omega) a.b (Nat.le_refl _)
  have h3 : versB a.num (pgL a.z a.bs a.vs since a.b) = true := by
    unfold versB
    rw [List.all_eq_true]
    intro p hp
    obtain ⟨i, _, e, _⟩ := pgL_mem hp
    rw [e]
    exact decide_eq_true (h.ver i).2
  show stateB (a.num, ((a.b : Int), (a.z : Int)), pgL a.z a.bs a.vs since a.b, a.rows, a.ep, a.ms) = true
  unfold stateB
  simp only [h.ok.num, h1, h2, h.ok.rows, h.gk, h3]
  rfl
/-- A machine of a machine's state is alike. -/
theorem of_st {a : MA} (h : a.Fit) : ∃ l, l ≤ a.num ∧ MA.of (a.st 0) = { a with last := l } := by
  have hf := fit_of (stateB_st h 0)
  obtain ⟨p1, p2⟩ := pages_later (n := 0) h.hz.1 (by omega) (by simp) h.lb (by simp) h.lv rfl h.zero (fun i hi => by simp [List.getD_eq_getElem?_getD, List.getElem?_replicate]; split <;> simp)
  refine ⟨(MA.of (a.st 0)).last, hf.last, ?_⟩
  have e1 : (MA.of (a.st 0)).bs = a.bs := p1
  have e2 : (MA.of (a.st 0)).vs = a.vs := p2
  have e3 : MA.of (a.st 0) = { num := a.num, b := a.b, z := a.z, bs := (MA.of (a.st 0)).bs, vs := (MA.of (a.st 0)).vs, last := (MA.of (a.st 0)).last, rows := a.rows, ep := a.ep, ms := a.ms } := rfl
  rw [e1, e2] at e3
  exact e3
/-! ### a request that is done again -/
theorem ftC_pos {b z : Int} {k : Nat} {p n : Int} {d o : Nat} (h : ftE b z k p n d o = 0) : 1 ≤ ftC b z k p n d o ∧ ftC b z k p n d o ≤ 3 := by
  unfold ftC
  rw [if_neg (by simpa using h)]
  repeat' split
  all_goals omega
theorem segB_le {bs : List UInt8} {p n z : Nat} : (segB bs p n z).length ≤ n * z := by
  unfold segB; exact List.length_take_le _ _
theorem doK_right {b z : Nat} {bs : List UInt8} {k : Nat} {p n : Int} {d : Nat} {os : List UInt8} (hz : z ≤ 4096) (h : ftE b z k p n d os.length = 0) : rsE (doK b z bs k p n d os) (doD b z bs k p n d os).length = 0 := by
  have hc := ftC_pos h
  unfold rsE
  rw [if_pos]
  unfold rsP doK doD
  by_cases h1 : ftC b z k p n d os.length = 1
  · rw [if_pos h1, if_pos h1]
    by_cases hk1 : k = 1
    · subst hk1
      rw [if_pos rfl, if_neg (by omega)]
      refine .inr ⟨.inl rfl, ?_⟩
      unfold ftC at h1
      rw [if_neg (by simpa using h), if_neg (by decide), if_neg (by decide)] at h1
      have hn : n.toNat ≤ 64 := by
        split at h1
        · cases h1
        · omega
      have := segB_le (bs := bs) (p := p.toNat) (n := n.toNat) (z := z)
      have := Nat.mul_le_mul hn hz
      omega
    · rw [if_neg hk1]
      split
      · refine .inr ⟨.inr rfl, ?_⟩
        have := segB_le (bs := bs) (p := p.toNat) (n := 1) (z := z)
        omega
      · exact .inr ⟨.inl rfl, by simp⟩
  · rw [if_neg h1, if_neg h1]
    refine .inl ⟨by omega, rfl⟩
theorem done_right {a : MA} (h : a.Fit) {e : EntryD} (hk : kindB e = true) (hs : serB e.2.1 = true) (hl : a.last ≤ e.2.1) : rsE (a.done e).2.1 (a.done e).2.2.length = 0 := by
  unfold MA.done
  split
  · rename_i h1
    have hE : doE a.b a.z a.last e.2.2.2.2.2.1.1 e.2.2.2.2.2.1.2.1 e.2.2.2.2.2.1.2.2.1 e.2.2.2.2.2.1.2.2.2.1.length e.2.2.2.2.2.1.2.2.2.2.length e.2.1 = 0 := by
      unfold doE
      rw [if_pos ⟨hs, by omega⟩]
      unfold ftE
      have h1' : shE (a.b : Int) (a.z : Int) = 0 := by
        unfold shE; rw [if_pos]
        have := h.hb; have := h.hz
        omega
      rw [if_neg (by simpa using h1')]
      unfold kindB at hk
      rw [if_pos h1] at hk
      simp only [Bool.and_eq_true, beq_iff_eq] at hk
      exact hk.1
    have hft : ftE a.b a.z e.2.2.2.2.2.1.1 e.2.2.2.2.2.1.2.1 e.2.2.2.2.2.1.2.2.1 e.2.2.2.2.2.1.2.2.2.1.length e.2.2.2.2.2.1.2.2.2.2.length = 0 := by
      have := hE
      unfold doE at this
      rwa [if_pos ⟨hs, by omega⟩] at this
    show rsE (doKE _ _ _ _ _ _ _ _ _ _) (doDE _ _ _ _ _ _ _ _ _ _).length = 0
    unfold doKE doDE
    rw [if_pos hE, if_pos hE]
    exact doK_right h.hz.2 hft
  · split <;> rfl
theorem askV_two {m : TM} {S : Nat} {x s : Int} (h : (askV m S x s).1 = 2) : m x = some (s, (askV m S x s).2.2.1, (askV m S x s).2.2.2) ∧ serB x = true ∧ serB s = true := by
  unfold askV at *
  split at h
  · rename_i hs
    rw [if_pos hs]
    cases hm : m x with
    | none => rw [hm] at h; simp only at h; split at h <;> cases h
    | some y =>
      obtain ⟨s0, k0, b0⟩ := y
      rw [hm] at h
      simp only at h ⊢
      split at h
      · cases h
      · split at h
        · cases h
        · rename_i q1 q2
          rw [if_neg q1, if_neg q2]
          have : s0 = s := by omega
          subst this
          exact ⟨rfl, hs⟩
  · cases h
theorem askV_again {m : TM} {S : Nat} {x s : Int} {k : Nat} {bs : List UInt8} (h : m x = some (s, k, bs)) (h1 : serB x = true) (h2 : serB s = true) : askV m S x s = (2, 0, k, bs) := by
  unfold askV
  rw [if_pos ⟨h1, h2⟩, h]
  simp
theorem entry_out {e : EntryD} (h : entryB e = true) : serB e.2.1 = true ∧ numB e.2.2.1 = true ∧ serB e.2.2.2.1 = true ∧ serB e.2.2.2.2.1 = true ∧ kindB e = true := by
  unfold entryB at h
  simpa using h
theorem putR_get {rows : List RowD} (hr : rowsB rows = true) {c s : Int} {k : Nat} {bs : List UInt8} (hp : putV (tmOf rows) rows.length c s k bs.length = 0) : tmOf (putR rows c s k bs) c = some (s, k, bs) := by
  have ht : TbOf (tmOf rows) rows := ⟨tmOf_mem (rowsB_out hr).2.2, (rowsB_out hr).2.2⟩
  have h1 := (putR_tm hr c s k bs).1
  rw [← h1]
  unfold putM
  rw [if_pos hp]
  exact tmPut_same _ _ _ _ _
theorem putR_other {rows : List RowD} (hr : rowsB rows = true) {c s : Int} {k : Nat} {bs : List UInt8} {x : Int} (hx : x ≠ c) : tmOf (putR rows c s k bs) x = tmOf rows x := by
  have h1 := (putR_tm hr c s k bs).1
  rw [← h1]
  unfold putM
  split
  · exact tmPut_other _ _ _ _ hx
  · rfl
/-- A request was done: the table has its result. -/
theorem once_first {a : MA} (h : a.Fit) {e : EntryD} (hx : entryB e = true) (hn : e.2.1 = a.num + 1) (hv : (askV (tmOf a.rows) a.rows.length e.2.2.2.1 e.2.2.2.2.1).1 = 1 ∨ (askV (tmOf a.rows) a.rows.length e.2.2.2.1 e.2.2.2.2.1).1 = 2) :
    tmOf (a.apply e).1.rows e.2.2.2.1 = some (e.2.2.2.2.1, (a.apply e).2.2.1, (a.apply e).2.2.2) ∧ (a.apply e).2.1 = 0 ∧ (a.apply e).1.num = e.2.1 := by
  obtain ⟨q1, q2, q3, q4, q5⟩ := entry_out hx
  have hl := h.last
  unfold MA.apply
  rw [if_pos hx, if_pos hn]
  rcases hv with hv | hv
  · rw [if_pos hv]
    have h' : ({ a with num := e.2.1 } : MA).Fit := ⟨⟨serB_num q1, h.ok.rows, fun v hv => by have := h.ok.vs v hv; show 0 ≤ v ∧ v ≤ e.2.1; omega⟩, h.gk, h.hb, h.hz, h.lb, h.lv, h.zero, by show a.last ≤ e.2.1; omega⟩
    have hr := done_right h' q5 q1 (by show a.last ≤ e.2.1; omega)
    refine ⟨?_, rfl, ?_⟩
    · refine putR_get h.ok.rows ?_
      unfold putV
      have hz : (askV (tmOf a.rows) a.rows.length e.2.2.2.1 e.2.2.2.2.1).2.1 = 0 := by
        unfold askV
        rw [if_pos ⟨q3, q4⟩]
        split
        · split <;> rfl
        · split
          · rfl
          · split <;> rfl
      rw [if_pos hz, if_pos hr, if_neg (by rw [hv]; decide), if_pos hv]
    · show (({ a with num := e.2.1 } : MA).done e).1.num = e.2.1
      rw [done_num]
  · rw [if_neg (by rw [hv]; decide)]
    exact ⟨(askV_two hv).1, rfl, rfl⟩
/-- .. others leave it there. -/
theorem once_keep {a : MA} (h : a.Fit) {x : EntryD} {c : Int} (hc : x.2.2.2.1 ≠ c) : tmOf (a.apply x).1.rows c = tmOf a.rows c := by
  unfold MA.apply
  split
  · split
    · split
      · exact putR_other h.ok.rows (fun e => hc e.symm)
      · rfl
    · rfl
  · rfl
/-- .. and it is told again. -/
theorem once_again {a : MA} {e : EntryD} (hx : entryB e = true) (hn : e.2.1 = a.num + 1) {k : Nat} {bs : List UInt8} (hm : tmOf a.rows e.2.2.2.1 = some (e.2.2.2.2.1, k, bs)) : a.apply e = ({ a with num := e.2.1 }, 0, k, bs) := by
  obtain ⟨q1, q2, q3, q4, q5⟩ := entry_out hx
  have := askV_again (S := a.rows.length) hm q3 q4
  unfold MA.apply
  rw [if_pos hx, if_pos hn, this]
  rfl
theorem entry_num {e : EntryD} (h : entryB e = true) {n : Int} (hn : serB n = true) : entryB (e.1, n, e.2.2) = true := by
  obtain ⟨q1, q2, q3, q4, q5⟩ := entry_out h
  have hk : kindB (e.1, n, e.2.2) = kindB e := rfl
  unfold entryB
  simp [hn, q2, q3, q4, hk, q5]
/-! ### a later state, laid -/
theorem patch_later {a0 a : MA} {l : Int} (h0 : a0.Fit) (h : a.Fit) (hf : a0.From a) : ({ a0 with last := l } : MA).patchB (a.st a0.num) = true ∧ ∃ l', ({ a0 with last := l } : MA).patch (a.st a0.num) = { a with last := l' } := by
  obtain ⟨f1, f2, f3, f4⟩ := hf
  have hn := numB_out h0.ok.num
  constructor
  · unfold MA.patchB
    rw [stateB_st h a0.num]
    have e1 : decide ((a.st a0.num).2.1.1 = ((({ a0 with last := l } : MA).b : Nat) : Int)) = true := decide_eq_true (by show (a.b : Int) = a0.b; rw [f1])
    have e2 : decide ((a.st a0.num).2.1.2 = ((({ a0 with last := l } : MA).z : Nat) : Int)) = true := decide_eq_true (by show (a.z : Int) = a0.z; rw [f2])
    have e3 : decide ((a.st a0.num).1 < ({ a0 with last := l } : MA).num) = false := decide_eq_false (by show ¬ a.num < a0.num; omega)
    rw [e1, e2, e3]; rfl
  · have lb := h.lb
    have lv := h.lv
    rw [f1, f2] at lb
    rw [f1] at lv
    obtain ⟨p1, p2⟩ := pages_later (n := a0.num) h0.hz.1 (by omega) h0.lb lb h0.lv lv rfl f4 (fun i _ => (h0.ver i).2)
    refine ⟨layL l (a.st a0.num).2.2.1, ?_⟩
    have e1 : layB a0.z a0.bs (a.st a0.num).2.2.1 = a.bs := by
      show layB a0.z a0.bs (pgL a.z a.bs a.vs a0.num a.b) = a.bs
      rw [f1, f2]; exact p1
    have e2 : layV a0.vs (a.st a0.num).2.2.1 = a.vs := by
      show layV a0.vs (pgL a.z a.bs a.vs a0.num a.b) = a.vs
      rw [f1, f2]; exact p2
    show MA.mk a.num a0.b a0.z (layB a0.z a0.bs (a.st a0.num).2.2.1) (layV a0.vs (a.st a0.num).2.2.1) (layL l (a.st a0.num).2.2.1) a.rows a.ep a.ms = MA.mk a.num a.b a.z a.bs a.vs (layL l (a.st a0.num).2.2.1) a.rows a.ep a.ms
    rw [e1, e2, f1, f2]
end Go.Proofs.Ytkknkdjdneldlaa
namespace Go.Proofs.Ytkknkdjdneldlaa
set_option maxRecDepth 20000
open Go.RowKit Go.Px Go.Maps
set_option linter.unusedVariables false
/-- The cells of a data, of which an argument is. -/
theorem arg7 {w : World} {Q : Nat → Prop} {x : StateD} {cs : List Value} (h : tyState.Is w Q x cs) : cs.length = 7 := h.len
set_option maxHeartbeats 1600000 in
theorem small7_any {w : World} {Q : Nat → Prop} {x : StateD} {cs : List Value} (h : tyState.Is w Q x cs) : Calls Try.prog 38 #[.agg cs.toArray] w fun e w' => ∃ q, e = .returned (.bool q) ∧ Below w.heap.size w w' := by
  obtain ⟨sNum, sShapeBlocks, sShapeSize, sPages, sPagesA, sPagesn, sPagesc, sPagesv, sRows, sRowsA, sRowsn, sRowsc, sRowsv, sGroupEpoch, sGroupMembers, sGroupMembersA, sGroupMembersn, sGroupMembersc, sGroupMembersv, rfl, rfl, h1_sNum, h2_sNum, h1_sShapeBlocks, h2_sShapeBlocks, h1_sShapeSize, h2_sShapeSize, hl_sPages, hc_sPages, hm_sPages, hr_sPages, hq_sPages, he_sPages, hl_sRows, hc_sRows, hm_sRows, hr_sRows, hq_sRows, he_sRows, h1_sGroupEpoch, h2_sGroupEpoch, hl_sGroupMembers, hc_sGroupMembers, hm_sGroupMembers, hr_sGroupMembers, hq_sGroupMembers, he_sGroupMembers⟩ := State_out h
  obtain ⟨w0, hw0⟩ : ∃ x, w.alloc (.cells #[.int .i64 sNum, .int .i64 sShapeBlocks, .int .i64 sShapeSize, .slice sPagesA sPagesn sPagesc, .slice sRowsA sRowsn sRowsc, .int .i64 sGroupEpoch, .slice sGroupMembersA sGroupMembersn sGroupMembersc] 39) = x := ⟨_, rfl⟩; have hBw0 : Blk w0 w.heap.size [.int .i64 sNum, .int .i64 sShapeBlocks, .int .i64 sShapeSize, .slice sPagesA sPagesn sPagesc, .slice sRowsA sRowsn sRowsc, .int .i64 sGroupEpoch, .slice sGroupMembersA sGroupMembersn sGroupMembersc] 39 := (by rw [← hw0]; exact Blk.new w [.int .i64 sNum, .int .i64 sShapeBlocks, .int .i64 sShapeSize, .slice sPagesA sPagesn sPagesc, .slice sRowsA sRowsn sRowsc, .int .i64 sGroupEpoch, .slice sGroupMembersA sGroupMembersn sGroupMembersc] _); have hbw0 : Below w.heap.size w w0 := (by rw [← hw0]; exact (Below.refl _ _).alloc (Nat.le_refl _) _); have Hw0 := hide hw0; clear hw0
  have y0 := Blk.cell hBw0 (j := 0) rfl; have y1 := Blk.cell hBw0 (j := 1) rfl; have y2 := Blk.cell hBw0 (j := 2) rfl; have y3 := Blk.cell hBw0 (j := 3) rfl; have y4 := Blk.cell hBw0 (j := 4) rfl; have y5 := Blk.cell hBw0 (j := 5) rfl; have y6 := Blk.cell hBw0 (j := 6) rfl
  rcases bool_or (decide (sShapeBlocks ≤ 64)) with q1 | q1
  · rcases bool_or (decide (sShapeSize ≤ 64)) with q2 | q2
    · rcases bool_or (decide ((sPagesn : Int) ≤ 100)) with q3 | q3
      · go_enter Try.func38, Try.ntmps38
        go_wp2
        go_ret
        exact ⟨_, rfl, by rw [Hw0.out]; exact hbw0⟩
      · go_enter Try.func38, Try.ntmps38
        go_wp2
        go_ret
        exact ⟨_, rfl, by rw [Hw0.out]; exact hbw0⟩
    · go_enter Try.func38, Try.ntmps38
      go_wp2
      go_ret
      exact ⟨_, rfl, by rw [Hw0.out]; exact hbw0⟩
  · go_enter Try.func38, Try.ntmps38
    go_wp2
    go_ret
    exact ⟨_, rfl, by rw [Hw0.out]; exact hbw0⟩
/-- What begin tells. -/
def Beg7 (x : StateD) (w : World) (e : Ending) (w' : World) : Prop :=
  (e = .returned (.tuple #[.pointer none, .pointer none, .bool true]) ∧ Below w.heap.size w w') ∨
  ∃ (f : MFp) (rf : RFp) (lo : Nat), e = .returned (.tuple #[.pointer (some ⟨f.mb, 0, none⟩), .pointer (some ⟨rf.rb, 0, none⟩), .bool true]) ∧ stateB x = true ∧ MX w' w.heap.size rf.W f (MA.of x) 64 ∧ RMX w' lo f.W rf (MA.of x) ∧ w.heap.size ≤ lo ∧ Below w.heap.size w w'
set_option maxHeartbeats 3200000 in
theorem begin7_any {w : World} {Q : Nat → Prop} {x : StateD} {cs : List Value} (h : tyState.Is w Q x cs) : Calls Try.prog 17 #[.agg cs.toArray] w (Beg7 x w) := by
  have h' := h
  obtain ⟨sNum, sShapeBlocks, sShapeSize, sPages, sPagesA, sPagesn, sPagesc, sPagesv, sRows, sRowsA, sRowsn, sRowsc, sRowsv, sGroupEpoch, sGroupMembers, sGroupMembersA, sGroupMembersn, sGroupMembersc, sGroupMembersv, rfl, rfl, h1_sNum, h2_sNum, h1_sShapeBlocks, h2_sShapeBlocks, h1_sShapeSize, h2_sShapeSize, hl_sPages, hc_sPages, hm_sPages, hr_sPages, hq_sPages, he_sPages, hl_sRows, hc_sRows, hm_sRows, hr_sRows, hq_sRows, he_sRows, h1_sGroupEpoch, h2_sGroupEpoch, hl_sGroupMembers, hc_sGroupMembers, hm_sGroupMembers, hr_sGroupMembers, hq_sGroupMembers, he_sGroupMembers⟩ := State_out h'
  obtain ⟨w0, hw0⟩ : ∃ x, w.alloc (.cells #[.int .i64 sNum, .int .i64 sShapeBlocks, .int .i64 sShapeSize, .slice sPagesA sPagesn sPagesc, .slice sRowsA sRowsn sRowsc, .int .i64 sGroupEpoch, .slice sGroupMembersA sGroupMembersn sGroupMembersc] 39) = x := ⟨_, rfl⟩; have hBw0 : Blk w0 w.heap.size [.int .i64 sNum, .int .i64 sShapeBlocks, .int .i64 sShapeSize, .slice sPagesA sPagesn sPagesc, .slice sRowsA sRowsn sRowsc, .int .i64 sGroupEpoch, .slice sGroupMembersA sGroupMembersn sGroupMembersc] 39 := (by rw [← hw0]; exact Blk.new w [.int .i64 sNum, .int .i64 sShapeBlocks, .int .i64 sShapeSize, .slice sPagesA sPagesn sPagesc, .slice sRowsA sRowsn sRowsc, .int .i64 sGroupEpoch, .slice sGroupMembersA sGroupMembersn sGroupMembersc] _); have hbw0 : Below w.heap.size w w0 := (by rw [← hw0]; exact (Below.refl _ _).alloc (Nat.le_refl _) _); have Hw0 := hide hw0; clear hw0
  have y0 := Blk.cell hBw0 (j := 0) rfl; have y1 := Blk.cell hBw0 (j := 1) rfl; have y2 := Blk.cell hBw0 (j := 2) rfl; have y3 := Blk.cell hBw0 (j := 3) rfl; have y4 := Blk.cell hBw0 (j := 4) rfl; have y5 := Blk.cell hBw0 (j := 5) rfl; have y6 := Blk.cell hBw0 (j := 6) rfl
  have h0 := h.low.below hbw0
  have s0 := hbw0.size
  go_enter Try.func17, Try.ntmps17
  go_wp2_with fail
  rw [Hw0.out]
  go_fit (small7_any h0)
  rintro xx w1 ⟨q, rfl, hb1⟩
  have hb01 := hbw0.trans (hb1.mono hbw0.size)
  have hB1 := hBw0.below hb1
  have h1 := h0.below hb1
  have s1 := hb1.size
  clear y0 y1 y2 y3 y4 y5 y6
  cases q with
  | false =>
    go_wp2
    go_ret3
    exact .inl ⟨rfl, hb01⟩
  | true =>
    have y0 := Blk.cell hB1 (j := 0) rfl; have y1 := Blk.cell hB1 (j := 1) rfl; have y2 := Blk.cell hB1 (j := 2) rfl; have y3 := Blk.cell hB1 (j := 3) rfl; have y4 := Blk.cell hB1 (j := 4) rfl; have y5 := Blk.cell hB1 (j := 5) rfl; have y6 := Blk.cell hB1 (j := 6) rfl
    cases hx : stateB (sNum, (sShapeBlocks, sShapeSize), sPages, sRows, (sGroupEpoch, sGroupMembers)) with
    | false =>
      have HX := hide hx
      clear hx
      go_wp2_with fail
      go_fit (load7_bad h1 HX.out)
      rintro xx w2 ⟨rfl, hb2⟩
      have hb02 := hb01.trans (hb2.mono (by omega))
      have hB2 := hB1.below hb2
      have h2 := h1.below hb2
      have s2 := hb2.size
      clear y0 y1 y2 y3 y4 y5 y6
      have y0 := Blk.cell hB2 (j := 0) rfl; have y1 := Blk.cell hB2 (j := 1) rfl; have y2 := Blk.cell hB2 (j := 2) rfl; have y3 := Blk.cell hB2 (j := 3) rfl; have y4 := Blk.cell hB2 (j := 4) rfl; have y5 := Blk.cell hB2 (j := 5) rfl; have y6 := Blk.cell hB2 (j := 6) rfl
      go_wp2_with fail
      go_fit (rload7_bad h2 HX.out)
      rintro xx w3 ⟨rfl, hb3⟩
      go_wp2
      go_ret3
      exact .inl ⟨rfl, hb02.trans (hb3.mono (by omega))⟩
    | true =>
      have HX := hide hx
      clear hx
      go_wp2_with fail
      go_fit (load7_any (Y := fun _ => False) h1 HX.out (fun b hb => hb.elim))
      rintro xx w2 ⟨f, rfl, hM2, hb2⟩
      have hb02 := hb01.trans (hb2.mono (by omega))
      have hB2 := hB1.below hb2
      have h2 := h1.below hb2
      have s2 := hb2.size
      have hlw := hM2.low
      have hlt := hM2.lts
      clear y0 y1 y2 y3 y4 y5 y6
      have y0 := Blk.cell hB2 (j := 0) rfl; have y1 := Blk.cell hB2 (j := 1) rfl; have y2 := Blk.cell hB2 (j := 2) rfl; have y3 := Blk.cell hB2 (j := 3) rfl; have y4 := Blk.cell hB2 (j := 4) rfl; have y5 := Blk.cell hB2 (j := 5) rfl; have y6 := Blk.cell hB2 (j := 6) rfl
      go_wp2_with fail
      go_fit (rload7_any (Y := f.W) h2 HX.out (fun b hb hW => by have := hlw b hW; omega) hlt)
      rintro xx w3 ⟨rf, rfl, hR3, hb3⟩
      have hrl := hR3.low
      have HM := hide ((((hM2.avoid (Z := rf.W) hrl).below hb3).free (Y' := rf.W) (fun b hb => .inr hb)).lower (L' := w.heap.size) (by omega))
      have HR := hide hR3
      clear hM2 hR3
      go_wp2
      go_ret3
      exact .inr ⟨f, rf, w2.heap.size, rfl, HX.out, HM.out, HR.out, by omega, hb02.trans (hb3.mono (by omega))⟩
theorem shape07_any (w : World) : Calls Try.prog 36 #[] w fun e w' => e = .returned (shp 6 2) ∧ Below w.heap.size w w' := by
  obtain ⟨g, hg⟩ : ∃ g, w.heap.size = g := ⟨_, rfl⟩
  have hZ : Blk (w.alloc (.cells #[.int .i64 6, .int .i64 2] 23)) g [.int .i64 6, .int .i64 2] 23 := by rw [← hg]; exact Blk.new w [.int .i64 6, .int .i64 2] _
  go_enter Try.func36, Try.ntmps36
  go_wp2
  refine bodyPost_ret (results_cell rfl rfl hZ Try.underlying23 rfl (by kernel_rfl)) rfl ?_
  exact ⟨rfl, (Below.refl _ _).alloc (Nat.le_refl _) _⟩
theorem group07_any (w : World) : Calls Try.prog 37 #[] w fun e w' => ∃ A, e = .returned (grp 0 A 3 3) ∧ Rd w' A (ints [0, 1, 2]) ∧ (∀ a, A = some a → w.heap.size ≤ a.block) ∧ Below w.heap.size w w' := by
  obtain ⟨g, hg⟩ : ∃ g, w.heap.size = g := ⟨_, rfl⟩
  have hZ : Blk ((w.alloc (.cells #[.int .i64 0, .slice (some ⟨g + 1, 0, none⟩) 3 3] 26)).alloc (.cells #[.int .i64 0, .int .i64 1, .int .i64 2] 3)) g [.int .i64 0, .slice (some ⟨g + 1, 0, none⟩) 3 3] 26 := by
    rw [← hg]; exact (Blk.new w [.int .i64 0, .slice (some ⟨w.heap.size + 1, 0, none⟩) 3 3] _).alloc _
  have hr : Rd ((w.alloc (.cells #[.int .i64 0, .slice (some ⟨g + 1, 0, none⟩) 3 3] 26)).alloc (.cells #[.int .i64 0, .int .i64 1, .int .i64 2] 3)) (some ⟨g + 1, 0, none⟩) (ints [0, 1, 2]) :=
    Rd.newG (us := [.int .i64 0, .int .i64 1, .int .i64 2]) (by rw [World.size_alloc, hg])
  go_enter Try.func37, Try.ntmps37
  go_wp2
  refine bodyPost_ret (results_cell rfl rfl hZ Try.underlying26 rfl (by kernel_rfl)) rfl ?_
  exact ⟨_, rfl, hr, (fun a ha => by injection ha with ha; subst ha; show w.heap.size ≤ g + 1; omega), ((Below.refl _ _).alloc (Nat.le_refl _) _).alloc (by simp) _⟩
def e07 : EntryD := (1, 1, 0, 5, 1, (2, 0, 1, [97, 98], []), 0, [])
def a07 : MA := MA.of (newSt 6 2 0 [0, 1, 2])
def b07 : MA := (a07.apply e07).1
def c07 : MA := (b07.apply (1, 2, e07.2.2)).1
theorem r07 : (a07.apply e07).2 = (0, 1, []) := by decide +kernel
theorem s07 : (b07.apply (1, 2, e07.2.2)).2 = (0, 1, []) := by decide +kernel
theorem t07 : c07.num = 2 := by decide +kernel
theorem u07 : pgL c07.z c07.bs c07.vs 0 c07.b = [(0, 1, [97, 98])] := by decide +kernel
theorem fit07 : a07.Fit := fit_of (newSt_ok (by decide +kernel) (by decide +kernel))
end Go.Proofs.Ytkknkdjdneldlaa
namespace Go.Proofs.Ytkknkdjdneldlaa
set_option maxRecDepth 20000
open Go.RowKit Go.Px Go.Maps
set_option linter.unusedVariables false
set_option maxRecDepth 20000 in
set_option maxHeartbeats 6400000 in
theorem awake07_any (w : World) : Calls Try.prog 16 #[] w fun e w' => e = .returned (.bool true) ∧ Below w.heap.size w w' := by
  obtain ⟨B, hB⟩ : ∃ x, w.heap.size = x := ⟨_, rfl⟩
  have HB := hide hB
  clear hB
  go_enter Try.func16, Try.ntmps16
  go_wp2_with fail
  go_fit (shape07_any w)
  rintro x w1 ⟨rfl, hb1⟩
  go_wp2_with fail
  go_fit (group07_any w1)
  rintro x w2 ⟨GA, rfl, hG2, hGa, hb2⟩
  have hb02 := hb1.trans (hb2.mono hb1.size)
  go_wp2_with fail
  go_fit (new7_any 6 2 0 GA 3 3 [0, 1, 2] w2 (Y := fun _ => False) rfl (by decide) (by decide) hG2 (by decide +kernel) (by decide) (by decide) (fun b hb => hb.elim))
  rintro x w3 ⟨f, rfl, hM3, hb3⟩
  have hb03 := hb02.trans (hb3.mono hb02.size)
  have hM3 : MX w3 w2.heap.size (fun _ => False) f a07 64 := hM3
  obtain ⟨d, hd⟩ : ∃ y, w3.heap.size = y := ⟨_, rfl⟩
  obtain ⟨w4, hw4⟩ : ∃ y, (w3.alloc (.cells #[.int .u8 97, .int .u8 98] 5 (2, 3))).alloc (.cells #[.int .u8 1, .int .i64 1, .int .i64 0, .int .i64 5, .int .i64 1, .int .u8 2, .int .i64 0, .int .i64 1, .slice (some ⟨d, 0, none⟩) 2 2, .slice none 0 0, .int .i64 0, .slice none 0 0] 50) = y := ⟨_, rfl⟩
  have hE4 : Blk w4 (d + 1) [.int .u8 1, .int .i64 1, .int .i64 0, .int .i64 5, .int .i64 1, .int .u8 2, .int .i64 0, .int .i64 1, .slice (some ⟨d, 0, none⟩) 2 2, .slice none 0 0, .int .i64 0, .slice none 0 0] 50 := by
    rw [← hw4]
    have := Blk.new (w3.alloc (.cells #[.int .u8 97, .int .u8 98] 5 (2, 3))) [.int .u8 1, .int .i64 1, .int .i64 0, .int .i64 5, .int .i64 1, .int .u8 2, .int .i64 0, .int .i64 1, .slice (some ⟨d, 0, none⟩) 2 2, .slice none 0 0, .int .i64 0, .slice none 0 0] 50
    rwa [World.size_alloc, hd] at this
  have hb34 : Below w3.heap.size w3 w4 := by rw [← hw4]; exact ((Below.refl _ _).alloc (Nat.le_refl _) _).alloc (by simp) _
  have hr4 : Rd w4 (some ⟨d, 0, none⟩) (bys [97, 98]) := by
    rw [← hw4, ← hd]; exact (Rd.newN w3 [.int .u8 97, .int .u8 98] _ (2, 3)).alloc _
  have Hw4 := hide hw4
  have Hd := hide hd
  clear hw4
  have hlt := hM3.lts
  have hnW : ∀ b, d ≤ b → ¬ f.W b := fun b h1 h2 => by have := hlt b h2; omega
  have s4 : d + 1 < w4.heap.size := hE4.lt
  have hM4 := ((hM3.avoid (Z := fun b => b = d + 1) (fun b hb => by omega)).below hb34)
  have hI4 : tyEntry.Is w4 (fun b => b = d) e07 [.int .u8 1, .int .i64 1, .int .i64 0, .int .i64 5, .int .i64 1, .int .u8 2, .int .i64 0, .int .i64 1, .slice (some ⟨d, 0, none⟩) 2 2, .slice none 0 0, .int .i64 0, .slice none 0 0] := Entry_mk (by decide) (by decide) (by decide) (by decide) (by decide) (by decide) (by decide) (by decide) (by decide) (by decide) (by decide) (by decide) (by decide) (by decide) rfl (by decide) (by decide) hr4 (fun _ a ha => by injection ha with ha; subst ha; rfl) rfl (by decide) (by decide) Rd.nil (fun h => absurd rfl h) (by decide) (by decide) rfl (by decide) (by decide) Rd.nil (fun h => absurd rfl h) Ty.Rows.nil
  have AP := apply7_any hM4 fit07.ok hI4 (fun b hb => hnW b (by omega)) (fun b hb => by rcases hb with hb | hb; exact hb.elim; omega) (by decide)
  have e1 : a07.apply e07 = (b07, 0, 1, []) := by rw [← r07]; rfl
  rw [e1] at AP
  have HAP := hide AP
  clear AP e1 hd
  go_wp2_with fail
  rw [Hd.out]
  rw [Hw4.out]
  go_fit HAP.out
  rintro x w5 ⟨A5, c5, rfl, q1, q2, q3, q4, hM5, F5⟩
  simp only [List.length_nil] at q1 q3 hM5
  have hE5 := hE4.fr F5 (hnW _ (by omega))
  have hr5 := hr4.fr F5 (fun _ a ha => by injection ha with ha; subst ha; exact hnW _ (Nat.le_refl _))
  have hlt5 := hM5.lts
  have s5 := F5.size
  have hlow := hM3.low
  have z2 := hb02.size
  have z3 := hb3.size
  have hdw : w2.heap.size ≤ d := by rw [← Hd.out]; exact z3
  have hB5 : Below w.heap.size w w5 := F5.below (hb03.trans (hb34.mono hb03.size)) (by have := hb34.size; omega) (fun k hk => by have := hlow k hk; omega)
  have y1 := (hE5.alloc (.cells #[.int .u8 1, .slice A5 0 c5] 57)).cell (j := 1) rfl
  have f1 := (hE5.alloc (.cells #[.int .u8 1, .slice A5 0 c5] 57)).frozen 1
  obtain ⟨w6, hw6⟩ : ∃ y, w5.alloc (.cells #[.int .u8 1, .slice A5 0 c5] 57) = y := ⟨_, rfl⟩
  have hR6 : Blk w6 w5.heap.size [.int .u8 1, .slice A5 0 c5] 57 := by rw [← hw6]; exact Blk.new w5 [.int .u8 1, .slice A5 0 c5] _
  have hb56 : Below w5.heap.size w5 w6 := by rw [← hw6]; exact (Below.refl _ _).alloc (Nat.le_refl _) _
  have hE6 : Blk w6 (d + 1) [.int .u8 1, .int .i64 1, .int .i64 0, .int .i64 5, .int .i64 1, .int .u8 2, .int .i64 0, .int .i64 1, .slice (some ⟨d, 0, none⟩) 2 2, .slice none 0 0, .int .i64 0, .slice none 0 0] 50 := hE5.below hb56
  have hr6 := hr5.below hb56
  have hM6 := hM5.below hb56
  have s6 : w6.heap.size = w5.heap.size + 1 := by rw [← hw6, World.size_alloc]
  obtain ⟨w7, hw7⟩ : ∃ y, (w5.alloc (.cells #[.int .u8 1, .slice A5 0 c5] 57)).setCell ⟨d + 1, 1, none⟩ (.int .i64 2) = y := ⟨_, rfl⟩
  have hE7' : Blk ((w5.alloc (.cells #[.int .u8 1, .slice A5 0 c5] 57)).setCell ⟨d + 1, 1, none⟩ (.int .i64 2)) (d + 1) [.int .u8 1, .int .i64 2, .int .i64 0, .int .i64 5, .int .i64 1, .int .u8 2, .int .i64 0, .int .i64 1, .slice (some ⟨d, 0, none⟩) 2 2, .slice none 0 0, .int .i64 0, .slice none 0 0] 50 := (hE5.alloc (.cells #[.int .u8 1, .slice A5 0 c5] 57)).set 1 (.int .i64 2)
  have v0 := Blk.cell hE7' (j := 0) rfl; have v1 := Blk.cell hE7' (j := 1) rfl; have v2 := Blk.cell hE7' (j := 2) rfl; have v3 := Blk.cell hE7' (j := 3) rfl; have v4 := Blk.cell hE7' (j := 4) rfl; have v5 := Blk.cell hE7' (j := 5) rfl; have v6 := Blk.cell hE7' (j := 6) rfl; have v7 := Blk.cell hE7' (j := 7) rfl; have v8 := Blk.cell hE7' (j := 8) rfl; have v9 := Blk.cell hE7' (j := 9) rfl; have v10 := Blk.cell hE7' (j := 10) rfl; have v11 := Blk.cell hE7' (j := 11) rfl
  have F7 : Fr (fun b => b = d + 1) w6 w7 := by rw [← hw7, hw6]; exact Fr.setg w6 (d + 1) 1 _
  have hE7 : Blk w7 (d + 1) [.int .u8 1, .int .i64 2, .int .i64 0, .int .i64 5, .int .i64 1, .int .u8 2, .int .i64 0, .int .i64 1, .slice (some ⟨d, 0, none⟩) 2 2, .slice none 0 0, .int .i64 0, .slice none 0 0] 50 := by rw [← hw7]; exact hE7'
  have hR7 := hR6.fr F7 (by omega)
  have hr7 := hr6.fr F7 (fun _ a ha => by injection ha with ha; subst ha; show ¬ d = d + 1; omega)
  have hM7 := hM6.fr F7 (fun b hb _ => .inr hb)
  have s7 := F7.size
  have hB7 : Below w.heap.size w w7 := F7.below (hB5.trans (hb56.mono hB5.size)) (by omega) (fun k hk => by omega)
  have Hw7 := hide hw7
  have Hs6 := hide s6
  clear hw6 hw7 hE7'
  have hI7 : tyEntry.Is w7 (fun b => b = d) (1, 2, e07.2.2) [.int .u8 1, .int .i64 2, .int .i64 0, .int .i64 5, .int .i64 1, .int .u8 2, .int .i64 0, .int .i64 1, .slice (some ⟨d, 0, none⟩) 2 2, .slice none 0 0, .int .i64 0, .slice none 0 0] := Entry_mk (by decide) (by decide) (by decide) (by decide) (by decide) (by decide) (by decide) (by decide) (by decide) (by decide) (by decide) (by decide) (by decide) (by decide) rfl (by decide) (by decide) hr7 (fun _ a ha => by injection ha with ha; subst ha; rfl) rfl (by decide) (by decide) Rd.nil (fun h => absurd rfl h) (by decide) (by decide) rfl (by decide) (by decide) Rd.nil (fun h => absurd rfl h) Ty.Rows.nil
  have AP := apply7_any hM7 (show b07.Ok from ok_apply fit07.ok e07) hI7 (fun b hb => hnW b (by omega)) (fun b hb => by rcases hb with hb | hb; exact hb.elim; omega) (by decide)
  have e2 : b07.apply (1, 2, e07.2.2) = (c07, 0, 1, []) := by rw [← s07]; rfl
  rw [e2] at AP
  have HAP2 := hide AP
  clear AP e2 s6
  go_wp2_with fail
  rw [Hw7.out]
  go_fit HAP2.out
  rintro x w8 ⟨A8, c8, rfl, k1, k2, k3, k4, hM8, F8⟩
  simp only [List.length_nil] at k1 k3 hM8
  have hR8 := hR7.fr F8 (hnW _ (by have := Hs6.out; have := F5.size; omega))
  have s8 := F8.size
  have hB8 : Below w.heap.size w w8 := F8.below hB7 (by have := hB7.size; omega) (fun k hk => by have := hlow k hk; omega)
  obtain ⟨w9, hw9⟩ : ∃ y, w8.alloc (.cells #[.int .u8 1, .slice A8 0 c8] 57) = y := ⟨_, rfl⟩
  have hQ9 : Blk w9 w8.heap.size [.int .u8 1, .slice A8 0 c8] 57 := by rw [← hw9]; exact Blk.new w8 [.int .u8 1, .slice A8 0 c8] _
  have hb89 : Below w8.heap.size w8 w9 := by rw [← hw9]; exact (Below.refl _ _).alloc (Nat.le_refl _) _
  have hM9 := hM8.below hb89
  have hR9 := hR8.below hb89
  have hB9 := hB8.trans (hb89.mono hB8.size)
  have Hw9 := hide hw9
  clear hw9 v0 v1 v2 v3 v4 v5 v6 v7 v8 v9 v10 v11 y1 f1
  obtain ⟨NN, B9, D9, G9, gn9, gc9, hI9⟩ := hM9
  have hok9 := (fit_apply (fit_apply fit07 e07).1 (1, 2, e07.2.2)).1.ok
  go_wp2_with fail
  rw [Hw9.out]
  go_fit (state7_any hI9 hok9 0)
  rintro x w10 ⟨cs, rfl, hS10, hb10⟩
  have hB10 := hB9.trans (hb10.mono hB9.size)
  have hQ10 := hQ9.below hb10
  have hR10 := hR9.below hb10
  have hI10 := hI9.below hb10
  have e3 : c07.st 0 = (2, (6, 2), [(0, 1, [97, 98])], c07.rows, c07.ep, c07.ms) := by
    show (c07.num, ((c07.b : Int), (c07.z : Int)), pgL c07.z c07.bs c07.vs 0 c07.b, c07.rows, c07.ep, c07.ms) = _
    rw [u07, t07]; rfl
  have hS10' : tyState.Is w10 (fun k => w9.heap.size ≤ k) (c07.st 0) cs := hS10
  rw [e3] at hS10'
  generalize hst : ((2, (6, 2), [(0, 1, [97, 98])], c07.rows, c07.ep, c07.ms) : StateD) = st at hS10'
  obtain ⟨sNum, sShapeBlocks, sShapeSize, sPages, sPagesA, sPagesn, sPagesc, sPagesv, sRows, sRowsA, sRowsn, sRowsc, sRowsv, sGroupEpoch, sGroupMembers, sGroupMembersA, sGroupMembersn, sGroupMembersc, sGroupMembersv, rfl, rfl, h1_sNum, h2_sNum, h1_sShapeBlocks, h2_sShapeBlocks, h1_sShapeSize, h2_sShapeSize, hl_sPages, hc_sPages, hm_sPages, hr_sPages, hq_sPages, he_sPages, hl_sRows, hc_sRows, hm_sRows, hr_sRows, hq_sRows, he_sRows, h1_sGroupEpoch, h2_sGroupEpoch, hl_sGroupMembers, hc_sGroupMembers, hm_sGroupMembers, hr_sGroupMembers, hq_sGroupMembers, he_sGroupMembers⟩ := State_out hS10'
  simp only [Prod.mk.injEq] at hst
  obtain ⟨-, -, hpg, -⟩ := hst
  subst hpg
  obtain rfl : 1 = sPagesn := hl_sPages
  obtain ⟨pa, hpa, hat⟩ := hr_sPages.some_of (by rw [he_sPages.len]; decide)
  subst hpa
  obtain ⟨pc, hpI, hpc⟩ := he_sPages.get (k := 0) rfl
  generalize hpg : ((0, 1, [97, 98]) : PageD) = pg at hpI
  obtain ⟨tAt, tVersion, tData, tDataA, tDatan, tDatac, rfl, rfl, h1_tAt, h2_tAt, h1_tVersion, h2_tVersion, hl_tData, hc_tData, hm_tData, hr_tData, hq_tData⟩ := Page_out hpI
  simp only [Prod.mk.injEq] at hpg
  obtain ⟨-, hv1, -⟩ := hpg
  subst hv1
  obtain ⟨w11, hw11⟩ : ∃ y, w10.alloc (.cells #[.int .i64 sNum, .int .i64 sShapeBlocks, .int .i64 sShapeSize, .slice (some pa) 1 sPagesc, .slice sRowsA sRowsn sRowsc, .int .i64 sGroupEpoch, .slice sGroupMembersA sGroupMembersn sGroupMembersc] 39) = y := ⟨_, rfl⟩
  have r0 := (hR10.alloc (.cells #[.int .i64 sNum, .int .i64 sShapeBlocks, .int .i64 sShapeSize, .slice (some pa) 1 sPagesc, .slice sRowsA sRowsn sRowsc, .int .i64 sGroupEpoch, .slice sGroupMembersA sGroupMembersn sGroupMembersc] 39)).cell (j := 0) rfl
  have q0 := (hQ10.alloc (.cells #[.int .i64 sNum, .int .i64 sShapeBlocks, .int .i64 sShapeSize, .slice (some pa) 1 sPagesc, .slice sRowsA sRowsn sRowsc, .int .i64 sGroupEpoch, .slice sGroupMembersA sGroupMembersn sGroupMembersc] 39)).cell (j := 0) rfl
  have hS11 : Blk w11 w10.heap.size [.int .i64 sNum, .int .i64 sShapeBlocks, .int .i64 sShapeSize, .slice (some pa) 1 sPagesc, .slice sRowsA sRowsn sRowsc, .int .i64 sGroupEpoch, .slice sGroupMembersA sGroupMembersn sGroupMembersc] 39 := by rw [← hw11]; exact Blk.new w10 [.int .i64 sNum, .int .i64 sShapeBlocks, .int .i64 sShapeSize, .slice (some pa) 1 sPagesc, .slice sRowsA sRowsn sRowsc, .int .i64 sGroupEpoch, .slice sGroupMembersA sGroupMembersn sGroupMembersc] _
  have hb11 : Below w10.heap.size w10 w11 := by rw [← hw11]; exact (Below.refl _ _).alloc (Nat.le_refl _) _
  have hI11 := hI10.below hb11
  have v1 := below_cell hb11 (el_0S (n := 3) (i := 0) hat (hpc 1 _ rfl))
  have y3 := hS11.cell (j := 3) rfl
  have hB11 := hB10.trans (hb11.mono hB10.size)
  have Hw11 := hide hw11
  have HN := hide (num7_any hI11)
  rw [t07] at HN
  clear hw11 hat hpc
  go_wp2_with fail
  rw [Hw11.out]
  clear r0 q0
  go_fit HN.out
  rintro x w12 ⟨rfl, rfl⟩
  go_wp2
  go_ret
  exact ⟨rfl, hB11⟩
end Go.Proofs.Ytkknkdjdneldlaa
namespace Go.Proofs.Ytkknkdjdneldlaa
set_option maxRecDepth 20000
open Go.RowKit Go.Px Go.Maps
set_option linter.unusedVariables false
/-- Entries that came in: in memory that no machine writes. -/
structure EntsAt (w : World) (B : Nat) (A : Option Addr) (n : Nat) (es : List EntryD) (vs : List Value) : Prop where
  len : es.length = n
  rd : Rd w A vs
  rows : tyEntry.Rows w (fun b => b < B) es vs
  lo : es ≠ [] → ∀ a, A = some a → a.block < B
theorem entsAt_of {w : World} {Q : Nat → Prop} {A : Option Addr} {n : Nat} {es : List EntryD} {vs : List Value} (hl : es.length = n) (hr : Rd w A vs) (hR : tyEntry.Rows w Q es vs) : EntsAt w w.heap.size A n es vs :=
  ⟨hl, hr, hR.low, fun hne => rd_block hr (fun e => hne (by
    have := hR.1
    rw [e] at this
    have h0 : tyEntry.n = 12 := rfl
    rw [h0] at this
    exact List.eq_nil_of_length_eq_zero (by simp at this; omega)))⟩
theorem EntsAt.at_ {w wr : World} {B : Nat} {A : Option Addr} {n : Nat} {es : List EntryD} {vs : List Value} (h : EntsAt w B A n es vs) (hb : Below B w wr) {k : Nat} (hk : k < n) :
    ∃ e a cs, es[k]? = some e ∧ A = some a ∧ tyEntry.Is wr (fun b => b < B) e cs ∧ (∀ (j : Nat) (u : Value), vs[j]? = some u → wr.cell? (a.add j) = some u) ∧ ∀ (i : Nat) (u : Value), cs[i]? = some u → vs[12 * k + i]? = some u := by
  have hk' : k < es.length := by rw [h.len]; exact hk
  have hne : es ≠ [] := fun e => by rw [e] at hk'; simp at hk'
  have hr := h.rd.lo (fun a ha => h.lo hne a ha) hb
  obtain ⟨cs, hI, hc⟩ := (h.rows.lo hb).get (List.getElem?_eq_getElem hk')
  obtain ⟨a, rfl, hat⟩ := hr.some_of (by
    have := h.rows.1
    have h0 : tyEntry.n = 12 := rfl
    rw [h0] at this
    omega)
  exact ⟨_, a, cs, List.getElem?_eq_getElem hk', rfl, hI, hat, hc⟩
theorem entry_renum {w : World} {Q : Nat → Prop} {e : EntryD} {c0 c1 : Value} {cs : List Value} (h : tyEntry.Is w Q e (c0 :: c1 :: cs)) {n : Int} (hn : -9223372036854775808 ≤ n ∧ n ≤ 9223372036854775807) : tyEntry.Is w Q (e.1, n, e.2.2) (c0 :: .int .i64 n :: cs) := by
  obtain ⟨h1, h2, h3⟩ := h
  exact ⟨h1, ⟨rfl, hn⟩, h3⟩
/-- Apply, of an entry that came in. -/
theorem apply_at {w wr : World} {B L : Nat} {Y : Nat → Prop} {f : MFp} {a : MA} {N : Nat} {e : EntryD} {cs : List Value} (hM : MX wr L Y f a N) (hfit : a.Fit) (hI : tyEntry.Is wr (fun b => b < B) e cs) (hL : B ≤ L) (hY : ∀ b, Y b → b < wr.heap.size) (hN : N < 1000000000000) (hB : Below B w wr) (hs : B ≤ wr.heap.size) :
    Calls Try.prog 19 #[.pointer (some ⟨f.mb, 0, none⟩), .agg cs.toArray] wr fun x w' => ∃ A c, x = .returned (.tuple #[resv (a.apply e).2.2.1 A (a.apply e).2.2.2.length c, .int .i64 (a.apply e).2.1]) ∧ (a.apply e).2.2.2.length ≤ c ∧ c ≤ 9223372036854775807 ∧ Rd w' A (bys (a.apply e).2.2.2) ∧ (∀ a, A = some a → wr.heap.size ≤ a.block) ∧ MX w' L Y f (a.apply e).1 (N + 1) ∧ (a.apply e).1.Fit ∧ Fr f.W wr w' ∧ Below B w w' := by
  have hlow := hM.low
  refine (apply7_any hM hfit.ok hI (fun b hb hW => by have := hlow b hW; omega) hY hN).mono ?_
  rintro x w' ⟨A, c, h1, h2, h3, h4, h5, h6, h7⟩
  exact ⟨A, c, h1, h2, h3, h4, h5, h6, (fit_apply hfit e).1, h7, h7.below hB hs (fun k hk => by have := hlow k hk; omega)⟩
end Go.Proofs.Ytkknkdjdneldlaa
