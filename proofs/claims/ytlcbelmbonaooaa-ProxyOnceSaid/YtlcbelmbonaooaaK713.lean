/- Texts joined (shake.py). -/
import Derived.Deep.RegionHeldLaw
import Derived.Deep.RegionLaw
import Derived.Test.YtlcbelmbonaooaaK71
import Derived.Test.YtlcbelmbonaooaaK72
import Derived.Test.YtlcbelmbonaooaaK75
import Derived.Test.YtlcbelmbonaooaaK76
import Derived.Test.YtlcbelmbonaooaaK77
import Derived.Test.YtlcbelmbonaooaaK78
import Derived.Test.YtlcbelmbonaooaaK79
import Derived.Test.YtlcbelmbonaooaaK711
import Derived.Test.YtlcbelmbonaooaaK712
namespace Go.Proofs.Ytlcbelmbonaooaa
set_option maxRecDepth 20000
open Go.RowKit Go.Px Go.Maps
set_option linter.unusedVariables false
section
variable {X Y : Nat → Prop} {w w' : World}
/-- Each entry's data lies where P says. -/
def DataAt (w : World) (D : DataW Value) (m : TM) (P : Nat → Prop) : Prop := ∀ c s k bs A d dc, m c = some (s, k, bs) → D.atKey (.int .i64 c) (.held zeroE) = .held (entV s k A d dc) → bs ≠ [] → ∀ a, A = some a → P a.block
theorem DataAt.mono {D : DataW Value} {m : TM} {P P' : Nat → Prop} (h : DataAt w D m P) (hP : ∀ b, P b → P' b) : DataAt w' D m P' := fun c s k bs A d dc h1 h2 h3 a ha => hP _ (h c s k bs A d dc h1 h2 h3 a ha)
end
/-- What a table of rows knows. -/
def tmOf (es : List RowD) : TM := fun c => (es.find? fun e => decide (e.1 = c)).map (·.2)
theorem tmOf_mem {es : List RowD} (hs : es.Pairwise (fun x y => x.1 < y.1)) : ∀ e : RowT, e ∈ es ↔ tmOf es e.1 = some e.2 := by
  intro e
  unfold tmOf
  constructor
  · intro he
    cases hf : es.find? fun x => decide (x.1 = e.1) with
    | none =>
      have := List.find?_eq_none.1 hf _ he
      simp at this
    | some x =>
      have h1 := List.mem_of_find?_eq_some hf
      have h2 := List.find?_some hf
      have h3 : x.1 = e.1 := by simpa using h2
      have : x = e := by
        obtain ⟨i, hi, rfl⟩ := List.mem_iff_getElem.1 h1
        obtain ⟨j, hj, rfl⟩ := List.mem_iff_getElem.1 he
        rcases Nat.lt_trichotomy i j with hlt | rfl | hlt
        · have := List.pairwise_iff_getElem.1 hs i j hi hj hlt; omega
        · rfl
        · have := List.pairwise_iff_getElem.1 hs j i hj hi hlt; omega
      rw [this]; rfl
  · intro hm
    cases hf : es.find? fun x => decide (x.1 = e.1) with
    | none => rw [hf] at hm; cases hm
    | some x =>
      rw [hf] at hm
      have h1 := List.mem_of_find?_eq_some hf
      have h2 := List.find?_some hf
      have h3 : x.1 = e.1 := by simpa using h2
      have h4 : x.2 = e.2 := by simpa using hm
      have : x = e := Prod.ext h3 h4
      rw [← this]; exact h1
/-- What a machine is, as a plain value. -/
structure MA where
  num : Int
  b : Nat
  z : Nat
  bs : List UInt8
  vs : List Int
  last : Int
  rows : List RowD
  ep : Int
  ms : List Int
/-- The blocks that a machine writes, and its table's. -/
structure MFp where
  mb : Nat
  v : Nat
  r : Nat
  s : Nat
  t : Nat
  bm : Nat
def MFp.W (f : MFp) (k : Nat) : Prop := k = f.mb ∨ k = f.v ∨ k = f.r ∨ k = f.s ∨ k = f.bm
section
variable {X Y : Nat → Prop} {w w' : World} {L : Nat} {f : MFp} {a : MA} {N NN B : Nat} {D : DataW Value} {G : Option Addr} {gn gc : Nat}
end
end Go.Proofs.Ytlcbelmbonaooaa
namespace Go.Proofs.Ytlcbelmbonaooaa
set_option maxRecDepth 20000
open Go.RowKit Go.Px Go.Maps
set_option linter.unusedVariables false
/-- The machine of a state. -/
def MA.of (x : StateD) : MA :=
  { num := x.1, b := x.2.1.1.toNat, z := x.2.1.2.toNat, bs := layB x.2.1.2.toNat (List.replicate (x.2.1.1.toNat * x.2.1.2.toNat) 0) x.2.2.1, vs := layV (List.replicate x.2.1.1.toNat 0) x.2.2.1, last := layL 0 x.2.2.1,
    rows := x.2.2.2.1, ep := x.2.2.2.2.1, ms := x.2.2.2.2.2 }
theorem stateB_out {x : StateD} (h : stateB x = true) : numB x.1 = true ∧ shE x.2.1.1 x.2.1.2 = 0 ∧ mpA x.2.1.1 x.2.1.2 (-1) x.2.2.1 = true ∧ rowsB x.2.2.2.1 = true ∧ grpOk x.2.2.2.2.1 x.2.2.2.2.2 = true ∧ versB x.1 x.2.2.1 = true := by
  unfold stateB at h
  simp only [Bool.and_eq_true, beq_iff_eq] at h
  exact h
theorem shE_out {b z : Int} (h : shE b z = 0) : ∃ b' z' : Nat, b = b' ∧ z = z' ∧ (1 ≤ b' ∧ b' ≤ 4096) ∧ 1 ≤ z' ∧ z' ≤ 4096 := by
  unfold shE at h
  split at h
  · rename_i h1
    exact ⟨b.toNat, z.toNat, by omega, by omega, by omega, by omega⟩
  · cases h
/-! ### New -/
def newSt (b z e : Int) (ms : List Int) : StateD := (0, (b, z), [], [], e, ms)
theorem newSt_ok {b z e : Int} {ms : List Int} (h1 : shE b z = 0) (h2 : grpOk e ms = true) : stateB (newSt b z e ms) = true := by
  unfold stateB newSt
  simp only [h1, h2]
  rfl
end Go.Proofs.Ytlcbelmbonaooaa
namespace Go.Proofs.Ytlcbelmbonaooaa
set_option maxRecDepth 20000
open Go.RowKit Go.Px Go.Maps
set_option linter.unusedVariables false
/-- What may be of a machine. -/
structure MA.Ok (a : MA) : Prop where
  num : numB a.num = true
  rows : rowsB a.rows = true
  vs : ∀ v ∈ a.vs, 0 ≤ v ∧ v ≤ a.num
theorem MA.Ok.tb {a : MA} (h : a.Ok) : TbOf (tmOf a.rows) a.rows := ⟨tmOf_mem (rowsB_out h.rows).2.2, (rowsB_out h.rows).2.2⟩
/-- A machine's state. -/
def MA.st (a : MA) (since : Int) : StateD := (a.num, (a.b, a.z), pgL a.z a.bs a.vs since a.b, a.rows, a.ep, a.ms)
section
variable {Y : Nat → Prop} {w : World} {L : Nat} {f : MFp} {a : MA} {N NN B : Nat} {D : DataW Value} {G : Option Addr} {gn gc : Nat}
end
end Go.Proofs.Ytlcbelmbonaooaa
namespace Go.Proofs.Ytlcbelmbonaooaa
set_option maxRecDepth 20000
open Go.RowKit Go.Px Go.Maps
set_option linter.unusedVariables false
theorem eqG_self (e : Int) (xs : List Int) : eqG e xs e xs = true := by
  unfold eqG eqB; simp
theorem sameB_self (es : List RowT) : sameB es es = true := by unfold sameB; simp
set_option maxRecDepth 20000 in
set_option maxHeartbeats 3200000 in
theorem sameSt_any {w : World} {Q Q' : Nat → Prop} {x y : StateD} {cs ds : List Value} (h : tyState.Is w Q x cs) (h' : tyState.Is w Q' y ds) (hxy : y = x) : Calls Try.prog 62 #[.agg cs.toArray, .agg ds.toArray] w fun e w' => e = .returned (.bool true) ∧ Below w.heap.size w w' := by
  obtain ⟨sNum, sShapeBlocks, sShapeSize, sPages, sPagesA, sPagesn, sPagesc, sPagesv, sRows, sRowsA, sRowsn, sRowsc, sRowsv, sGroupEpoch, sGroupMembers, sGroupMembersA, sGroupMembersn, sGroupMembersc, sGroupMembersv, rfl, rfl, h1_sNum, h2_sNum, h1_sShapeBlocks, h2_sShapeBlocks, h1_sShapeSize, h2_sShapeSize, hl_sPages, hc_sPages, hm_sPages, hr_sPages, hq_sPages, he_sPages, hl_sRows, hc_sRows, hm_sRows, hr_sRows, hq_sRows, he_sRows, h1_sGroupEpoch, h2_sGroupEpoch, hl_sGroupMembers, hc_sGroupMembers, hm_sGroupMembers, hr_sGroupMembers, hq_sGroupMembers, he_sGroupMembers⟩ := State_out h
  obtain ⟨tNum, tShapeBlocks, tShapeSize, tPages, tPagesA, tPagesn, tPagesc, tPagesv, tRows, tRowsA, tRowsn, tRowsc, tRowsv, tGroupEpoch, tGroupMembers, tGroupMembersA, tGroupMembersn, tGroupMembersc, tGroupMembersv, rfl, rfl, h1_tNum, h2_tNum, h1_tShapeBlocks, h2_tShapeBlocks, h1_tShapeSize, h2_tShapeSize, hl_tPages, hc_tPages, hm_tPages, hr_tPages, hq_tPages, he_tPages, hl_tRows, hc_tRows, hm_tRows, hr_tRows, hq_tRows, he_tRows, h1_tGroupEpoch, h2_tGroupEpoch, hl_tGroupMembers, hc_tGroupMembers, hm_tGroupMembers, hr_tGroupMembers, hq_tGroupMembers, he_tGroupMembers⟩ := State_out h'
  have hxy := hxy.symm
  simp only [Prod.mk.injEq] at hxy
  obtain ⟨rfl, ⟨rfl, rfl⟩, rfl, rfl, rfl, rfl⟩ := hxy
  have hP := pg_of he_sPages
  have hP' := pg_of he_tPages
  have hE := rw_of he_sRows
  have hE' := rw_of he_tRows
  obtain ⟨hmi, _⟩ := i64rows he_sGroupMembers
  subst hmi
  obtain ⟨hmi', _⟩ := i64rows he_tGroupMembers
  subst hmi'
  obtain rfl : sPagesn = tPagesn := hl_sPages.symm.trans hl_tPages
  obtain ⟨g, hg⟩ : ∃ g, w.heap.size = g := ⟨_, rfl⟩
  obtain ⟨w0, hw0⟩ : ∃ x, (w.alloc (.cells #[.int .i64 sNum, .int .i64 sShapeBlocks, .int .i64 sShapeSize, .slice sPagesA sPagesn sPagesc, .slice sRowsA sRowsn sRowsc, .int .i64 sGroupEpoch, .slice sGroupMembersA sGroupMembersn sGroupMembersc] 55)).alloc (.cells #[.int .i64 sNum, .int .i64 sShapeBlocks, .int .i64 sShapeSize, .slice tPagesA sPagesn tPagesc, .slice tRowsA tRowsn tRowsc, .int .i64 sGroupEpoch, .slice tGroupMembersA tGroupMembersn tGroupMembersc] 55) = x := ⟨_, rfl⟩
  have hS : Blk w0 g [.int .i64 sNum, .int .i64 sShapeBlocks, .int .i64 sShapeSize, .slice sPagesA sPagesn sPagesc, .slice sRowsA sRowsn sRowsc, .int .i64 sGroupEpoch, .slice sGroupMembersA sGroupMembersn sGroupMembersc] 55 := by rw [← hw0, ← hg]; exact (Blk.new w [.int .i64 sNum, .int .i64 sShapeBlocks, .int .i64 sShapeSize, .slice sPagesA sPagesn sPagesc, .slice sRowsA sRowsn sRowsc, .int .i64 sGroupEpoch, .slice sGroupMembersA sGroupMembersn sGroupMembersc] _).alloc _
  have hT : Blk w0 (g + 1) [.int .i64 sNum, .int .i64 sShapeBlocks, .int .i64 sShapeSize, .slice tPagesA sPagesn tPagesc, .slice tRowsA tRowsn tRowsc, .int .i64 sGroupEpoch, .slice tGroupMembersA tGroupMembersn tGroupMembersc] 55 := by
    rw [← hw0, ← hg]
    have := Blk.new (w.alloc (.cells #[.int .i64 sNum, .int .i64 sShapeBlocks, .int .i64 sShapeSize, .slice sPagesA sPagesn sPagesc, .slice sRowsA sRowsn sRowsc, .int .i64 sGroupEpoch, .slice sGroupMembersA sGroupMembersn sGroupMembersc] 55)) [.int .i64 sNum, .int .i64 sShapeBlocks, .int .i64 sShapeSize, .slice tPagesA sPagesn tPagesc, .slice tRowsA tRowsn tRowsc, .int .i64 sGroupEpoch, .slice tGroupMembersA tGroupMembersn tGroupMembersc] 55
    rwa [World.size_alloc] at this
  have hb0 : Below w.heap.size w w0 := by rw [← hw0]; exact ((Below.refl _ _).alloc (Nat.le_refl _) _).alloc (by simp) _
  have Hw0 := hide hw0
  have HlP := hide hl_sPages
  have HlR := hide hl_sRows
  have HlR' := hide hl_tRows
  have HlM := hide hl_sGroupMembers
  have HlM' := hide hl_tGroupMembers
  clear hw0 hl_sPages hl_tPages hl_sRows hl_tRows hl_sGroupMembers hl_tGroupMembers
  have y0 := Blk.cell hS (j := 0) rfl; have y1 := Blk.cell hS (j := 1) rfl; have y2 := Blk.cell hS (j := 2) rfl; have y3 := Blk.cell hS (j := 3) rfl; have y4 := Blk.cell hS (j := 4) rfl; have y5 := Blk.cell hS (j := 5) rfl; have y6 := Blk.cell hS (j := 6) rfl
  have z0 := Blk.cell hT (j := 0) rfl; have z1 := Blk.cell hT (j := 1) rfl; have z2 := Blk.cell hT (j := 2) rfl; have z3 := Blk.cell hT (j := 3) rfl; have z4 := Blk.cell hT (j := 4) rfl; have z5 := Blk.cell hT (j := 5) rfl; have z6 := Blk.cell hT (j := 6) rfl
  go_enter Try.func62, Try.ntmps62
  go_wp2_with fail
  rw [Hw0.out]
  go_fit (samePages_eq sPagesA sPagesn sPagesc sPagesv tPagesA tPagesc tPagesv _ _ _ w0 HlP.out hc_sPages hm_sPages (hr_sPages.below hb0) (hr_tPages.below hb0) (hP.below hb0) (hP'.below hb0))
  rintro xx w1 ⟨rfl, q1, hw1⟩
  have hb1 : Below w0.heap.size w0 w1 := by rw [hw1]; exact ⟨rfl, rfl, rfl, Nat.le_refl _, fun _ _ => rfl⟩
  clear hw1
  have hb01 := hb0.trans (hb1.mono hb0.size)
  clear y0 y1 y2 y3 y4 y5 y6 z0 z1 z2 z3 z4 z5 z6
  have y0 := Blk.cell (hS.below hb1) (j := 0) rfl; have y1 := Blk.cell (hS.below hb1) (j := 1) rfl; have y2 := Blk.cell (hS.below hb1) (j := 2) rfl; have y3 := Blk.cell (hS.below hb1) (j := 3) rfl; have y4 := Blk.cell (hS.below hb1) (j := 4) rfl; have y5 := Blk.cell (hS.below hb1) (j := 5) rfl; have y6 := Blk.cell (hS.below hb1) (j := 6) rfl
  have z0 := Blk.cell (hT.below hb1) (j := 0) rfl; have z1 := Blk.cell (hT.below hb1) (j := 1) rfl; have z2 := Blk.cell (hT.below hb1) (j := 2) rfl; have z3 := Blk.cell (hT.below hb1) (j := 3) rfl; have z4 := Blk.cell (hT.below hb1) (j := 4) rfl; have z5 := Blk.cell (hT.below hb1) (j := 5) rfl; have z6 := Blk.cell (hT.below hb1) (j := 6) rfl
  go_wp2_with fail
  go_fit (rsame6_any sRowsA sRowsn sRowsc sRowsv _ _ tRowsA tRowsn tRowsc tRowsv _ _ _ HlR.out (hr_sRows.below hb01) (hE.below hb01) HlR'.out (hr_tRows.below hb01) (hE'.below hb01) (by omega))
  rw [sameB_self]
  rintro xx w2 ⟨rfl, hb2⟩
  have hb12 := hb1.trans (hb2.mono hb1.size)
  have hb02 := hb01.trans (hb2.mono hb01.size)
  clear y0 y1 y2 y3 y4 y5 y6 z0 z1 z2 z3 z4 z5 z6
  have y0 := Blk.cell (hS.below hb12) (j := 0) rfl; have y1 := Blk.cell (hS.below hb12) (j := 1) rfl; have y2 := Blk.cell (hS.below hb12) (j := 2) rfl; have y3 := Blk.cell (hS.below hb12) (j := 3) rfl; have y4 := Blk.cell (hS.below hb12) (j := 4) rfl; have y5 := Blk.cell (hS.below hb12) (j := 5) rfl; have y6 := Blk.cell (hS.below hb12) (j := 6) rfl
  have z0 := Blk.cell (hT.below hb12) (j := 0) rfl; have z1 := Blk.cell (hT.below hb12) (j := 1) rfl; have z2 := Blk.cell (hT.below hb12) (j := 2) rfl; have z3 := Blk.cell (hT.below hb12) (j := 3) rfl; have z4 := Blk.cell (hT.below hb12) (j := 4) rfl; have z5 := Blk.cell (hT.below hb12) (j := 5) rfl; have z6 := Blk.cell (hT.below hb12) (j := 6) rfl
  go_wp2_with fail
  go_fit (rsameg_any sGroupEpoch sGroupMembersA sGroupMembersn sGroupMembersc _ sGroupEpoch tGroupMembersA tGroupMembersn tGroupMembersc _ _ HlM.out HlM'.out (by omega) (by omega) (hr_sGroupMembers.below hb02) (hr_tGroupMembers.below hb02))
  rw [eqG_self]
  rintro xx w3 ⟨rfl, hb3⟩
  go_wp2
  go_ret
  exact ⟨rfl, hb02.trans (hb3.mono hb02.size)⟩
end Go.Proofs.Ytlcbelmbonaooaa
namespace Go.Proofs.Ytlcbelmbonaooaa
set_option maxRecDepth 20000
open Go.RowKit Go.Px Go.Maps
set_option linter.unusedVariables false
section
variable {Y : Nat → Prop} {w : World} {L : Nat} {f : MFp} {a : MA} {N NN B : Nat} {D : DataW Value} {G : Option Addr} {gn gc : Nat}
/-- What done makes. -/
def MA.done (a : MA) (e : EntryD) : MA × Nat × List UInt8 :=
  if e.1 = 1 then
    ({ a with bs := doBE a.b a.z a.bs a.last e.2.2.2.2.2.1.1 e.2.2.2.2.2.1.2.1 e.2.2.2.2.2.1.2.2.1 e.2.2.2.2.2.1.2.2.2.1 e.2.2.2.2.2.1.2.2.2.2 e.2.1
              vs := doVE a.b a.z a.bs a.vs a.last e.2.2.2.2.2.1.1 e.2.2.2.2.2.1.2.1 e.2.2.2.2.2.1.2.2.1 e.2.2.2.2.2.1.2.2.2.1 e.2.2.2.2.2.1.2.2.2.2 e.2.1
              last := doLE a.b a.z a.last e.2.2.2.2.2.1.1 e.2.2.2.2.2.1.2.1 e.2.2.2.2.2.1.2.2.1 e.2.2.2.2.2.1.2.2.2.1 e.2.2.2.2.2.1.2.2.2.2 e.2.1 },
      doKE a.b a.z a.bs a.last e.2.2.2.2.2.1.1 e.2.2.2.2.2.1.2.1 e.2.2.2.2.2.1.2.2.1 e.2.2.2.2.2.1.2.2.2.1 e.2.2.2.2.2.1.2.2.2.2 e.2.1, doDE a.b a.z a.bs a.last e.2.2.2.2.2.1.1 e.2.2.2.2.2.1.2.1 e.2.2.2.2.2.1.2.2.1 e.2.2.2.2.2.1.2.2.2.1 e.2.2.2.2.2.1.2.2.2.2 e.2.1)
  else if e.1 = 2 ∧ e.2.2.2.2.2.2.1 = a.ep + 1 then ({ a with ep := e.2.2.2.2.2.2.1, ms := e.2.2.2.2.2.2.2 }, 1, [])
  else (a, 2, [])
end
end Go.Proofs.Ytlcbelmbonaooaa
namespace Go.Proofs.Ytlcbelmbonaooaa
set_option maxRecDepth 20000
open Go.RowKit Go.Px Go.Maps
set_option linter.unusedVariables false
section
variable {w w' : World} {B t bm N : Nat} {D : DataW Value} {m : TM}
end
/-- Rows with one more. -/
def putR (rows : List RowD) (c s : Int) (k : Nat) (bs : List UInt8) : List RowD := if putV (tmOf rows) rows.length c s k bs.length = 0 then insG (c, s, k, bs) false rows else rows
/-- What Apply makes, and tells. -/
def MA.apply (a : MA) (e : EntryD) : MA × Int × Nat × List UInt8 :=
  if entryB e = true then
    if e.2.1 = a.num + 1 then
      if (askV (tmOf a.rows) a.rows.length e.2.2.2.1 e.2.2.2.2.1).1 = 1 then
        ({ ({ a with num := e.2.1 } : MA).done e |>.1 with rows := putR a.rows e.2.2.2.1 e.2.2.2.2.1 (({ a with num := e.2.1 } : MA).done e).2.1 (({ a with num := e.2.1 } : MA).done e).2.2 }, 0, (({ a with num := e.2.1 } : MA).done e).2.1, (({ a with num := e.2.1 } : MA).done e).2.2)
      else ({ a with num := e.2.1 }, 0, (askV (tmOf a.rows) a.rows.length e.2.2.2.1 e.2.2.2.2.1).2.2.1, (askV (tmOf a.rows) a.rows.length e.2.2.2.1 e.2.2.2.2.1).2.2.2)
    else (a, 70, 0, [])
  else (a, 71, 0, [])
section
variable {Y : Nat → Prop} {w : World} {L : Nat} {f : MFp} {a : MA} {N NN B : Nat} {D : DataW Value} {G : Option Addr} {gn gc : Nat}
end
end Go.Proofs.Ytlcbelmbonaooaa
namespace Go.Proofs.Ytlcbelmbonaooaa
set_option maxRecDepth 20000
open Go.RowKit Go.Px Go.Maps
set_option linter.unusedVariables false
/-- The blocks that the document's machine writes. -/
structure RFp where
  rb : Nat
  rv : Nat
  gb : Nat
  gv : Nat
  rt : Nat
def RFp.W (f : RFp) (k : Nat) : Prop := k = f.rb ∨ k = f.rv ∨ k = f.gb ∨ k = f.gv ∨ k = f.rt
section
variable {X Y : Nat → Prop} {w w' : World} {lo : Nat} {f : RFp} {a : MA} {NN cb cv n c : Nat} {rows sv cs : List Value} {A G : Option Addr} {gn gc : Nat}
theorem RwRows.imp {Q Q' : Nat → Prop} {es : List RowT} (h : RwRows w Q cs es) (hQ : ∀ b, b < w.heap.size → Q b → Q' b) : RwRows w Q' cs es := by
  refine ⟨h.1, fun j e he => ?_⟩
  obtain ⟨D, d, dc, q1, q2, q3, q4, q5, q6, q7, q8, q9, q10⟩ := h.2 j e he
  exact ⟨D, d, dc, q1, q2, q3, q4, q5, q6, q7, q8, q9, fun hne a ha => hQ _ (rd_block q9 (fun e0 => hne (List.map_eq_nil_iff.1 e0)) a ha) (q10 hne a ha)⟩
end
end Go.Proofs.Ytlcbelmbonaooaa
namespace Go.Proofs.Ytlcbelmbonaooaa
set_option maxRecDepth 20000
open Go.RowKit Go.Px Go.Maps
set_option linter.unusedVariables false
/-- All that is right of a machine. -/
structure MA.Fit (a : MA) : Prop where
  ok : a.Ok
  gk : grpOk a.ep a.ms = true
  hb : 1 ≤ a.b ∧ a.b ≤ 4096
  hz : 1 ≤ a.z ∧ a.z ≤ 4096
  lb : a.bs.length = a.b * a.z
  lv : a.vs.length = a.b
  zero : Since a.b a.z 0 (List.replicate (a.b * a.z) 0) (List.replicate a.b 0) a.bs a.vs
  last : a.last ≤ a.num
theorem since_lay {b z : Nat} {bs0 : List UInt8} {vs0 : List Int} : ∀ (ps : List PageD) (bs : List UInt8) (vs : List Int), bs.length = b * z → vs.length = b → Good b z ps → Since b z 0 bs0 vs0 bs vs →
    Since b z 0 bs0 vs0 (layB z bs ps) (layV vs ps) ∧ (layB z bs ps).length = b * z ∧ (layV vs ps).length = b
  | [], bs, vs, h1, h2, _, h3 => ⟨h3, h1, h2⟩
  | p :: r, bs, vs, h1, h2, hg, h3 => by
    obtain ⟨P, e1, e2, e3, e4⟩ := hg 0 p rfl
    have hfit : P * z + p.2.2.length ≤ bs.length := by
      rw [h1, e3, ← Nat.succ_mul]; exact Nat.mul_le_mul_right z e2
    have hs := serB_out e4
    refine since_lay r (splB bs (p.1.toNat * z) p.2.2) (vs.set p.1.toNat p.2.1) ?_ (by simp [h2]) (fun j q hq => hg (j + 1) q (by simpa using hq)) ?_
    · rw [e1, Int.toNat_natCast, splB_length hfit]; exact h1
    · intro i hi
      rw [e1, Int.toNat_natCast]
      by_cases c : P = i
      · subst c
        refine .inr ?_
        rw [List.getD_eq_getElem?_getD, List.getElem?_set_self (by omega)]
        show 0 < p.2.1
        omega
      · rcases h3 i hi with ⟨q1, q2⟩ | q1
        · refine .inl ⟨?_, fun r hr => ?_⟩
          · rw [List.getD_eq_getElem?_getD, List.getElem?_set_ne c, ← List.getD_eq_getElem?_getD]; exact q1
          · rw [splB_getD hfit, e3, if_neg]
            · exact q2 r hr
            · have := blk_out (i := i) (P := P) (M := 1) hr
              rw [Nat.one_mul] at this
              rw [this]; omega
        · refine .inr ?_
          rw [List.getD_eq_getElem?_getD, List.getElem?_set_ne c, ← List.getD_eq_getElem?_getD]; exact q1
theorem layV_mem : ∀ (ps : List PageD) (vs : List Int) (v : Int), v ∈ layV vs ps → v ∈ vs ∨ ∃ p ∈ ps, v = p.2.1
  | [], vs, v, h => .inl h
  | p :: r, vs, v, h => by
    rcases layV_mem r (vs.set p.1.toNat p.2.1) v h with h | ⟨q, hq, e⟩
    · rcases List.mem_or_eq_of_mem_set h with h | h
      · exact .inl h
      · exact .inr ⟨p, List.mem_cons_self, h⟩
    · exact .inr ⟨q, List.mem_cons_of_mem _ hq, e⟩
theorem layL_le : ∀ (ps : List PageD) (l num : Int), l ≤ num → (∀ p ∈ ps, p.2.1 ≤ num) → layL l ps ≤ num
  | [], l, num, h, _ => h
  | p :: r, l, num, h, hp => layL_le r (max l p.2.1) num (by have := hp p List.mem_cons_self; omega) (fun q hq => hp q (List.mem_cons_of_mem _ hq))
theorem versB_out {num : Int} {ps : List PageD} (h : versB num ps = true) : ∀ p ∈ ps, p.2.1 ≤ num := by
  unfold versB at h
  simpa using h
theorem fit_of {x : StateD} (hx : stateB x = true) : (MA.of x).Fit := by
  obtain ⟨n, ⟨b, z⟩, ps, rs, ep, ms⟩ := x
  obtain ⟨x1, x2, x3, x4, x5, x6⟩ := stateB_out hx
  simp only at x1 x2 x3 x4 x5 x6
  obtain ⟨b, z, rfl, rfl, hb, hz⟩ := shE_out x2
  have hg := good_of_mpA (by omega) x3
  have hv := versB_out x6
  have hn := numB_out x1
  obtain ⟨s1, s2, s3⟩ := since_lay (bs0 := List.replicate (b * z) 0) (vs0 := List.replicate b 0) ps (List.replicate (b * z) 0) (List.replicate b 0) (by simp) (by simp) hg (Since.refl _ _ _ _ _)
  refine ⟨⟨x1, x4, fun v h => ?_⟩, x5, hb, hz, s2, s3, s1, ?_⟩
  · have h' : v ∈ layV (List.replicate b 0) ps := h
    show 0 ≤ v ∧ v ≤ n
    rcases layV_mem ps _ v h' with h1 | ⟨p, hp, rfl⟩
    · have := List.eq_of_mem_replicate h1; omega
    · obtain ⟨j, hj, rfl⟩ := List.mem_iff_getElem.1 hp
      obtain ⟨P, _, _, _, e4⟩ := hg j _ (List.getElem?_eq_getElem hj)
      have := serB_out e4
      have := hv _ hp
      omega
  · show layL 0 ps ≤ n
    exact layL_le ps 0 n (by omega) hv
/-! ### Apply -/
/-- What was changed since an earlier machine. -/
structure MA.From (a0 a : MA) : Prop where
  b : a.b = a0.b
  z : a.z = a0.z
  num : a0.num ≤ a.num
  since : Since a0.b a0.z a0.num a0.bs a0.vs a.bs a.vs
theorem MA.From.refl (a : MA) : a.From a := ⟨rfl, rfl, Int.le_refl _, Since.refl _ _ _ _ _⟩
/-! ### alike but for the volume's last number -/
/-! ### states of machines -/
/-! ### a request that is done again -/
/-! ### a later state, laid -/
end Go.Proofs.Ytlcbelmbonaooaa
namespace Go.Proofs.Ytlcbelmbonaooaa
set_option maxRecDepth 20000
open Go.RowKit Go.Px Go.Maps
set_option linter.unusedVariables false
/-- The cells of a data, of which an argument is. -/
theorem arg7 {w : World} {Q : Nat → Prop} {x : StateD} {cs : List Value} (h : tyState.Is w Q x cs) : cs.length = 7 := h.len
theorem group07_any (w : World) : Calls Try.prog 27 #[] w fun e w' => ∃ A, e = .returned (grp 0 A 3 3) ∧ Rd w' A (ints [0, 1, 2]) ∧ (∀ a, A = some a → w.heap.size ≤ a.block) ∧ Below w.heap.size w w' := by
  obtain ⟨g, hg⟩ : ∃ g, w.heap.size = g := ⟨_, rfl⟩
  have hZ : Blk ((w.alloc (.cells #[.int .i64 0, .slice (some ⟨g + 1, 0, none⟩) 3 3] 24)).alloc (.cells #[.int .i64 0, .int .i64 1, .int .i64 2] 3)) g [.int .i64 0, .slice (some ⟨g + 1, 0, none⟩) 3 3] 24 := by
    rw [← hg]; exact (Blk.new w [.int .i64 0, .slice (some ⟨w.heap.size + 1, 0, none⟩) 3 3] _).alloc _
  have hr : Rd ((w.alloc (.cells #[.int .i64 0, .slice (some ⟨g + 1, 0, none⟩) 3 3] 24)).alloc (.cells #[.int .i64 0, .int .i64 1, .int .i64 2] 3)) (some ⟨g + 1, 0, none⟩) (ints [0, 1, 2]) :=
    Rd.newG (us := [.int .i64 0, .int .i64 1, .int .i64 2]) (by rw [World.size_alloc, hg])
  go_enter Try.func27, Try.ntmps27
  go_wp2
  refine bodyPost_ret (results_cell rfl rfl hZ Try.underlying24 rfl (by kernel_rfl)) rfl ?_
  exact ⟨_, rfl, hr, (fun a ha => by injection ha with ha; subst ha; show w.heap.size ≤ g + 1; omega), ((Below.refl _ _).alloc (Nat.le_refl _) _).alloc (by simp) _⟩
def e07 : EntryD := (1, 1, 0, 5, 1, (2, 0, 1, [97, 98], []), 0, [])
def a07 : MA := MA.of (newSt 6 2 0 [0, 1, 2])
def b07 : MA := (a07.apply e07).1
def c07 : MA := (b07.apply (1, 2, e07.2.2)).1
theorem r07 : (a07.apply e07).2 = (0, 1, []) := by decide +kernel
theorem s07 : (b07.apply (1, 2, e07.2.2)).2 = (0, 1, []) := by decide +kernel
theorem t07 : c07.num = 2 := by decide +kernel
theorem u07 : pgL c07.z c07.bs c07.vs 0 c07.b = [(0, 1, [97, 98])] := by decide +kernel
theorem fit07 : a07.Fit := fit_of (newSt_ok (by decide +kernel) (by decide +kernel))
end Go.Proofs.Ytlcbelmbonaooaa
