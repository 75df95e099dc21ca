/- Stage 24: clone.Proxy (written by gen_24f.py). -/
import Derived.Test.YtlcbelmbonaooaaTyP
import Derived.Test.YtlcbelmbonaooaaC24
import Derived.Test.YtlcbelmbonaooaaF24e
namespace Go.Px
open Go.RowKit
set_option linter.unusedVariables false
section
variable {P : Program} {w : World} {ops : Array Oper} {rest : List Oper} {o : Oper} {a : Act} {Q : Exit → Act → World → Prop}
theorem Blk.part {w : World} {b k : Nat} {cs us : List Value} {B : TypeId} (hc : Blk w b cs B) (hk : (cs.drop k).take us.length = us) : w.rangeAt b k us := fun j v hv => by
  refine hc.cell ?_
  rw [← hk] at hv
  have hj : j < us.length := by
    have := (List.getElem?_eq_some_iff.1 hv).1
    rw [hk] at this; exact this
  rw [List.getElem?_take_of_lt hj, List.getElem?_drop] at hv
  exact hv
theorem go_loadM (hgd : o.guard = none) {T : TypeId} {x : Operand} (ho : o.op = .load T x) {b k : Nat} (hx : a.eval x = .pointer (some ⟨b, k, none⟩)) {cs : List Value} {d : TypeDesc} {B : TypeId} (hc : Blk w b cs B)
    (us : List Value) (hk : (cs.drop k).take us.length = us) (hu : P.underlying T = some d) (hd : d.isRow = true) (hi : (P.info? T).map (·.size) = some us.length)
    (h : wpList P ops Q rest (a.put o.dst (.agg us.toArray)) w) : Stop (wpList P ops Q (o :: rest) a w) :=
  wpList_load_mid hgd T x ho b k hx us d (hc.part hk) hu hd hi h
theorem go_storeM (hgd : o.guard = none) (hdn : o.dst = none) {T : TypeId} {x y : Operand} (ho : o.op = .store T x y) {b k : Nat} (hx : a.eval x = .pointer (some ⟨b, k, none⟩)) {cs : List Value} {B : TypeId} (hc : Blk w b cs B)
    (us : List Value) (hy : a.eval y = .agg us.toArray) (hk : k + us.length ≤ cs.length) (hi : (P.info? T).map (·.size) = some us.length) (h1 : ∀ u ∈ us, u.oneCell' = true)
    (h : wpList P ops Q rest a (w.setCells b k us)) : Stop (wpList P ops Q (o :: rest) a w) := by
  refine wpList_store_mid hgd T x y ho b k us.toArray hx hy (fun j hj => ?_) (by simpa using hi) (all_oneCell_toArray h1) ?_
  · have hj' : j < us.length := by simpa using hj
    have := hc.there (k + j) (by omega)
    rw [Nat.zero_add] at this
    exact this
  · rw [hdn]; exact h
theorem Fr.sets {X : Nat → Prop} {b : Nat} (hb : X b) : ∀ (us : List Value) (k : Nat) (w : World), Fr X w (w.setCells b k us)
  | [], _, w => Fr.refl X w
  | u :: us, k, w => (Fr.set w ⟨b, k, none⟩ u hb).trans (Fr.sets hb us (k + 1) _)
end
end Go.Px
namespace Go.Proofs.Ytlcbelmbonaooaa
set_option maxRecDepth 20000
open Go.RowKit Go.Px Go.Maps
set_option linter.unusedVariables false
set_option linter.unusedSimpArgs false
set_option maxRecDepth 20000 in
set_option maxHeartbeats 12800000 in
theorem cloneProxy_any {w : World} {Q : Nat → Prop} {x : ProxyD} {cs : List Value} (h : tyProxy.Is w Q x cs) (h8 : x.2.1.2.length ≤ 1099511627776) (h8a : x.2.2.2.2.2.1.2.2.2.1.length ≤ 1099511627776) (h8b : x.2.2.2.2.2.1.2.2.2.2.length ≤ 1099511627776) (h8c : x.2.2.2.2.2.2.1.2.length ≤ 1099511627776) :
    Calls Try.prog 28 #[.agg cs.toArray] w fun e w' => ∃ ds, e = .returned (.agg ds.toArray) ∧ tyProxy.Is w' (fun b => w.heap.size ≤ b) x ds ∧ Below w.heap.size w w' := by
  obtain ⟨pID, pGroupEpoch, pGroupMembers, pGroupMembersA, pGroupMembersn, pGroupMembersc, pGroupMembersv, pView, pSerial, pBusy, pOpKind, pOpAt, pOpN, pOpData, pOpDataA, pOpDatan, pOpDatac, pOpOld, pOpOldA, pOpOldn, pOpOldc, pNextEpoch, pNextMembers, pNextMembersA, pNextMembersn, pNextMembersc, pNextMembersv, pQuiet, rfl, rfl, h1_pID, h2_pID, h1_pGroupEpoch, h2_pGroupEpoch, hl_pGroupMembers, hc_pGroupMembers, hm_pGroupMembers, hr_pGroupMembers, hq_pGroupMembers, he_pGroupMembers, h1_pView, h2_pView, h1_pSerial, h2_pSerial, hu_pOpKind, h1_pOpAt, h2_pOpAt, h1_pOpN, h2_pOpN, hl_pOpData, hc_pOpData, hm_pOpData, hr_pOpData, hq_pOpData, hl_pOpOld, hc_pOpOld, hm_pOpOld, hr_pOpOld, hq_pOpOld, h1_pNextEpoch, h2_pNextEpoch, hl_pNextMembers, hc_pNextMembers, hm_pNextMembers, hr_pNextMembers, hq_pNextMembers, he_pNextMembers, h1_pQuiet, h2_pQuiet⟩ := Proxy_out h
  obtain ⟨hmi, hri⟩ := i64rows he_pGroupMembers
  subst hmi
  obtain ⟨hmi', hri'⟩ := i64rows he_pNextMembers
  subst hmi'
  simp only at h8 h8a h8b h8c
  have hO : tyOp.Is w Q (pOpKind, pOpAt, pOpN, pOpData, pOpOld) [.int .u8 pOpKind, .int .i64 pOpAt, .int .i64 pOpN, .slice pOpDataA pOpDatan pOpDatac, .slice pOpOldA pOpOldn pOpOldc] := Op_mk hu_pOpKind h1_pOpAt h2_pOpAt h1_pOpN h2_pOpN hl_pOpData hc_pOpData hm_pOpData hr_pOpData hq_pOpData hl_pOpOld hc_pOpOld hm_pOpOld hr_pOpOld hq_pOpOld
  obtain ⟨g, hg⟩ : ∃ g, w.heap.size = g := ⟨_, rfl⟩
  have HG := hide (fun W (hW : Below w.heap.size w W) => cloneG_any pGroupEpoch pGroupMembersA pGroupMembersn pGroupMembersc pGroupMembers W hl_pGroupMembers (by rw [← hl_pGroupMembers]; exact h8) (hr_pGroupMembers.below hW))
  have HO := hide (fun W (hW : Below w.heap.size w W) => cloneOp_any (hO.below hW) h8a h8b)
  have HN := hide (fun W (hW : Below w.heap.size w W) => cloneG_any pNextEpoch pNextMembersA pNextMembersn pNextMembersc pNextMembers W hl_pNextMembers (by rw [← hl_pNextMembers]; exact h8c) (hr_pNextMembers.below hW))
  clear hO hr_pGroupMembers hq_pGroupMembers hr_pOpData hq_pOpData hr_pOpOld hq_pOpOld hr_pNextMembers hq_pNextMembers h8 h8a h8b h8c
  obtain ⟨w0, hw0⟩ : ∃ x, (w.alloc (.cells #[.int .i64 pID, .int .i64 pGroupEpoch, .slice pGroupMembersA pGroupMembersn pGroupMembersc, .int .i64 pView, .int .i64 pSerial, .bool pBusy, .int .u8 pOpKind, .int .i64 pOpAt, .int .i64 pOpN, .slice pOpDataA pOpDatan pOpDatac, .slice pOpOldA pOpOldn pOpOldc, .int .i64 pNextEpoch, .slice pNextMembersA pNextMembersn pNextMembersc, .int .i64 pQuiet] 30)).alloc (.cells #[.int .i64 0, .int .i64 0, .slice none 0 0, .int .i64 0, .int .i64 0, .bool false, .int .u8 0, .int .i64 0, .int .i64 0, .slice none 0 0, .slice none 0 0, .int .i64 0, .slice none 0 0, .int .i64 0] 30) = x := ⟨_, rfl⟩
  have hP : Blk w0 g [.int .i64 pID, .int .i64 pGroupEpoch, .slice pGroupMembersA pGroupMembersn pGroupMembersc, .int .i64 pView, .int .i64 pSerial, .bool pBusy, .int .u8 pOpKind, .int .i64 pOpAt, .int .i64 pOpN, .slice pOpDataA pOpDatan pOpDatac, .slice pOpOldA pOpOldn pOpOldc, .int .i64 pNextEpoch, .slice pNextMembersA pNextMembersn pNextMembersc, .int .i64 pQuiet] 30 := by rw [← hw0, ← hg]; exact (Blk.new w [.int .i64 pID, .int .i64 pGroupEpoch, .slice pGroupMembersA pGroupMembersn pGroupMembersc, .int .i64 pView, .int .i64 pSerial, .bool pBusy, .int .u8 pOpKind, .int .i64 pOpAt, .int .i64 pOpN, .slice pOpDataA pOpDatan pOpDatac, .slice pOpOldA pOpOldn pOpOldc, .int .i64 pNextEpoch, .slice pNextMembersA pNextMembersn pNextMembersc, .int .i64 pQuiet] _).alloc _
  have hZ : Blk w0 (g + 1) [.int .i64 0, .int .i64 0, .slice none 0 0, .int .i64 0, .int .i64 0, .bool false, .int .u8 0, .int .i64 0, .int .i64 0, .slice none 0 0, .slice none 0 0, .int .i64 0, .slice none 0 0, .int .i64 0] 30 := by
    rw [← hw0, ← hg]
    have := Blk.new (w.alloc (.cells #[.int .i64 pID, .int .i64 pGroupEpoch, .slice pGroupMembersA pGroupMembersn pGroupMembersc, .int .i64 pView, .int .i64 pSerial, .bool pBusy, .int .u8 pOpKind, .int .i64 pOpAt, .int .i64 pOpN, .slice pOpDataA pOpDatan pOpDatac, .slice pOpOldA pOpOldn pOpOldc, .int .i64 pNextEpoch, .slice pNextMembersA pNextMembersn pNextMembersc, .int .i64 pQuiet] 30)) [.int .i64 0, .int .i64 0, .slice none 0 0, .int .i64 0, .int .i64 0, .bool false, .int .u8 0, .int .i64 0, .int .i64 0, .slice none 0 0, .slice none 0 0, .int .i64 0, .slice none 0 0, .int .i64 0] 30
    rwa [World.size_alloc] at this
  have b0 : Below w.heap.size w w0 := by rw [← hw0]; exact ((Below.refl _ _).alloc (Nat.le_refl _) _).alloc (by simp) _
  have zl := hZ.lt
  have Hw0 := hide hw0
  have Hlg := hide hl_pGroupMembers
  have Hln := hide hl_pNextMembers
  have Hri := hide hri
  have Hri' := hide hri'
  have s0 := b0.size
  clear hw0 hl_pGroupMembers hl_pNextMembers hl_pOpData hl_pOpOld he_pGroupMembers he_pNextMembers hri hri'
  go_enter Try.func28, Try.ntmps28
  go_wp2_with (first | (with_reducible refine stop_load 24 rfl ?_) | (with_reducible refine stop_load 28 rfl ?_) | (with_reducible refine stop_load 30 rfl ?_) | (with_reducible refine stop_store 24 rfl ?_) | (with_reducible refine stop_store 28 rfl ?_) | (with_reducible refine stop_store 30 rfl ?_))
  rw [Hw0.out]
  refine go_loadM rfl rfl (k := 1) rfl hP [.int .i64 pGroupEpoch, .slice pGroupMembersA pGroupMembersn pGroupMembersc] rfl Try.underlying24 rfl (by kernel_rfl) ?_
  go_wp2_with (first | (with_reducible refine stop_load 24 rfl ?_) | (with_reducible refine stop_load 28 rfl ?_) | (with_reducible refine stop_load 30 rfl ?_) | (with_reducible refine stop_store 24 rfl ?_) | (with_reducible refine stop_store 28 rfl ?_) | (with_reducible refine stop_store 30 rfl ?_))
  go_fit (HG.out w0 b0)
  rintro xx w1 ⟨A1, c1, rfl, hc1, hm1, hr1, ha1, hd1⟩
  have s1 := hd1.size
  have b1 := b0.trans (hd1.mono s0)
  have hP1 := hP.below hd1
  have hZ1 := hZ.below hd1
  go_wp2_with (first | (with_reducible refine stop_load 24 rfl ?_) | (with_reducible refine stop_load 28 rfl ?_) | (with_reducible refine stop_load 30 rfl ?_) | (with_reducible refine stop_store 24 rfl ?_) | (with_reducible refine stop_store 28 rfl ?_) | (with_reducible refine stop_store 30 rfl ?_))
  refine go_storeM rfl rfl rfl (k := 1) rfl hP1 [.int .i64 pGroupEpoch, .slice A1 pGroupMembersn c1] rfl (by simp) (by kernel_rfl) (by intro u hu; simp only [List.mem_cons, List.not_mem_nil, or_false] at hu; rcases hu with rfl | rfl <;> rfl) ?_
  obtain ⟨wA, hwA⟩ : ∃ x, w1.setCells g 1 [.int .i64 pGroupEpoch, .slice A1 pGroupMembersn c1] = x := ⟨_, rfl⟩
  have hF1 : Fr (fun b => b = g) w1 wA := by rw [← hwA]; exact Fr.sets (X := fun b => b = g) rfl _ _ _
  have hP2 : Blk wA g [.int .i64 pID, .int .i64 pGroupEpoch, .slice A1 pGroupMembersn c1, .int .i64 pView, .int .i64 pSerial, .bool pBusy, .int .u8 pOpKind, .int .i64 pOpAt, .int .i64 pOpN, .slice pOpDataA pOpDatan pOpDatac, .slice pOpOldA pOpOldn pOpOldc, .int .i64 pNextEpoch, .slice pNextMembersA pNextMembersn pNextMembersc, .int .i64 pQuiet] 30 := by
    rw [← hwA]
    exact ((hP1.set 1 (.int .i64 pGroupEpoch)).set 2 (.slice A1 pGroupMembersn c1))
  have hZ2 := hZ1.fr hF1 (by omega)
  have bwA := hF1.below b1 (by omega) (fun b hb => by omega)
  have swA := hF1.size
  have HwA := hide hwA
  clear hwA
  have iG : tyGroup.Is wA (fun b => g + 2 ≤ b) (pGroupEpoch, pGroupMembers) [.int .i64 pGroupEpoch, .slice A1 pGroupMembersn c1] := (Group_mk (Q := fun b => g + 2 ≤ b) h1_pGroupEpoch h2_pGroupEpoch Hlg.out hc1 hm1 hr1 (fun _ a ha => by have := ha1 a ha; show g + 2 ≤ a.block; omega) (i64rows_mk Hri.out)).fr hF1 (fun b hb hx => by have hx' : b = g := hx; omega)
  go_wp2_with (first | (with_reducible refine stop_load 24 rfl ?_) | (with_reducible refine stop_load 28 rfl ?_) | (with_reducible refine stop_load 30 rfl ?_) | (with_reducible refine stop_store 24 rfl ?_) | (with_reducible refine stop_store 28 rfl ?_) | (with_reducible refine stop_store 30 rfl ?_))
  rw [HwA.out]
  refine go_loadM rfl rfl (k := 6) rfl hP2 [.int .u8 pOpKind, .int .i64 pOpAt, .int .i64 pOpN, .slice pOpDataA pOpDatan pOpDatac, .slice pOpOldA pOpOldn pOpOldc] rfl Try.underlying28 rfl (by kernel_rfl) ?_
  go_wp2_with (first | (with_reducible refine stop_load 24 rfl ?_) | (with_reducible refine stop_load 28 rfl ?_) | (with_reducible refine stop_load 30 rfl ?_) | (with_reducible refine stop_store 24 rfl ?_) | (with_reducible refine stop_store 28 rfl ?_) | (with_reducible refine stop_store 30 rfl ?_))
  go_fit (HO.out wA bwA)
  rintro xx w2 ⟨ds, rfl, iO0, hd2⟩
  obtain ⟨k2, at2, n2, dd, dA, dn, dc, oo, oA, on, oc, hx2, rfl, hu2, h1at2, h2at2, h1n2, h2n2, hl2, hcd2, hmd2, hrd2, hqd2, hlo2, hco2, hmo2, hro2, hqo2⟩ := Op_out iO0
  simp only [Prod.mk.injEq] at hx2
  obtain ⟨e1, e2, e3, e4, e5⟩ := hx2
  subst e1 e2 e3 e4 e5
  have s2 := hd2.size
  have b2 := bwA.trans (hd2.mono bwA.size)
  have hP3 := hP2.below hd2
  have hZ3 := hZ2.below hd2
  have iG2 := iG.below hd2
  go_wp2_with (first | (with_reducible refine stop_load 24 rfl ?_) | (with_reducible refine stop_load 28 rfl ?_) | (with_reducible refine stop_load 30 rfl ?_) | (with_reducible refine stop_store 24 rfl ?_) | (with_reducible refine stop_store 28 rfl ?_) | (with_reducible refine stop_store 30 rfl ?_))
  refine go_storeM rfl rfl rfl (k := 6) rfl hP3 [.int .u8 pOpKind, .int .i64 pOpAt, .int .i64 pOpN, .slice dA dn dc, .slice oA on oc] rfl (by simp) (by kernel_rfl) (by intro u hu; simp only [List.mem_cons, List.not_mem_nil, or_false] at hu; rcases hu with rfl | rfl | rfl | rfl | rfl <;> rfl) ?_
  obtain ⟨wB, hwB⟩ : ∃ x, w2.setCells g 6 [.int .u8 pOpKind, .int .i64 pOpAt, .int .i64 pOpN, .slice dA dn dc, .slice oA on oc] = x := ⟨_, rfl⟩
  have hF2 : Fr (fun b => b = g) w2 wB := by rw [← hwB]; exact Fr.sets (X := fun b => b = g) rfl _ _ _
  have hP4 : Blk wB g [.int .i64 pID, .int .i64 pGroupEpoch, .slice A1 pGroupMembersn c1, .int .i64 pView, .int .i64 pSerial, .bool pBusy, .int .u8 pOpKind, .int .i64 pOpAt, .int .i64 pOpN, .slice dA dn dc, .slice oA on oc, .int .i64 pNextEpoch, .slice pNextMembersA pNextMembersn pNextMembersc, .int .i64 pQuiet] 30 := by
    rw [← hwB]
    exact (((((hP3.set 6 (.int .u8 pOpKind)).set 7 (.int .i64 pOpAt)).set 8 (.int .i64 pOpN)).set 9 (.slice dA dn dc)).set 10 (.slice oA on oc))
  have hZ4 := hZ3.fr hF2 (by omega)
  have bwB := hF2.below b2 (by omega) (fun b hb => by omega)
  have swB := hF2.size
  have HwB := hide hwB
  clear hwB
  have iO := iO0.fr hF2 (fun b hb hx => by have hx' : b = g := hx; have hb' : wA.heap.size ≤ b := hb; omega)
  have iG3 := iG2.fr hF2 (fun b hb hx => by have hx' : b = g := hx; omega)
  go_wp2_with (first | (with_reducible refine stop_load 24 rfl ?_) | (with_reducible refine stop_load 28 rfl ?_) | (with_reducible refine stop_load 30 rfl ?_) | (with_reducible refine stop_store 24 rfl ?_) | (with_reducible refine stop_store 28 rfl ?_) | (with_reducible refine stop_store 30 rfl ?_))
  rw [HwB.out]
  refine go_loadM rfl rfl (k := 11) rfl hP4 [.int .i64 pNextEpoch, .slice pNextMembersA pNextMembersn pNextMembersc] rfl Try.underlying24 rfl (by kernel_rfl) ?_
  go_wp2_with (first | (with_reducible refine stop_load 24 rfl ?_) | (with_reducible refine stop_load 28 rfl ?_) | (with_reducible refine stop_load 30 rfl ?_) | (with_reducible refine stop_store 24 rfl ?_) | (with_reducible refine stop_store 28 rfl ?_) | (with_reducible refine stop_store 30 rfl ?_))
  go_fit (HN.out wB bwB)
  rintro xx w3 ⟨A3, c3, rfl, hc3, hm3, hr3, ha3, hd3⟩
  have s3 := hd3.size
  have b3 := bwB.trans (hd3.mono bwB.size)
  have hP5 := hP4.below hd3
  have hZ5 := hZ4.below hd3
  have iG4 := iG3.below hd3
  have iO2 := iO.below hd3
  go_wp2_with (first | (with_reducible refine stop_load 24 rfl ?_) | (with_reducible refine stop_load 28 rfl ?_) | (with_reducible refine stop_load 30 rfl ?_) | (with_reducible refine stop_store 24 rfl ?_) | (with_reducible refine stop_store 28 rfl ?_) | (with_reducible refine stop_store 30 rfl ?_))
  refine go_storeM rfl rfl rfl (k := 11) rfl hP5 [.int .i64 pNextEpoch, .slice A3 pNextMembersn c3] rfl (by simp) (by kernel_rfl) (by intro u hu; simp only [List.mem_cons, List.not_mem_nil, or_false] at hu; rcases hu with rfl | rfl <;> rfl) ?_
  obtain ⟨wC, hwC⟩ : ∃ x, w3.setCells g 11 [.int .i64 pNextEpoch, .slice A3 pNextMembersn c3] = x := ⟨_, rfl⟩
  have hF3 : Fr (fun b => b = g) w3 wC := by rw [← hwC]; exact Fr.sets (X := fun b => b = g) rfl _ _ _
  have hP6 : Blk wC g [.int .i64 pID, .int .i64 pGroupEpoch, .slice A1 pGroupMembersn c1, .int .i64 pView, .int .i64 pSerial, .bool pBusy, .int .u8 pOpKind, .int .i64 pOpAt, .int .i64 pOpN, .slice dA dn dc, .slice oA on oc, .int .i64 pNextEpoch, .slice A3 pNextMembersn c3, .int .i64 pQuiet] 30 := by
    rw [← hwC]
    exact ((hP5.set 11 (.int .i64 pNextEpoch)).set 12 (.slice A3 pNextMembersn c3))
  have hZ6 := hZ5.fr hF3 (by omega)
  have bwC := hF3.below b3 (by omega) (fun b hb => by omega)
  have swC := hF3.size
  have HwC := hide hwC
  clear hwC
  have iN := (Group_mk (Q := fun b => g + 2 ≤ b) h1_pNextEpoch h2_pNextEpoch Hln.out hc3 hm3 hr3 (fun _ a ha => by have := ha3 a ha; show g + 2 ≤ a.block; omega) (i64rows_mk Hri'.out)).fr hF3 (fun b hb hx => by have hx' : b = g := hx; omega)
  have iG5 := iG4.fr hF3 (fun b hb hx => by have hx' : b = g := hx; omega)
  have iO3 := iO2.fr hF3 (fun b hb hx => by have hx' : b = g := hx; have hb' : wA.heap.size ≤ b := hb; omega)
  go_wp2_with (first | (with_reducible refine stop_load 24 rfl ?_) | (with_reducible refine stop_load 28 rfl ?_) | (with_reducible refine stop_load 30 rfl ?_) | (with_reducible refine stop_store 24 rfl ?_) | (with_reducible refine stop_store 28 rfl ?_) | (with_reducible refine stop_store 30 rfl ?_))
  rw [HwC.out]
  refine go_load rfl rfl rfl hP6 Try.underlying30 rfl (by kernel_rfl) ?_
  go_wp2_with (first | (with_reducible refine stop_load 24 rfl ?_) | (with_reducible refine stop_load 28 rfl ?_) | (with_reducible refine stop_load 30 rfl ?_) | (with_reducible refine stop_store 24 rfl ?_) | (with_reducible refine stop_store 28 rfl ?_) | (with_reducible refine stop_store 30 rfl ?_))
  refine go_store rfl rfl rfl rfl rfl hZ6 (by kernel_rfl) rfl (us := [.int .i64 pID, .int .i64 pGroupEpoch, .slice A1 pGroupMembersn c1, .int .i64 pView, .int .i64 pSerial, .bool pBusy, .int .u8 pOpKind, .int .i64 pOpAt, .int .i64 pOpN, .slice dA dn dc, .slice oA on oc, .int .i64 pNextEpoch, .slice A3 pNextMembersn c3, .int .i64 pQuiet]) (by intro u hu; simp only [List.mem_cons, List.not_mem_nil, or_false] at hu; rcases hu with rfl | rfl | rfl | rfl | rfl | rfl | rfl | rfl | rfl | rfl | rfl | rfl | rfl | rfl <;> rfl) ?_
  go_wp2
  refine bodyPost_ret (results_cell rfl rfl (hZ6.setAll [.int .i64 pID, .int .i64 pGroupEpoch, .slice A1 pGroupMembersn c1, .int .i64 pView, .int .i64 pSerial, .bool pBusy, .int .u8 pOpKind, .int .i64 pOpAt, .int .i64 pOpN, .slice dA dn dc, .slice oA on oc, .int .i64 pNextEpoch, .slice A3 pNextMembersn c3, .int .i64 pQuiet]) Try.underlying30 rfl (by kernel_rfl)) rfl ?_
  have hF : Fr (fun b => b = g + 1) wC (wC.setRow (g + 1) #[.int .i64 pID, .int .i64 pGroupEpoch, .slice A1 pGroupMembersn c1, .int .i64 pView, .int .i64 pSerial, .bool pBusy, .int .u8 pOpKind, .int .i64 pOpAt, .int .i64 pOpN, .slice dA dn dc, .slice oA on oc, .int .i64 pNextEpoch, .slice A3 pNextMembersn c3, .int .i64 pQuiet]) := ⟨rfl, rfl, rfl, by simp [World.setRow], fun k _ hk => heap_setRow_other wC (g + 1) k _ (fun e => hk e)⟩
  refine ⟨[.int .i64 pID, .int .i64 pGroupEpoch, .slice A1 pGroupMembersn c1, .int .i64 pView, .int .i64 pSerial, .bool pBusy, .int .u8 pOpKind, .int .i64 pOpAt, .int .i64 pOpN, .slice dA dn dc, .slice oA on oc, .int .i64 pNextEpoch, .slice A3 pNextMembersn c3, .int .i64 pQuiet], rfl, ?_, hF.below bwC (by omega) (fun b hb => by have hb' : b = g + 1 := hb; omega)⟩
  have jG := iG5.fr hF (fun b hb hx => by have hx' : b = g + 1 := hx; omega)
  have jO := iO3.fr hF (fun b hb hx => by have hx' : b = g + 1 := hx; have hb' : wA.heap.size ≤ b := hb; omega)
  have jN := iN.fr hF (fun b hb hx => by have hx' : b = g + 1 := hx; omega)
  obtain ⟨_, _, _, _, _, _, xg, cg, a1, a2, a3, a4, a5, a6, a7, a8⟩ := Group_out jG
  cases xg
  cases cg
  obtain ⟨_, _, _, _, _, _, xn, cn, n1, n2, n3, n4, n5, n6, n7, n8⟩ := Group_out jN
  cases xn
  cases cn
  obtain ⟨_, _, _, _, _, _, _, _, _, _, _, xo, co, o1, o2, o3, o4, o5, o6, o7, o8, o9, o10, o11, o12, o13, o14, o15⟩ := Op_out jO
  cases xo
  cases co
  exact Proxy_mk h1_pID h2_pID a1 a2 a3 a4 a5 a6 (fun hn a ha => by have : g + 2 ≤ a.block := a7 hn a ha; show w.heap.size ≤ a.block; omega) (by obtain ⟨q, hq⟩ := i64rows a8; rw [q]; exact i64rows_mk hq) h1_pView h2_pView h1_pSerial h2_pSerial o1 o2 o3 o4 o5 o6 o7 o8 o9 (fun hn a ha => by have : wA.heap.size ≤ a.block := o10 hn a ha; show w.heap.size ≤ a.block; omega) o11 o12 o13 o14 (fun hn a ha => by have : wA.heap.size ≤ a.block := o15 hn a ha; show w.heap.size ≤ a.block; omega) n1 n2 n3 n4 n5 n6 (fun hn a ha => by have : g + 2 ≤ a.block := n7 hn a ha; show w.heap.size ≤ a.block; omega) (by obtain ⟨q, hq⟩ := i64rows n8; rw [q]; exact i64rows_mk hq) h1_pQuiet h2_pQuiet
end Go.Proofs.Ytlcbelmbonaooaa
