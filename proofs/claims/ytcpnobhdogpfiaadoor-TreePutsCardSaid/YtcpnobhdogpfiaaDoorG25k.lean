/- The program's Of, of any state. -/
import Derived.Test.YtcpnobhdogpfiaaDoorK74
import Derived.Test.YtcpnobhdogpfiaaDoorG25i
import Derived.Test.YtcpnobhdogpfiaaDoorG25j
import Derived.Test.YtcpnobhdogpfiaaDoorF25g
import Derived.Deep.DeepFit
namespace Go.Proofs.YtcpnobhdogpfiaaDoor
set_option maxRecDepth 20000
open Go.RowKit Go.Px
set_option linter.unusedVariables false
/-- The page of a block: the last with that number. -/
def selS (i : Int) (acc : Option PageD) (ps : List PageD) : Option PageD := ps.foldl (fun a p => if p.1 = i then some p else a) acc
theorem selS_keep {i : Int} : ∀ (ps : List PageD) (acc : Option PageD), (∀ p ∈ ps, p.1 ≠ i) → selS i acc ps = acc
  | [], _, _ => rfl
  | p :: r, acc, h => by
    show selS i (if p.1 = i then some p else acc) r = acc
    rw [if_neg (h p (by simp)), selS_keep r acc (fun q hq => h q (by simp [hq]))]
theorem selS_append (i : Int) (acc : Option PageD) (l r : List PageD) : selS i acc (l ++ r) = selS i (selS i acc l) r := by unfold selS; rw [List.foldl_append]
theorem selS_at {i : Int} {l r : List PageD} {p : PageD} (acc : Option PageD) (hp : p.1 = i) (hr : ∀ q ∈ r, q.1 ≠ i) : selS i acc (l ++ p :: r) = some p := by
  rw [selS_append]
  show selS i (if p.1 = i then some p else selS i acc l) r = some p
  rw [if_pos hp, selS_keep r _ hr]
theorem selS_snoc {i : Int} {acc : Option PageD} {ps : List PageD} {k : Nat} {p : PageD} (h : ps[k]? = some p) : selS i acc (ps.take (k + 1)) = if p.1 = i then some p else selS i acc (ps.take k) := by
  obtain ⟨hk, hp⟩ := List.getElem?_eq_some_iff.1 h
  rw [List.take_succ_eq_append_getElem hk, selS_append, hp]; rfl
def zerosB (z : Int) : List UInt8 := List.replicate z.toNat 0
def leafS (z : Int) (o : Option PageD) (i : Int) : Nat := match o with | some p => leafN p.1 p.2.1 p.2.2 | none => leafN i 0 (zerosB z)
/-- The digests of a state's blocks. -/
def ofL (x : StateD) : List Nat := (List.range x.2.1.1.toNat).map fun i : Nat => leafS x.2.1.2 (selS (i : Int) none x.2.2.1) (i : Int)
theorem ofL_length (x : StateD) : (ofL x).length = x.2.1.1.toNat := by unfold ofL; simp
theorem ofL_get {x : StateD} {i : Nat} (h : i < x.2.1.1.toNat) : (ofL x)[i]? = some (leafS x.2.1.2 (selS (i : Int) none x.2.2.1) (i : Int)) := by unfold ofL; simp [h]
theorem ofL_snoc {x : StateD} {i : Nat} (h : i < x.2.1.1.toNat) : (ofL x).take (i + 1) = (ofL x).take i ++ [leafS x.2.1.2 (selS (i : Int) none x.2.2.1) (i : Int)] := by
  rw [List.take_add_one, ofL_get h]; rfl
theorem leafN_lt (p v : Int) (bs : List UInt8) : leafN p v bs < 4294967296 := sumN_lt _
theorem leafS_lt (z : Int) (o : Option PageD) (i : Int) : leafS z o i < 4294967296 := by unfold leafS; split <;> exact leafN_lt _ _ _
theorem ofL_lt (x : StateD) : ∀ y ∈ ofL x, y < 4294967296 := by
  intro y hy; unfold ofL at hy; rw [List.mem_map] at hy; obtain ⟨i, _, rfl⟩ := hy; exact leafS_lt _ _ _
theorem mpA_asc {b z : Int} : ∀ (ps : List PageD) (ah : Int), mpA b z ah ps = true → (∀ p ∈ ps, ah < p.1 ∧ p.1 < b ∧ (p.2.2.length : Int) = z) ∧ ps.Pairwise (fun p q => p.1 < q.1)
  | [], ah, _ => ⟨by simp, List.Pairwise.nil⟩
  | p :: r, ah, h => by
    rw [mpA, Bool.and_eq_true] at h
    obtain ⟨h1, h2⟩ := h
    have h1 := of_decide_eq_true h1
    obtain ⟨k1, k2⟩ := mpA_asc r p.1 h2
    refine ⟨fun q hq => ?_, List.pairwise_cons.2 ⟨fun q hq => (k1 q hq).1, k2⟩⟩
    rw [List.mem_cons] at hq
    rcases hq with rfl | hq
    · exact ⟨by omega, by omega, h1.2.2.2⟩
    · have := k1 q hq
      exact ⟨by omega, this.2⟩
/-- Where a state may be. -/
theorem state_facts {x : StateD} (h : stateB x = true) : (1 ≤ x.2.1.1 ∧ x.2.1.1 ≤ 4096) ∧ (1 ≤ x.2.1.2 ∧ x.2.1.2 ≤ 4096) ∧ (∀ p ∈ x.2.2.1, 0 ≤ p.1 ∧ p.1 < x.2.1.1 ∧ (p.2.2.length : Int) = x.2.1.2) ∧ x.2.2.1.Pairwise (fun p q => p.1 < q.1) := by
  unfold stateB at h
  simp only [Bool.and_eq_true] at h
  obtain ⟨_, h1, h2, _⟩ := h
  have h1 := shE_eq h1
  have hs : (1 ≤ x.2.1.1 ∧ x.2.1.1 ≤ 4096) ∧ 1 ≤ x.2.1.2 ∧ x.2.1.2 ≤ 4096 := by
    unfold shE at h1
    split at h1
    · assumption
    · cases h1
  obtain ⟨k1, k2⟩ := mpA_asc _ _ h2
  exact ⟨hs.1, hs.2, fun p hp => by have := k1 p hp; exact ⟨by omega, this.2⟩, k2⟩
/-- One step of the program's loop: the page at hand is the block's. -/
theorem sel_hit {ps : List PageD} {k : Nat} {p : PageD} {r : List PageD} {i : Int} (hd : ps.drop k = p :: r) (hp : p.1 = i) (ha : ps.Pairwise (fun p q => p.1 < q.1)) : selS i none ps = some p := by
  rw [← List.take_append_drop k ps, hd] at ha ⊢
  refine selS_at _ hp (fun q hq => ?_)
  have := (List.pairwise_append.1 ha).2.1
  rw [List.pairwise_cons] at this
  have := this.1 q hq
  omega
theorem sel_miss {ps : List PageD} {k : Nat} {i : Int} (h1 : ∀ p ∈ ps.take k, p.1 < i) (h2 : ∀ p ∈ ps.drop k, i < p.1) : selS i none ps = none := by
  refine selS_keep _ _ (fun p hp => ?_)
  rw [← List.take_append_drop k ps, List.mem_append] at hp
  rcases hp with hp | hp
  · have := h1 p hp; omega
  · have := h2 p hp; omega
def ofE (x : StateD) : Int := if stateB x = true then 0 else 72
def ofT (x : StateD) : List (List Nat) := if stateB x = true then treeD (ofL x) else []
theorem zero_u8 {z : Value} (hz : ∃ i, (Tryd.prog).info? 5 = some i ∧ i.zero = some z) : z = .int .u8 0 := by
  obtain ⟨i, hi1, hi2⟩ := hz
  have h0 : (Tryd.prog.info? 5).map (·.zero) = some (some (.int .u8 0)) := by kernel_rfl
  rw [hi1, Option.map_some, hi2] at h0
  exact Option.some.inj (Option.some.inj h0)
theorem made_zeros (n : Nat) : (madeCells (Value.int .u8 0).cells (n * 1)).toList.take (n * 1) = bys (List.replicate n 0) := by
  rw [show (Value.int .u8 0).cells = #[.int .u8 0] from rfl, Nat.mul_one, toList_madeCells_one, List.take_of_length_le (by simp)]
  unfold bys; rw [List.map_replicate]; rfl
theorem PgRows.tail {w : World} {Q : Nat → Prop} {vs : List Value} {p : PageD} {r : List PageD} (h : PgRows w Q vs (p :: r)) : PgRows w Q (vs.drop 3) r := by
  refine ⟨by rw [List.length_drop, h.1, List.length_cons]; omega, fun j q hq => ?_⟩
  obtain ⟨A, n, c, h1, h2, h3, h4⟩ := h.2 (j + 1) q (by simpa using hq)
  refine ⟨A, n, c, ?_, ?_, ?_, h4⟩
  · rw [List.getElem?_drop, show 3 + 3 * j = 3 * (j + 1) by omega]; exact h1
  · rw [List.getElem?_drop, show 3 + (3 * j + 1) = 3 * (j + 1) + 1 by omega]; exact h2
  · rw [List.getElem?_drop, show 3 + (3 * j + 2) = 3 * (j + 1) + 2 by omega]; exact h3
set_option maxRecDepth 100000 in
set_option maxHeartbeats 6400000 in
theorem tof_yes {w : World} {Q : Nat → Prop} {x : StateD} {cs : List Value} (h : tyState.Is w Q x cs) (ht : Tab w) (hs : stateB x = true) :
    Calls Tryd.prog 22 #[.agg cs.toArray] w fun e w' => ∃ B K C, e = .returned (.tuple #[.agg #[.slice B K C], .int .i64 0]) ∧ tyTree.Is w' (fun b => w.heap.size ≤ b) (treeD (ofL x)) [.slice B K C] ∧ Below w.heap.size w w' := by
  obtain ⟨⟨hb1, hb2⟩, ⟨hz1, hz2⟩, hpg, hasc⟩ := state_facts hs
  have hI := h
  obtain ⟨sNum, sShapeBlocks, sShapeSize, sPages, sPagesA, sPagesn, sPagesc, sPagesv, sRows, sRowsA, sRowsn, sRowsc, sRowsv, sGroupEpoch, sGroupMembers, sGroupMembersA, sGroupMembersn, sGroupMembersc, sGroupMembersv, rfl, rfl, h1_sNum, h2_sNum, h1_sShapeBlocks, h2_sShapeBlocks, h1_sShapeSize, h2_sShapeSize, hl_sPages, hc_sPages, hm_sPages, hr_sPages, hq_sPages, he_sPages, hl_sRows, hc_sRows, hm_sRows, hr_sRows, hq_sRows, he_sRows, h1_sGroupEpoch, h2_sGroupEpoch, hl_sGroupMembers, hc_sGroupMembers, hm_sGroupMembers, hr_sGroupMembers, hq_sGroupMembers, he_sGroupMembers⟩ := State_out h
  have hP := pg_of he_sPages
  obtain ⟨w0, hw0⟩ : ∃ y, (w.alloc (.cells #[.int .i64 sNum, .int .i64 sShapeBlocks, .int .i64 sShapeSize, .slice sPagesA sPagesn sPagesc, .slice sRowsA sRowsn sRowsc, .int .i64 sGroupEpoch, .slice sGroupMembersA sGroupMembersn sGroupMembersc] 48)).alloc (.cells #[.slice none 0 0] 29) = y := ⟨_, rfl⟩
  have hbw0 : Below w.heap.size w w0 := by rw [← hw0]; exact ((Below.refl _ _).alloc (Nat.le_refl _) _).alloc (by simp) _
  have hBw0 : Blk w0 w.heap.size [.int .i64 sNum, .int .i64 sShapeBlocks, .int .i64 sShapeSize, .slice sPagesA sPagesn sPagesc, .slice sRowsA sRowsn sRowsc, .int .i64 sGroupEpoch, .slice sGroupMembersA sGroupMembersn sGroupMembersc] 48 := by rw [← hw0]; exact (Blk.new w [.int .i64 sNum, .int .i64 sShapeBlocks, .int .i64 sShapeSize, .slice sPagesA sPagesn sPagesc, .slice sRowsA sRowsn sRowsc, .int .i64 sGroupEpoch, .slice sGroupMembersA sGroupMembersn sGroupMembersc] 48).alloc _
  have hB2 : Blk w0 (w.heap.size + 1) [.slice none 0 0] 29 := by
    rw [← hw0]
    have := Blk.new (w.alloc (.cells #[.int .i64 sNum, .int .i64 sShapeBlocks, .int .i64 sShapeSize, .slice sPagesA sPagesn sPagesc, .slice sRowsA sRowsn sRowsc, .int .i64 sGroupEpoch, .slice sGroupMembersA sGroupMembersn sGroupMembersc] 48)) [.slice none 0 0] 29
    rwa [World.size_alloc] at this
  have HM := hide (mayState_any (hI.below hbw0))
  rw [hs] at HM
  have hP0 := hP.below hbw0
  have hrP := hr_sPages.below hbw0
  have ht0 : Tab w0 := Rd.below ht hbw0
  have Hw0 := hide hw0
  have HlP := hide hl_sPages
  dsimp only at hb1 hb2 hz1 hz2 hpg hasc
  have HOL := fun (i : Nat) (hi : i < sShapeBlocks.toNat) => ofL_snoc (x := (sNum, (sShapeBlocks, sShapeSize), sPages, sRows, (sGroupEpoch, sGroupMembers))) (i := i) hi
  have hOlen := ofL_length (sNum, (sShapeBlocks, sShapeSize), sPages, sRows, (sGroupEpoch, sGroupMembers))
  have hOlt := ofL_lt (sNum, (sShapeBlocks, sShapeSize), sPages, sRows, (sGroupEpoch, sGroupMembers))
  obtain ⟨OL, hOL⟩ : ∃ y, ofL (sNum, (sShapeBlocks, sShapeSize), sPages, sRows, (sGroupEpoch, sGroupMembers)) = y := ⟨_, rfl⟩
  rw [hOL] at HOL hOlen hOlt ⊢
  dsimp only at HOL hOlen
  clear hOL hs
  obtain ⟨N, rfl⟩ : ∃ N : Nat, sShapeBlocks = (N : Int) := ⟨sShapeBlocks.toNat, by omega⟩
  obtain ⟨Z, rfl⟩ : ∃ Z : Nat, sShapeSize = (Z : Int) := ⟨sShapeSize.toNat, by omega⟩
  rw [Int.toNat_natCast] at HOL hOlen
  replace HOL := hide HOL
  have HOlen := hide hOlen
  have K1 := hide (fun (X : World) (hX : Below w0.heap.size w0 X) => (hBw0.below hX).cell (j := 1) rfl)
  have K2 := hide (fun (X : World) (hX : Below w0.heap.size w0 X) => (hBw0.below hX).cell (j := 2) rfl)
  have K3 := hide (fun (X : World) (hX : Below w0.heap.size w0 X) => (hBw0.below hX).cell (j := 3) rfl)
  have HB2 := hide hB2
  have hAp := hide hasc
  have y0 := Blk.cell hBw0 (j := 0) rfl; have y1 := Blk.cell hBw0 (j := 1) rfl; have y2 := Blk.cell hBw0 (j := 2) rfl; have y3 := Blk.cell hBw0 (j := 3) rfl; have y4 := Blk.cell hBw0 (j := 4) rfl; have y5 := Blk.cell hBw0 (j := 5) rfl; have y6 := Blk.cell hBw0 (j := 6) rfl
  clear hw0 h hI hP hr_sPages hl_sPages he_sPages he_sRows hr_sRows hl_sRows he_sGroupMembers hr_sGroupMembers hl_sGroupMembers hq_sPages hq_sRows hq_sGroupMembers hOlen ht hasc hB2
  go_enter Tryd.func22, Tryd.ntmps22
  go_wp2_with fail
  rw [Hw0.out]
  go_fit HM.out
  rintro e w1 ⟨rfl, hb01⟩
  have e1 := K1.out w1 hb01
  have e3 := K3.out w1 hb01
  clear y0 y1 y2 y3 y4 y5 y6 HM
  go_wp2_with fail
  have hPd : PgRows w1 (fun _ => True) sPagesv (sPages.drop 0) := hP0.below hb01
  have hrP1 := hrP.below hb01
  clear hrP hP0
  go_loopw [4, 5, 16] (fun sl sp si W => ∃ (i k m pc : Nat) (P : Option Addr) (vs : List Value), i ≤ N ∧ si = .int .i64 (i : Int) ∧ sp = .slice P m pc ∧ k + m = sPagesn ∧ m ≤ pc ∧ pc ≤ 9223372036854775807 ∧ Rd w1 P vs ∧ PgRows w1 (fun _ => True) vs (sPages.drop k) ∧ (∀ p ∈ sPages.take k, p.1 < (i : Int)) ∧ (∀ p ∈ sPages.drop k, (i : Int) ≤ p.1) ∧ Grow w1 (.slice none 0 0) w1.heap.size 33 1 W sl i (u32s (OL.take i))) (fun _ _ si _ => N - (intOf si).toNat)
  case atStart => exact ⟨0, 0, sPagesn, sPagesc, sPagesA, sPagesv, by omega, rfl, rfl, by omega, hc_sPages, hm_sPages, hrP1, hPd, by simp, fun p hp => (hpg p (List.mem_of_mem_drop hp)).1, Grow.nil _ _ _⟩
  case round =>
    obtain ⟨i, k, m, pc, P, vs, hi, rfl, rfl, hkm, hmp, hp63, hrv, hPv, htk, hdr, hG⟩ := hrel
    have hb := hb01.trans (hG.all.mono hb01.size)
    have hdl : (sPages.drop k).length = m := by rw [List.length_drop, HlP.out]; omega
    by_cases hiN : i < N
    · have HS := hide (HOL.out i hiN)
      have e2 := K2.out wr hb
      have hbu := hG.all
      have htW : Tab wr := Rd.below ht0 hb
      have hzl : (List.replicate Z (0 : UInt8)).length = Z := by simp
      have HZ := hide (fun (X : World) (A : Option Addr) (hX : Below wr.heap.size wr X) (hr : Rd X A (bys (List.replicate Z 0))) => leaf_any (i : Int) 0 A Z Z (List.replicate Z 0) X hzl (Nat.le_refl _) (by omega) (by omega) hr (Rd.below htW hX))
      have hmiss : (∀ p ∈ sPages.drop k, (i : Int) < p.1) → Hid (OL.take (i + 1) = OL.take i ++ [leafN (i : Int) 0 (List.replicate Z 0)]) := fun hh => hide (by
        rw [HS.out]
        show _ ++ [leafS (Z : Int) (selS (i : Int) none sPages) (i : Int)] = _
        rw [sel_miss htk hh]; rfl)
      cases m with
      | zero =>
        have hnil : sPages.drop k = [] := List.eq_nil_of_length_eq_zero hdl
        have HS2 := hmiss (fun p hp => by rw [hnil] at hp; cases hp)
        have hL := leafN_lt (i : Int) 0 (List.replicate Z 0)
        obtain ⟨LV, hLV⟩ : ∃ y, leafN (i : Int) 0 (List.replicate Z 0) = y := ⟨_, rfl⟩
        rw [hLV] at HZ HS2 hL
        clear hmiss hLV HS hzl
        go_wp2_with (first | (with_reducible refine stop_append rfl ?_) | (with_reducible refine stop_copy rfl ?_) | (with_reducible refine stop_make rfl ?_))
        refine go_make rfl rfl tBytes rfl rfl (n := Z) (m := Z) rfl rfl (by omega) (by omega) (by omega) (Nat.le_refl _) ?_
        intro z w2 hz _ hw2 ho2 hg2
        obtain rfl := zero_u8 hz
        have hb2 : Below wr.heap.size wr w2 := grown_below (Below.refl _ _) hg2 (Nat.le_refl _) (fun g hg => by cases hg)
        have hr2 : Rd w2 (some ⟨wr.heap.size, 0, none⟩) (bys (List.replicate Z 0)) := by
          obtain ⟨A', c', hv, _, _, _, hr, _⟩ := own_out ho2
          injection hv with hv1 hv2 hv3
          subst hv1
          rwa [made_zeros] at hr
        clear hw2 ho2 hg2 hz
        go_wp2_with fail
        go_fit (HZ.out w2 _ hb2 hr2)
        rintro e' w3 ⟨rfl, hb3⟩
        have hG3 := hG.below (hb2.trans (hb3.mono hb2.size))
        go_wp2_with (first | (with_reducible refine stop_append rfl ?_) | (with_reducible refine stop_copy rfl ?_) | (with_reducible refine stop_make rfl ?_))
        refine hG3.push rfl rfl rfl tU32 rfl rfl rfl (by omega) (by omega) ?_
        intro u' w4 hG4 _
        go_wp2
        go_roundw
        case rel => exact ⟨i + 1, k, 0, pc, P, vs, by omega, by go_num, rfl, hkm, hmp, hp63, hrv, hPv, fun p hp => by have := htk p hp; omega, fun p hp => (by rw [hnil] at hp; cases hp), by rw [HS2.out, u32s_append]; exact hG4⟩
        case measure => simp [intOf]; omega
      | succ m' =>
        obtain ⟨pp, r, hd⟩ : ∃ pp r, sPages.drop k = pp :: r := by
          cases hh : sPages.drop k with
          | nil => rw [hh] at hdl; cases hdl
          | cons pp r => exact ⟨pp, r, rfl⟩
        have hsr : ∀ q ∈ r, pp.1 < q.1 := by
          have h1 := hAp
          rw [← List.take_append_drop k sPages, hd] at h1
          exact (List.pairwise_cons.1 (List.pairwise_append.1 h1).2.1).1
        have hpi := hdr pp (by rw [hd]; simp)
        have hPt := hPv
        rw [hd] at hPt
        have hvl : vs.length = 3 * (m' + 1) := by rw [hPv.1, hdl]
        obtain ⟨A', n', c', h1, h2, h3, h4, h5, h6, h7, _⟩ := hPt.2 0 pp rfl
        obtain ⟨a, rfl, hat⟩ := (hrv.below hG.all).some_of (xs := vs) (by omega)
        have c0 := hat 0 _ h1
        have c1 := rd3_S (k := 0) (i := 0) hat h2
        have c2 := rd3_S (k := 0) (i := 1) hat h3
        simp only [Nat.zero_mul, show a.add 0 = a from rfl, Nat.zero_add, Nat.reduceAdd] at c1 c2
        rw [show a.add 0 = a from rfl] at c0
        have hppm : pp ∈ sPages := List.mem_of_mem_drop (i := k) (by rw [hd]; simp)
        have hpl := (hpg pp hppm).2.2
        rw [h4] at hpl
        by_cases hpe : pp.1 = (i : Int)
        · have HS2 := hide (show OL.take (i + 1) = OL.take i ++ [leafN pp.1 pp.2.1 pp.2.2] from by
            rw [HS.out]
            show _ ++ [leafS (Z : Int) (selS (i : Int) none sPages) (i : Int)] = _
            rw [sel_hit hd hpe hAp]; rfl)
          have hL := leafN_lt pp.1 pp.2.1 pp.2.2
          have HLF := hide (leaf_any pp.1 pp.2.1 A' n' c' pp.2.2 wr h4 h5 (by omega) h6 (h7.below hG.all) htW)
          obtain ⟨LV, hLV⟩ : ∃ y, leafN pp.1 pp.2.1 pp.2.2 = y := ⟨_, rfl⟩
          rw [hLV] at HLF HS2 hL
          have hrv2 := hrv.cutN (n := m' + 1) (k := 1) (cap := pc) (size := 3) (by omega) (by omega) hmp
          have hPv2 : PgRows w1 (fun _ => True) (vs.drop (1 * 3)) (sPages.drop (k + 1)) := by
            rw [show sPages.drop (k + 1) = r by rw [← List.drop_drop, hd]; rfl]
            exact hPt.tail
          have htk2 : ∀ p ∈ sPages.take (k + 1), p.1 < ((i + 1 : Nat) : Int) := fun p hp => by
            have hkk : k < sPages.length := by rw [HlP.out]; omega
            have hk2 : sPages[k] = pp := by
              have := List.drop_eq_getElem_cons hkk
              rw [hd] at this; injection this with this; exact this.symm
            rw [List.take_succ_eq_append_getElem hkk, List.mem_append, List.mem_singleton] at hp
            rcases hp with hp | rfl
            · have := htk p hp; omega
            · rw [hk2]; omega
          have hdr2 : ∀ p ∈ sPages.drop (k + 1), ((i + 1 : Nat) : Int) ≤ p.1 := fun p hp => by
            rw [show sPages.drop (k + 1) = r by rw [← List.drop_drop, hd]; rfl] at hp
            have := hsr p hp; omega
          obtain ⟨p1, p2, pd⟩ := pp
          dsimp only at c0 c1 c2 hpe HLF
          subst hpe
          have q1 : ((0 : Int) < ((m' : Int) + 1)) := by omega
          clear hmiss hLV HS hzl hd hPt hvl h1 h2 h3 hat hdl hsr HZ
          go_wp2_with fail
          go_fit HLF.out
          rintro e' w3 ⟨rfl, hb3⟩
          have hG3 := hG.below hb3
          go_wp2_with (first | (with_reducible refine stop_append rfl ?_) | (with_reducible refine stop_copy rfl ?_) | (with_reducible refine stop_make rfl ?_))
          refine hG3.push rfl rfl rfl tU32 rfl rfl rfl (by omega) (by omega) ?_
          intro u' w4 hG4 _
          go_wp2
          go_roundw
          case rel => exact ⟨i + 1, k + 1, m', pc - 1, _, _, by omega, by go_num, by go_num, by omega, by omega, by omega, hrv2, hPv2, htk2, hdr2, by rw [HS2.out, u32s_append]; exact hG4⟩
          case measure => simp [intOf]; omega
        · have q1 : (pp.1 == (i : Int)) = false := by rw [beq_eq_false_iff_ne]; exact hpe
          have hgt : ∀ p ∈ sPages.drop k, ((i + 1 : Nat) : Int) ≤ p.1 := fun p hp => by
            rw [hd, List.mem_cons] at hp
            rcases hp with rfl | hp
            · omega
            · have := hsr p hp; omega
          have HS2 := hmiss (fun p hp => by
              rw [hd, List.mem_cons] at hp
              rcases hp with rfl | hp
              · omega
              · have := hsr p hp; omega)
          have hL := leafN_lt (i : Int) 0 (List.replicate Z 0)
          obtain ⟨LV, hLV⟩ : ∃ y, leafN (i : Int) 0 (List.replicate Z 0) = y := ⟨_, rfl⟩
          rw [hLV] at HZ HS2 hL
          clear hmiss hLV HS hzl
          go_wp2_with (first | (with_reducible refine stop_append rfl ?_) | (with_reducible refine stop_copy rfl ?_) | (with_reducible refine stop_make rfl ?_))
          refine go_make rfl rfl tBytes rfl rfl (n := Z) (m := Z) rfl rfl (by omega) (by omega) (by omega) (Nat.le_refl _) ?_
          intro z w2 hz _ hw2 ho2 hg2
          obtain rfl := zero_u8 hz
          have hb2 : Below wr.heap.size wr w2 := grown_below (Below.refl _ _) hg2 (Nat.le_refl _) (fun g hg => by cases hg)
          have hr2 : Rd w2 (some ⟨wr.heap.size, 0, none⟩) (bys (List.replicate Z 0)) := by
            obtain ⟨A', c', hv, _, _, _, hr, _⟩ := own_out ho2
            injection hv with hv1 hv2 hv3
            subst hv1
            rwa [made_zeros] at hr
          clear hw2 ho2 hg2 hz
          go_wp2_with fail
          go_fit (HZ.out w2 _ hb2 hr2)
          rintro e' w3 ⟨rfl, hb3⟩
          have hG3 := hG.below (hb2.trans (hb3.mono hb2.size))
          go_wp2_with (first | (with_reducible refine stop_append rfl ?_) | (with_reducible refine stop_copy rfl ?_) | (with_reducible refine stop_make rfl ?_))
          refine hG3.push rfl rfl rfl tU32 rfl rfl rfl (by omega) (by omega) ?_
          intro u' w4 hG4 _
          go_wp2
          go_roundw
          case rel => exact ⟨i + 1, k, m' + 1, pc, some a, vs, by omega, by go_num, rfl, hkm, hmp, hp63, hrv, hPv, fun p hp => by have := htk p hp; omega, hgt, by rw [HS2.out, u32s_append]; exact hG4⟩
          case measure => simp [intOf]; omega
    · obtain rfl : i = N := by omega
      rw [List.take_of_length_le (by rw [HOlen.out]; exact Nat.le_refl _)] at hG
      obtain ⟨A5, c5, rfl, _, hc5, hcm5, hr5, _⟩ := own_out hG.owns
      have HM := hide (make_any A5 i c5 OL wr HOlen.out (by omega) hc5 (by unfold maxLen at hcm5; omega) hr5 hOlt (Rd.below ht0 hb) (by omega) (by omega))
      have hbz := hbw0.trans (hb.mono hbw0.size)
      have z0 := hb.size
      have zw := hbw0.size
      have B2' := HB2.out.below hb
      clear hG hr5 hrv hPv htk hdr hdl
      go_wp2_with fail
      go_fit HM.out
      rintro e' w3 ⟨B, K, C, rfl, hT, hb3⟩
      have B3 := B2'.below hb3
      have b3 := B3.cell (j := 0) rfl
      have f3 := B3.frozen 0
      have hlt := HB2.out.lt
      have HT := hide (show tyTree.Is (w3.setCell ⟨w.heap.size + 1, 0, none⟩ (.slice B K C)) (fun b => w.heap.size ≤ b) (treeD OL) [.slice B K C] from
        ((hT.grown (setCell_grown _ _ _ _) (fun b hb e => by injection e with e; omega)).mono (fun b hb => by omega)))
      have HX := hide (B3.set 0 (.slice B K C))
      have Hbf := hide (show Below w.heap.size w (w3.setCell ⟨w.heap.size + 1, 0, none⟩ (.slice B K C)) from (hbz.trans (hb3.mono hbz.size)).setCell (by show w.heap.size ≤ w.heap.size + 1; omega) _)
      clear hT
      go_wp2
      refine bodyPost_ret (results_cell2 rfl rfl HX.out Tryd.underlying29 rfl (by kernel_rfl)) rfl ?_
      exact ⟨B, K, C, rfl, HT.out, Hbf.out⟩
set_option maxHeartbeats 1600000 in
theorem tof_no {w : World} {Q : Nat → Prop} {x : StateD} {cs : List Value} (h : tyState.Is w Q x cs) (hs : stateB x = false) :
    Calls Tryd.prog 22 #[.agg cs.toArray] w fun e w' => e = .returned (.tuple #[.agg #[.slice none 0 0], .int .i64 72]) ∧ Below w.heap.size w w' := by
  have hI := h
  obtain ⟨sNum, sShapeBlocks, sShapeSize, sPages, sPagesA, sPagesn, sPagesc, sPagesv, sRows, sRowsA, sRowsn, sRowsc, sRowsv, sGroupEpoch, sGroupMembers, sGroupMembersA, sGroupMembersn, sGroupMembersc, sGroupMembersv, rfl, rfl, h1_sNum, h2_sNum, h1_sShapeBlocks, h2_sShapeBlocks, h1_sShapeSize, h2_sShapeSize, hl_sPages, hc_sPages, hm_sPages, hr_sPages, hq_sPages, he_sPages, hl_sRows, hc_sRows, hm_sRows, hr_sRows, hq_sRows, he_sRows, h1_sGroupEpoch, h2_sGroupEpoch, hl_sGroupMembers, hc_sGroupMembers, hm_sGroupMembers, hr_sGroupMembers, hq_sGroupMembers, he_sGroupMembers⟩ := State_out h
  obtain ⟨w0, hw0⟩ : ∃ y, (w.alloc (.cells #[.int .i64 sNum, .int .i64 sShapeBlocks, .int .i64 sShapeSize, .slice sPagesA sPagesn sPagesc, .slice sRowsA sRowsn sRowsc, .int .i64 sGroupEpoch, .slice sGroupMembersA sGroupMembersn sGroupMembersc] 48)).alloc (.cells #[.slice none 0 0] 29) = y := ⟨_, rfl⟩
  have hbw0 : Below w.heap.size w w0 := by rw [← hw0]; exact ((Below.refl _ _).alloc (Nat.le_refl _) _).alloc (by simp) _
  have hBw0 : Blk w0 w.heap.size [.int .i64 sNum, .int .i64 sShapeBlocks, .int .i64 sShapeSize, .slice sPagesA sPagesn sPagesc, .slice sRowsA sRowsn sRowsc, .int .i64 sGroupEpoch, .slice sGroupMembersA sGroupMembersn sGroupMembersc] 48 := by rw [← hw0]; exact (Blk.new w [.int .i64 sNum, .int .i64 sShapeBlocks, .int .i64 sShapeSize, .slice sPagesA sPagesn sPagesc, .slice sRowsA sRowsn sRowsc, .int .i64 sGroupEpoch, .slice sGroupMembersA sGroupMembersn sGroupMembersc] 48).alloc _
  have hB2 : Blk w0 (w.heap.size + 1) [.slice none 0 0] 29 := by
    rw [← hw0]
    have := Blk.new (w.alloc (.cells #[.int .i64 sNum, .int .i64 sShapeBlocks, .int .i64 sShapeSize, .slice sPagesA sPagesn sPagesc, .slice sRowsA sRowsn sRowsc, .int .i64 sGroupEpoch, .slice sGroupMembersA sGroupMembersn sGroupMembersc] 48)) [.slice none 0 0] 29
    rwa [World.size_alloc] at this
  have HM := hide (mayState_any (hI.below hbw0))
  rw [hs] at HM
  have Hw0 := hide hw0
  have y0 := Blk.cell hBw0 (j := 0) rfl; have y1 := Blk.cell hBw0 (j := 1) rfl; have y2 := Blk.cell hBw0 (j := 2) rfl; have y3 := Blk.cell hBw0 (j := 3) rfl; have y4 := Blk.cell hBw0 (j := 4) rfl; have y5 := Blk.cell hBw0 (j := 5) rfl; have y6 := Blk.cell hBw0 (j := 6) rfl
  clear hw0 h hI hs
  go_enter Tryd.func22, Tryd.ntmps22
  go_wp2_with fail
  rw [Hw0.out]
  go_fit HM.out
  rintro e w2 ⟨rfl, hb2⟩
  have C4 := hB2.below hb2
  have d0 := C4.cell (j := 0) rfl
  have f0 := C4.frozen 0
  have X4 : Blk (w2.setCell ⟨w.heap.size + 1, 0, none⟩ (.slice none 0 0)) (w.heap.size + 1) [.slice none 0 0] 29 := C4.set 0 _
  have hbf : Below w.heap.size w (w2.setCell ⟨w.heap.size + 1, 0, none⟩ (.slice none 0 0)) := (hbw0.trans (hb2.mono hbw0.size)).setCell (by show w.heap.size ≤ w.heap.size + 1; omega) _
  have HX4 := hide X4
  have Hbf := hide hbf
  clear X4 hbf
  go_wp2
  refine bodyPost_ret (results_cell2 rfl rfl HX4.out Tryd.underlying29 rfl (by kernel_rfl)) rfl ?_
  exact ⟨rfl, Hbf.out⟩
theorem tof_any {w : World} {Q : Nat → Prop} {x : StateD} {cs : List Value} (h : tyState.Is w Q x cs) (ht : Tab w) :
    Calls Tryd.prog 22 #[.agg cs.toArray] w fun e w' => ∃ B K C, e = .returned (.tuple #[.agg #[.slice B K C], .int .i64 (ofE x)]) ∧ tyTree.Is w' (fun b => w.heap.size ≤ b) (ofT x) [.slice B K C] ∧ Below w.heap.size w w' := by
  cases hs : stateB x with
  | true =>
    unfold ofE ofT
    rw [hs]
    exact tof_yes h ht hs
  | false =>
    unfold ofE ofT
    rw [hs]
    refine (tof_no h hs).mono ?_
    rintro e w' ⟨rfl, hb⟩
    exact ⟨none, 0, 0, rfl, tree_nil, hb⟩
end Go.Proofs.YtcpnobhdogpfiaaDoor
