/- Texts joined (shake.py). -/
import Derived.Test.YtcpnobhdogpfiaaDoorK74
import Derived.Test.YtcpnobhdogpfiaaDoorG25i
import Derived.Test.YtcpnobhdogpfiaaDoorG25j
import Derived.Test.YtcpnobhdogpfiaaDoorF25g
import Derived.Deep.DeepFit
import Derived.Test.YtcpnobhdogpfiaaDoorF25m
import Derived.Test.YtcpnobhdogpfiaaDoorF25j
import Derived.Test.YtcpnobhdogpfiaaDoorF25s
import Derived.Test.YtcpnobhdogpfiaaDoorRnd
import Derived.Deep.RegionHeld
import Derived.Test.YtcpnobhdogpfiaaDoorF25o
import Derived.Test.YtcpnobhdogpfiaaDoorM25b
import Derived.Test.YtcpnobhdogpfiaaDoorQui
import Derived.Deep.CutRange
namespace Go.Proofs.YtcpnobhdogpfiaaDoor
set_option maxRecDepth 20000
open Go.RowKit Go.Px
set_option linter.unusedVariables false
/-- The page of a block: the last with that number. -/
def selS (i : Int) (acc : Option PageD) (ps : List PageD) : Option PageD := ps.foldl (fun a p => if p.1 = i then some p else a) acc
theorem selS_keep {i : Int} : ∀ (ps : List PageD) (acc : Option PageD), (∀ p ∈ ps, p.1 ≠ i) → selS i acc ps = acc
  | [], _, _ => rfl
  | p :: r, acc, h => by
    show selS i (if p.1 = i then some p else acc) r = acc
    rw [if_neg (h p (by simp)), selS_keep r acc (fun q hq => h q (by simp [hq]))]
theorem selS_append (i : Int) (acc : Option PageD) (l r : List PageD) : selS i acc (l ++ r) = selS i (selS i acc l) r := by unfold selS; rw [List.foldl_append]
theorem selS_at {i : Int} {l r : List PageD} {p : PageD} (acc : Option PageD) (hp : p.1 = i) (hr : ∀ q ∈ r, q.1 ≠ i) : selS i acc (l ++ p :: r) = some p := by
  rw [selS_append]
  show selS i (if p.1 = i then some p else selS i acc l) r = some p
  rw [if_pos hp, selS_keep r _ hr]
def zerosB (z : Int) : List UInt8 := List.replicate z.toNat 0
def leafS (z : Int) (o : Option PageD) (i : Int) : Nat := match o with | some p => leafN p.1 p.2.1 p.2.2 | none => leafN i 0 (zerosB z)
/-- The digests of a state's blocks. -/
def ofL (x : StateD) : List Nat := (List.range x.2.1.1.toNat).map fun i : Nat => leafS x.2.1.2 (selS (i : Int) none x.2.2.1) (i : Int)
theorem ofL_length (x : StateD) : (ofL x).length = x.2.1.1.toNat := by unfold ofL; simp
theorem ofL_get {x : StateD} {i : Nat} (h : i < x.2.1.1.toNat) : (ofL x)[i]? = some (leafS x.2.1.2 (selS (i : Int) none x.2.2.1) (i : Int)) := by unfold ofL; simp [h]
theorem ofL_snoc {x : StateD} {i : Nat} (h : i < x.2.1.1.toNat) : (ofL x).take (i + 1) = (ofL x).take i ++ [leafS x.2.1.2 (selS (i : Int) none x.2.2.1) (i : Int)] := by
  rw [List.take_add_one, ofL_get h]; rfl
theorem leafN_lt (p v : Int) (bs : List UInt8) : leafN p v bs < 4294967296 := sumN_lt _
theorem leafS_lt (z : Int) (o : Option PageD) (i : Int) : leafS z o i < 4294967296 := by unfold leafS; split <;> exact leafN_lt _ _ _
theorem ofL_lt (x : StateD) : ∀ y ∈ ofL x, y < 4294967296 := by
  intro y hy; unfold ofL at hy; rw [List.mem_map] at hy; obtain ⟨i, _, rfl⟩ := hy; exact leafS_lt _ _ _
theorem mpA_asc {b z : Int} : ∀ (ps : List PageD) (ah : Int), mpA b z ah ps = true → (∀ p ∈ ps, ah < p.1 ∧ p.1 < b ∧ (p.2.2.length : Int) = z) ∧ ps.Pairwise (fun p q => p.1 < q.1)
  | [], ah, _ => ⟨by simp, List.Pairwise.nil⟩
  | p :: r, ah, h => by
    rw [mpA, Bool.and_eq_true] at h
    obtain ⟨h1, h2⟩ := h
    have h1 := of_decide_eq_true h1
    obtain ⟨k1, k2⟩ := mpA_asc r p.1 h2
    refine ⟨fun q hq => ?_, List.pairwise_cons.2 ⟨fun q hq => (k1 q hq).1, k2⟩⟩
    rw [List.mem_cons] at hq
    rcases hq with rfl | hq
    · exact ⟨by omega, by omega, h1.2.2.2⟩
    · have := k1 q hq
      exact ⟨by omega, this.2⟩
/-- Where a state may be. -/
theorem state_facts {x : StateD} (h : stateB x = true) : (1 ≤ x.2.1.1 ∧ x.2.1.1 ≤ 4096) ∧ (1 ≤ x.2.1.2 ∧ x.2.1.2 ≤ 4096) ∧ (∀ p ∈ x.2.2.1, 0 ≤ p.1 ∧ p.1 < x.2.1.1 ∧ (p.2.2.length : Int) = x.2.1.2) ∧ x.2.2.1.Pairwise (fun p q => p.1 < q.1) := by
  unfold stateB at h
  simp only [Bool.and_eq_true] at h
  obtain ⟨_, h1, h2, _⟩ := h
  have h1 := shE_eq h1
  have hs : (1 ≤ x.2.1.1 ∧ x.2.1.1 ≤ 4096) ∧ 1 ≤ x.2.1.2 ∧ x.2.1.2 ≤ 4096 := by
    unfold shE at h1
    split at h1
    · assumption
    · cases h1
  obtain ⟨k1, k2⟩ := mpA_asc _ _ h2
  exact ⟨hs.1, hs.2, fun p hp => by have := k1 p hp; exact ⟨by omega, this.2⟩, k2⟩
/-- One step of the program's loop: the page at hand is the block's. -/
theorem sel_hit {ps : List PageD} {k : Nat} {p : PageD} {r : List PageD} {i : Int} (hd : ps.drop k = p :: r) (hp : p.1 = i) (ha : ps.Pairwise (fun p q => p.1 < q.1)) : selS i none ps = some p := by
  rw [← List.take_append_drop k ps, hd] at ha ⊢
  refine selS_at _ hp (fun q hq => ?_)
  have := (List.pairwise_append.1 ha).2.1
  rw [List.pairwise_cons] at this
  have := this.1 q hq
  omega
theorem sel_miss {ps : List PageD} {k : Nat} {i : Int} (h1 : ∀ p ∈ ps.take k, p.1 < i) (h2 : ∀ p ∈ ps.drop k, i < p.1) : selS i none ps = none := by
  refine selS_keep _ _ (fun p hp => ?_)
  rw [← List.take_append_drop k ps, List.mem_append] at hp
  rcases hp with hp | hp
  · have := h1 p hp; omega
  · have := h2 p hp; omega
theorem zero_u8 {z : Value} (hz : ∃ i, (Tryd.prog).info? 5 = some i ∧ i.zero = some z) : z = .int .u8 0 := by
  obtain ⟨i, hi1, hi2⟩ := hz
  have h0 : (Tryd.prog.info? 5).map (·.zero) = some (some (.int .u8 0)) := by kernel_rfl
  rw [hi1, Option.map_some, hi2] at h0
  exact Option.some.inj (Option.some.inj h0)
theorem made_zeros (n : Nat) : (madeCells (Value.int .u8 0).cells (n * 1)).toList.take (n * 1) = bys (List.replicate n 0) := by
  rw [show (Value.int .u8 0).cells = #[.int .u8 0] from rfl, Nat.mul_one, toList_madeCells_one, List.take_of_length_le (by simp)]
  unfold bys; rw [List.map_replicate]; rfl
theorem PgRows.tail {w : World} {Q : Nat → Prop} {vs : List Value} {p : PageD} {r : List PageD} (h : PgRows w Q vs (p :: r)) : PgRows w Q (vs.drop 3) r := by
  refine ⟨by rw [List.length_drop, h.1, List.length_cons]; omega, fun j q hq => ?_⟩
  obtain ⟨A, n, c, h1, h2, h3, h4⟩ := h.2 (j + 1) q (by simpa using hq)
  refine ⟨A, n, c, ?_, ?_, ?_, h4⟩
  · rw [List.getElem?_drop, show 3 + 3 * j = 3 * (j + 1) by omega]; exact h1
  · rw [List.getElem?_drop, show 3 + (3 * j + 1) = 3 * (j + 1) + 1 by omega]; exact h2
  · rw [List.getElem?_drop, show 3 + (3 * j + 2) = 3 * (j + 1) + 2 by omega]; exact h3
set_option maxRecDepth 100000 in
set_option maxHeartbeats 6400000 in
theorem tof_yes {w : World} {Q : Nat → Prop} {x : StateD} {cs : List Value} (h : tyState.Is w Q x cs) (ht : Tab w) (hs : stateB x = true) :
    Calls Tryd.prog 22 #[.agg cs.toArray] w fun e w' => ∃ B K C, e = .returned (.tuple #[.agg #[.slice B K C], .int .i64 0]) ∧ tyTree.Is w' (fun b => w.heap.size ≤ b) (treeD (ofL x)) [.slice B K C] ∧ Below w.heap.size w w' := by
  obtain ⟨⟨hb1, hb2⟩, ⟨hz1, hz2⟩, hpg, hasc⟩ := state_facts hs
  have hI := h
  obtain ⟨sNum, sShapeBlocks, sShapeSize, sPages, sPagesA, sPagesn, sPagesc, sPagesv, sRows, sRowsA, sRowsn, sRowsc, sRowsv, sGroupEpoch, sGroupMembers, sGroupMembersA, sGroupMembersn, sGroupMembersc, sGroupMembersv, rfl, rfl, h1_sNum, h2_sNum, h1_sShapeBlocks, h2_sShapeBlocks, h1_sShapeSize, h2_sShapeSize, hl_sPages, hc_sPages, hm_sPages, hr_sPages, hq_sPages, he_sPages, hl_sRows, hc_sRows, hm_sRows, hr_sRows, hq_sRows, he_sRows, h1_sGroupEpoch, h2_sGroupEpoch, hl_sGroupMembers, hc_sGroupMembers, hm_sGroupMembers, hr_sGroupMembers, hq_sGroupMembers, he_sGroupMembers⟩ := State_out h
  have hP := pg_of he_sPages
  obtain ⟨w0, hw0⟩ : ∃ y, (w.alloc (.cells #[.int .i64 sNum, .int .i64 sShapeBlocks, .int .i64 sShapeSize, .slice sPagesA sPagesn sPagesc, .slice sRowsA sRowsn sRowsc, .int .i64 sGroupEpoch, .slice sGroupMembersA sGroupMembersn sGroupMembersc] 48)).alloc (.cells #[.slice none 0 0] 29) = y := ⟨_, rfl⟩
  have hbw0 : Below w.heap.size w w0 := by rw [← hw0]; exact ((Below.refl _ _).alloc (Nat.le_refl _) _).alloc (by simp) _
  have hBw0 : Blk w0 w.heap.size [.int .i64 sNum, .int .i64 sShapeBlocks, .int .i64 sShapeSize, .slice sPagesA sPagesn sPagesc, .slice sRowsA sRowsn sRowsc, .int .i64 sGroupEpoch, .slice sGroupMembersA sGroupMembersn sGroupMembersc] 48 := by rw [← hw0]; exact (Blk.new w [.int .i64 sNum, .int .i64 sShapeBlocks, .int .i64 sShapeSize, .slice sPagesA sPagesn sPagesc, .slice sRowsA sRowsn sRowsc, .int .i64 sGroupEpoch, .slice sGroupMembersA sGroupMembersn sGroupMembersc] 48).alloc _
  have hB2 : Blk w0 (w.heap.size + 1) [.slice none 0 0] 29 := by
    rw [← hw0]
    have := Blk.new (w.alloc (.cells #[.int .i64 sNum, .int .i64 sShapeBlocks, .int .i64 sShapeSize, .slice sPagesA sPagesn sPagesc, .slice sRowsA sRowsn sRowsc, .int .i64 sGroupEpoch, .slice sGroupMembersA sGroupMembersn sGroupMembersc] 48)) [.slice none 0 0] 29
    rwa [World.size_alloc] at this
  have HM := hide (mayState_any (hI.below hbw0))
  rw [hs] at HM
  have hP0 := hP.below hbw0
  have hrP := hr_sPages.below hbw0
  have ht0 : Tab w0 := Rd.below ht hbw0
  have Hw0 := hide hw0
  have HlP := hide hl_sPages
  dsimp only at hb1 hb2 hz1 hz2 hpg hasc
  have HOL := fun (i : Nat) (hi : i < sShapeBlocks.toNat) => ofL_snoc (x := (sNum, (sShapeBlocks, sShapeSize), sPages, sRows, (sGroupEpoch, sGroupMembers))) (i := i) hi
  have hOlen := ofL_length (sNum, (sShapeBlocks, sShapeSize), sPages, sRows, (sGroupEpoch, sGroupMembers))
  have hOlt := ofL_lt (sNum, (sShapeBlocks, sShapeSize), sPages, sRows, (sGroupEpoch, sGroupMembers))
  obtain ⟨OL, hOL⟩ : ∃ y, ofL (sNum, (sShapeBlocks, sShapeSize), sPages, sRows, (sGroupEpoch, sGroupMembers)) = y := ⟨_, rfl⟩
  rw [hOL] at HOL hOlen hOlt ⊢
  dsimp only at HOL hOlen
  clear hOL hs
  obtain ⟨N, rfl⟩ : ∃ N : Nat, sShapeBlocks = (N : Int) := ⟨sShapeBlocks.toNat, by omega⟩
  obtain ⟨Z, rfl⟩ : ∃ Z : Nat, sShapeSize = (Z : Int) := ⟨sShapeSize.toNat, by omega⟩
  rw [Int.toNat_natCast] at HOL hOlen
  replace HOL := hide HOL
  have HOlen := hide hOlen
  have K1 := hide (fun (X : World) (hX : Below w0.heap.size w0 X) => (hBw0.below hX).cell (j := 1) rfl)
  have K2 := hide (fun (X : World) (hX : Below w0.heap.size w0 X) => (hBw0.below hX).cell (j := 2) rfl)
  have K3 := hide (fun (X : World) (hX : Below w0.heap.size w0 X) => (hBw0.below hX).cell (j := 3) rfl)
  have HB2 := hide hB2
  have hAp := hide hasc
  have y0 := Blk.cell hBw0 (j := 0) rfl; have y1 := Blk.cell hBw0 (j := 1) rfl; have y2 := Blk.cell hBw0 (j := 2) rfl; have y3 := Blk.cell hBw0 (j := 3) rfl; have y4 := Blk.cell hBw0 (j := 4) rfl; have y5 := Blk.cell hBw0 (j := 5) rfl; have y6 := Blk.cell hBw0 (j := 6) rfl
  clear hw0 h hI hP hr_sPages hl_sPages he_sPages he_sRows hr_sRows hl_sRows he_sGroupMembers hr_sGroupMembers hl_sGroupMembers hq_sPages hq_sRows hq_sGroupMembers hOlen ht hasc hB2
  go_enter Tryd.func22, Tryd.ntmps22
  go_wp2_with fail
  rw [Hw0.out]
  go_fit HM.out
  rintro e w1 ⟨rfl, hb01⟩
  have e1 := K1.out w1 hb01
  have e3 := K3.out w1 hb01
  clear y0 y1 y2 y3 y4 y5 y6 HM
  go_wp2_with fail
  have hPd : PgRows w1 (fun _ => True) sPagesv (sPages.drop 0) := hP0.below hb01
  have hrP1 := hrP.below hb01
  clear hrP hP0
  go_loopw [4, 5, 16] (fun sl sp si W => ∃ (i k m pc : Nat) (P : Option Addr) (vs : List Value), i ≤ N ∧ si = .int .i64 (i : Int) ∧ sp = .slice P m pc ∧ k + m = sPagesn ∧ m ≤ pc ∧ pc ≤ 9223372036854775807 ∧ Rd w1 P vs ∧ PgRows w1 (fun _ => True) vs (sPages.drop k) ∧ (∀ p ∈ sPages.take k, p.1 < (i : Int)) ∧ (∀ p ∈ sPages.drop k, (i : Int) ≤ p.1) ∧ Grow w1 (.slice none 0 0) w1.heap.size 33 1 W sl i (u32s (OL.take i))) (fun _ _ si _ => N - (intOf si).toNat)
  case atStart => exact ⟨0, 0, sPagesn, sPagesc, sPagesA, sPagesv, by omega, rfl, rfl, by omega, hc_sPages, hm_sPages, hrP1, hPd, by simp, fun p hp => (hpg p (List.mem_of_mem_drop hp)).1, Grow.nil _ _ _⟩
  case round =>
    obtain ⟨i, k, m, pc, P, vs, hi, rfl, rfl, hkm, hmp, hp63, hrv, hPv, htk, hdr, hG⟩ := hrel
    have hb := hb01.trans (hG.all.mono hb01.size)
    have hdl : (sPages.drop k).length = m := by rw [List.length_drop, HlP.out]; omega
    by_cases hiN : i < N
    · have HS := hide (HOL.out i hiN)
      have e2 := K2.out wr hb
      have hbu := hG.all
      have htW : Tab wr := Rd.below ht0 hb
      have hzl : (List.replicate Z (0 : UInt8)).length = Z := by simp
      have HZ := hide (fun (X : World) (A : Option Addr) (hX : Below wr.heap.size wr X) (hr : Rd X A (bys (List.replicate Z 0))) => leaf_any (i : Int) 0 A Z Z (List.replicate Z 0) X hzl (Nat.le_refl _) (by omega) (by omega) hr (Rd.below htW hX))
      have hmiss : (∀ p ∈ sPages.drop k, (i : Int) < p.1) → Hid (OL.take (i + 1) = OL.take i ++ [leafN (i : Int) 0 (List.replicate Z 0)]) := fun hh => hide (by
        rw [HS.out]
        show _ ++ [leafS (Z : Int) (selS (i : Int) none sPages) (i : Int)] = _
        rw [sel_miss htk hh]; rfl)
      cases m with
      | zero =>
        have hnil : sPages.drop k = [] := List.eq_nil_of_length_eq_zero hdl
        have HS2 := hmiss (fun p hp => by rw [hnil] at hp; cases hp)
        have hL := leafN_lt (i : Int) 0 (List.replicate Z 0)
        obtain ⟨LV, hLV⟩ : ∃ y, leafN (i : Int) 0 (List.replicate Z 0) = y := ⟨_, rfl⟩
        rw [hLV] at HZ HS2 hL
        clear hmiss hLV HS hzl
        go_wp2_with (first | (with_reducible refine stop_append rfl ?_) | (with_reducible refine stop_copy rfl ?_) | (with_reducible refine stop_make rfl ?_))
        refine go_make rfl rfl tBytes rfl rfl (n := Z) (m := Z) rfl rfl (by omega) (by omega) (by omega) (Nat.le_refl _) ?_
        intro z w2 hz _ hw2 ho2 hg2
        obtain rfl := zero_u8 hz
        have hb2 : Below wr.heap.size wr w2 := grown_below (Below.refl _ _) hg2 (Nat.le_refl _) (fun g hg => by cases hg)
        have hr2 : Rd w2 (some ⟨wr.heap.size, 0, none⟩) (bys (List.replicate Z 0)) := by
          obtain ⟨A', c', hv, _, _, _, hr, _⟩ := own_out ho2
          injection hv with hv1 hv2 hv3
          subst hv1
          rwa [made_zeros] at hr
        clear hw2 ho2 hg2 hz
        go_wp2_with fail
        go_fit (HZ.out w2 _ hb2 hr2)
        rintro e' w3 ⟨rfl, hb3⟩
        have hG3 := hG.below (hb2.trans (hb3.mono hb2.size))
        go_wp2_with (first | (with_reducible refine stop_append rfl ?_) | (with_reducible refine stop_copy rfl ?_) | (with_reducible refine stop_make rfl ?_))
        refine hG3.push rfl rfl rfl tU32 rfl rfl rfl (by omega) (by omega) ?_
        intro u' w4 hG4 _
        go_wp2
        go_roundw
        case rel => exact ⟨i + 1, k, 0, pc, P, vs, by omega, by go_num, rfl, hkm, hmp, hp63, hrv, hPv, fun p hp => by have := htk p hp; omega, fun p hp => (by rw [hnil] at hp; cases hp), by rw [HS2.out, u32s_append]; exact hG4⟩
        case measure => simp [intOf]; omega
      | succ m' =>
        obtain ⟨pp, r, hd⟩ : ∃ pp r, sPages.drop k = pp :: r := by
          cases hh : sPages.drop k with
          | nil => rw [hh] at hdl; cases hdl
          | cons pp r => exact ⟨pp, r, rfl⟩
        have hsr : ∀ q ∈ r, pp.1 < q.1 := by
          have h1 := hAp
          rw [← List.take_append_drop k sPages, hd] at h1
          exact (List.pairwise_cons.1 (List.pairwise_append.1 h1).2.1).1
        have hpi := hdr pp (by rw [hd]; simp)
        have hPt := hPv
        rw [hd] at hPt
        have hvl : vs.length = 3 * (m' + 1) := by rw [hPv.1, hdl]
        obtain ⟨A', n', c', h1, h2, h3, h4, h5, h6, h7, _⟩ := hPt.2 0 pp rfl
        obtain ⟨a, rfl, hat⟩ := (hrv.below hG.all).some_of (xs := vs) (by omega)
        have c0 := hat 0 _ h1
        have c1 := rd3_S (k := 0) (i := 0) hat h2
        have c2 := rd3_S (k := 0) (i := 1) hat h3
        simp only [Nat.zero_mul, show a.add 0 = a from rfl, Nat.zero_add, Nat.reduceAdd] at c1 c2
        rw [show a.add 0 = a from rfl] at c0
        have hppm : pp ∈ sPages := List.mem_of_mem_drop (i := k) (by rw [hd]; simp)
        have hpl := (hpg pp hppm).2.2
        rw [h4] at hpl
        by_cases hpe : pp.1 = (i : Int)
        · have HS2 := hide (show OL.take (i + 1) = OL.take i ++ [leafN pp.1 pp.2.1 pp.2.2] from by
            rw [HS.out]
            show _ ++ [leafS (Z : Int) (selS (i : Int) none sPages) (i : Int)] = _
            rw [sel_hit hd hpe hAp]; rfl)
          have hL := leafN_lt pp.1 pp.2.1 pp.2.2
          have HLF := hide (leaf_any pp.1 pp.2.1 A' n' c' pp.2.2 wr h4 h5 (by omega) h6 (h7.below hG.all) htW)
          obtain ⟨LV, hLV⟩ : ∃ y, leafN pp.1 pp.2.1 pp.2.2 = y := ⟨_, rfl⟩
          rw [hLV] at HLF HS2 hL
          have hrv2 := hrv.cutN (n := m' + 1) (k := 1) (cap := pc) (size := 3) (by omega) (by omega) hmp
          have hPv2 : PgRows w1 (fun _ => True) (vs.drop (1 * 3)) (sPages.drop (k + 1)) := by
            rw [show sPages.drop (k + 1) = r by rw [← List.drop_drop, hd]; rfl]
            exact hPt.tail
          have htk2 : ∀ p ∈ sPages.take (k + 1), p.1 < ((i + 1 : Nat) : Int) := fun p hp => by
            have hkk : k < sPages.length := by rw [HlP.out]; omega
            have hk2 : sPages[k] = pp := by
              have := List.drop_eq_getElem_cons hkk
              rw [hd] at this; injection this with this; exact this.symm
            rw [List.take_succ_eq_append_getElem hkk, List.mem_append, List.mem_singleton] at hp
            rcases hp with hp | rfl
            · have := htk p hp; omega
            · rw [hk2]; omega
          have hdr2 : ∀ p ∈ sPages.drop (k + 1), ((i + 1 : Nat) : Int) ≤ p.1 := fun p hp => by
            rw [show sPages.drop (k + 1) = r by rw [← List.drop_drop, hd]; rfl] at hp
            have := hsr p hp; omega
          obtain ⟨p1, p2, pd⟩ := pp
          dsimp only at c0 c1 c2 hpe HLF
          subst hpe
          have q1 : ((0 : Int) < ((m' : Int) + 1)) := by omega
          clear hmiss hLV HS hzl hd hPt hvl h1 h2 h3 hat hdl hsr HZ
          go_wp2_with fail
          go_fit HLF.out
          rintro e' w3 ⟨rfl, hb3⟩
          have hG3 := hG.below hb3
          go_wp2_with (first | (with_reducible refine stop_append rfl ?_) | (with_reducible refine stop_copy rfl ?_) | (with_reducible refine stop_make rfl ?_))
          refine hG3.push rfl rfl rfl tU32 rfl rfl rfl (by omega) (by omega) ?_
          intro u' w4 hG4 _
          go_wp2
          go_roundw
          case rel => exact ⟨i + 1, k + 1, m', pc - 1, _, _, by omega, by go_num, by go_num, by omega, by omega, by omega, hrv2, hPv2, htk2, hdr2, by rw [HS2.out, u32s_append]; exact hG4⟩
          case measure => simp [intOf]; omega
        · have q1 : (pp.1 == (i : Int)) = false := by rw [beq_eq_false_iff_ne]; exact hpe
          have hgt : ∀ p ∈ sPages.drop k, ((i + 1 : Nat) : Int) ≤ p.1 := fun p hp => by
            rw [hd, List.mem_cons] at hp
            rcases hp with rfl | hp
            · omega
            · have := hsr p hp; omega
          have HS2 := hmiss (fun p hp => by
              rw [hd, List.mem_cons] at hp
              rcases hp with rfl | hp
              · omega
              · have := hsr p hp; omega)
          have hL := leafN_lt (i : Int) 0 (List.replicate Z 0)
          obtain ⟨LV, hLV⟩ : ∃ y, leafN (i : Int) 0 (List.replicate Z 0) = y := ⟨_, rfl⟩
          rw [hLV] at HZ HS2 hL
          clear hmiss hLV HS hzl
          go_wp2_with (first | (with_reducible refine stop_append rfl ?_) | (with_reducible refine stop_copy rfl ?_) | (with_reducible refine stop_make rfl ?_))
          refine go_make rfl rfl tBytes rfl rfl (n := Z) (m := Z) rfl rfl (by omega) (by omega) (by omega) (Nat.le_refl _) ?_
          intro z w2 hz _ hw2 ho2 hg2
          obtain rfl := zero_u8 hz
          have hb2 : Below wr.heap.size wr w2 := grown_below (Below.refl _ _) hg2 (Nat.le_refl _) (fun g hg => by cases hg)
          have hr2 : Rd w2 (some ⟨wr.heap.size, 0, none⟩) (bys (List.replicate Z 0)) := by
            obtain ⟨A', c', hv, _, _, _, hr, _⟩ := own_out ho2
            injection hv with hv1 hv2 hv3
            subst hv1
            rwa [made_zeros] at hr
          clear hw2 ho2 hg2 hz
          go_wp2_with fail
          go_fit (HZ.out w2 _ hb2 hr2)
          rintro e' w3 ⟨rfl, hb3⟩
          have hG3 := hG.below (hb2.trans (hb3.mono hb2.size))
          go_wp2_with (first | (with_reducible refine stop_append rfl ?_) | (with_reducible refine stop_copy rfl ?_) | (with_reducible refine stop_make rfl ?_))
          refine hG3.push rfl rfl rfl tU32 rfl rfl rfl (by omega) (by omega) ?_
          intro u' w4 hG4 _
          go_wp2
          go_roundw
          case rel => exact ⟨i + 1, k, m' + 1, pc, some a, vs, by omega, by go_num, rfl, hkm, hmp, hp63, hrv, hPv, fun p hp => by have := htk p hp; omega, hgt, by rw [HS2.out, u32s_append]; exact hG4⟩
          case measure => simp [intOf]; omega
    · obtain rfl : i = N := by omega
      rw [List.take_of_length_le (by rw [HOlen.out]; exact Nat.le_refl _)] at hG
      obtain ⟨A5, c5, rfl, _, hc5, hcm5, hr5, _⟩ := own_out hG.owns
      have HM := hide (make_any A5 i c5 OL wr HOlen.out (by omega) hc5 (by unfold maxLen at hcm5; omega) hr5 hOlt (Rd.below ht0 hb) (by omega) (by omega))
      have hbz := hbw0.trans (hb.mono hbw0.size)
      have z0 := hb.size
      have zw := hbw0.size
      have B2' := HB2.out.below hb
      clear hG hr5 hrv hPv htk hdr hdl
      go_wp2_with fail
      go_fit HM.out
      rintro e' w3 ⟨B, K, C, rfl, hT, hb3⟩
      have B3 := B2'.below hb3
      have b3 := B3.cell (j := 0) rfl
      have f3 := B3.frozen 0
      have hlt := HB2.out.lt
      have HT := hide (show tyTree.Is (w3.setCell ⟨w.heap.size + 1, 0, none⟩ (.slice B K C)) (fun b => w.heap.size ≤ b) (treeD OL) [.slice B K C] from
        ((hT.grown (setCell_grown _ _ _ _) (fun b hb e => by injection e with e; omega)).mono (fun b hb => by omega)))
      have HX := hide (B3.set 0 (.slice B K C))
      have Hbf := hide (show Below w.heap.size w (w3.setCell ⟨w.heap.size + 1, 0, none⟩ (.slice B K C)) from (hbz.trans (hb3.mono hbz.size)).setCell (by show w.heap.size ≤ w.heap.size + 1; omega) _)
      clear hT
      go_wp2
      refine bodyPost_ret (results_cell2 rfl rfl HX.out Tryd.underlying29 rfl (by kernel_rfl)) rfl ?_
      exact ⟨B, K, C, rfl, HT.out, Hbf.out⟩
end Go.Proofs.YtcpnobhdogpfiaaDoor
namespace Go.Proofs.YtcpnobhdogpfiaaDoor
set_option maxRecDepth 20000
open Go.RowKit Go.Px
set_option linter.unusedVariables false
set_option maxHeartbeats 3200000 in
theorem small_any2 {w : World} {Q : Nat → Prop} {x : StateD} {cs : List Value} (h : tyState.Is w Q x cs) :
    Calls Tryd.prog 21 #[.agg cs.toArray] w fun e w' => ∃ r : Bool, e = .returned (.bool r) ∧ Below w.heap.size w w' := by
  obtain ⟨sNum, sShapeBlocks, sShapeSize, sPages, sPagesA, sPagesn, sPagesc, sPagesv, sRows, sRowsA, sRowsn, sRowsc, sRowsv, sGroupEpoch, sGroupMembers, sGroupMembersA, sGroupMembersn, sGroupMembersc, sGroupMembersv, rfl, rfl, h1_sNum, h2_sNum, h1_sShapeBlocks, h2_sShapeBlocks, h1_sShapeSize, h2_sShapeSize, hl_sPages, hc_sPages, hm_sPages, hr_sPages, hq_sPages, he_sPages, hl_sRows, hc_sRows, hm_sRows, hr_sRows, hq_sRows, he_sRows, h1_sGroupEpoch, h2_sGroupEpoch, hl_sGroupMembers, hc_sGroupMembers, hm_sGroupMembers, hr_sGroupMembers, hq_sGroupMembers, he_sGroupMembers⟩ := State_out h
  obtain ⟨w0, hw0⟩ : ∃ x, w.alloc (.cells #[.int .i64 sNum, .int .i64 sShapeBlocks, .int .i64 sShapeSize, .slice sPagesA sPagesn sPagesc, .slice sRowsA sRowsn sRowsc, .int .i64 sGroupEpoch, .slice sGroupMembersA sGroupMembersn sGroupMembersc] 48) = x := ⟨_, rfl⟩; have hBw0 : Blk w0 w.heap.size [.int .i64 sNum, .int .i64 sShapeBlocks, .int .i64 sShapeSize, .slice sPagesA sPagesn sPagesc, .slice sRowsA sRowsn sRowsc, .int .i64 sGroupEpoch, .slice sGroupMembersA sGroupMembersn sGroupMembersc] 48 := (by rw [← hw0]; exact Blk.new w [.int .i64 sNum, .int .i64 sShapeBlocks, .int .i64 sShapeSize, .slice sPagesA sPagesn sPagesc, .slice sRowsA sRowsn sRowsc, .int .i64 sGroupEpoch, .slice sGroupMembersA sGroupMembersn sGroupMembersc] _); have hbw0 : Below w.heap.size w w0 := (by rw [← hw0]; exact (Below.refl _ _).alloc (Nat.le_refl _) _); have Hw0 := hide hw0; clear hw0
  have y0 := Blk.cell hBw0 (j := 0) rfl; have y1 := Blk.cell hBw0 (j := 1) rfl; have y2 := Blk.cell hBw0 (j := 2) rfl; have y3 := Blk.cell hBw0 (j := 3) rfl; have y4 := Blk.cell hBw0 (j := 4) rfl; have y5 := Blk.cell hBw0 (j := 5) rfl; have y6 := Blk.cell hBw0 (j := 6) rfl
  clear h hq_sPages hq_sRows hq_sGroupMembers he_sPages he_sRows he_sGroupMembers hr_sPages hr_sRows hr_sGroupMembers hl_sPages hl_sRows hl_sGroupMembers hBw0
  by_cases q1 : sShapeBlocks ≤ 64
  · by_cases q2 : sShapeSize ≤ 64
    · by_cases q3 : sPagesn ≤ 70
      · by_cases q4 : sRowsn ≤ 70
        all_goals
          have r1 : decide (sShapeBlocks ≤ 64) = true := decide_eq_true q1
          have r2 : decide (sShapeSize ≤ 64) = true := decide_eq_true q2
          have r3 : decide ((sPagesn : Int) ≤ 70) = true := decide_eq_true (by omega)
          go_enter Tryd.func21, Tryd.ntmps21
          go_wp2_with fail
          rw [Hw0.out]
          go_ret
          first
          | exact ⟨.inl rfl, hbw0⟩
          | exact ⟨.inr rfl, hbw0⟩
          | exact ⟨⟨_, rfl⟩, hbw0⟩
          | exact ⟨_, rfl, hbw0⟩
      · have r1 : decide (sShapeBlocks ≤ 64) = true := decide_eq_true q1
        have r2 : decide (sShapeSize ≤ 64) = true := decide_eq_true q2
        have r3 : decide ((sPagesn : Int) ≤ 70) = false := decide_eq_false (by omega)
        go_enter Tryd.func21, Tryd.ntmps21
        go_wp2_with fail
        rw [Hw0.out]
        go_ret
        first
          | exact ⟨.inl rfl, hbw0⟩
          | exact ⟨.inr rfl, hbw0⟩
          | exact ⟨⟨_, rfl⟩, hbw0⟩
          | exact ⟨_, rfl, hbw0⟩
    · have r1 : decide (sShapeBlocks ≤ 64) = true := decide_eq_true q1
      have r2 : decide (sShapeSize ≤ 64) = false := decide_eq_false q2
      go_enter Tryd.func21, Tryd.ntmps21
      go_wp2_with fail
      rw [Hw0.out]
      go_ret
      first
          | exact ⟨.inl rfl, hbw0⟩
          | exact ⟨.inr rfl, hbw0⟩
          | exact ⟨⟨_, rfl⟩, hbw0⟩
          | exact ⟨_, rfl, hbw0⟩
  · have r1 : decide (sShapeBlocks ≤ 64) = false := decide_eq_false q1
    go_enter Tryd.func21, Tryd.ntmps21
    go_wp2_with fail
    rw [Hw0.out]
    go_ret
    first
          | exact ⟨.inl rfl, hbw0⟩
          | exact ⟨.inr rfl, hbw0⟩
          | exact ⟨⟨_, rfl⟩, hbw0⟩
          | exact ⟨_, rfl, hbw0⟩
theorem set_split {ps : List PageD} {i : Nat} {p0 p : PageD} (h : ps[i]? = some p0) : ps = ps.take i ++ p0 :: ps.drop (i + 1) ∧ ps.set i p = ps.take i ++ p :: ps.drop (i + 1) := by
  obtain ⟨hi, hp⟩ := List.getElem?_eq_some_iff.1 h
  have h1 : ps = ps.take i ++ p0 :: ps.drop (i + 1) := by
    conv => lhs; rw [← List.take_append_drop i ps, List.drop_eq_getElem_cons hi, hp]
  refine ⟨h1, ?_⟩
  rw [List.set_eq_take_append_cons_drop, if_pos hi]
theorem sel_set {ps : List PageD} {i : Nat} {p0 p : PageD} (h : ps[i]? = some p0) (hp : p.1 = p0.1) (ha : ps.Pairwise (fun p q => p.1 < q.1)) (j : Int) : selS j none (ps.set i p) = if j = p0.1 then some p else selS j none ps := by
  obtain ⟨h1, h2⟩ := set_split (p := p) h
  rw [h2]
  by_cases hj : j = p0.1
  · rw [if_pos hj]
    rw [h1] at ha
    have := (List.pairwise_append.1 ha).2.1
    rw [List.pairwise_cons] at this
    exact selS_at none (by rw [hp, hj]) (fun q hq => by have := this.1 q hq; omega)
  · rw [if_neg hj]
    conv => rhs; rw [h1]
    rw [selS_append, selS_append]
    show selS j (if p.1 = j then some p else _) _ = selS j (if p0.1 = j then some p0 else _) _
    rw [if_neg (by rw [hp]; exact fun e => hj e.symm), if_neg (fun e => hj e.symm)]
/-- The digests of a state whose page is another one. -/
theorem ofL_set {num b z : Int} {ps : List PageD} {rows : List RowD} {g : GroupD} {i : Nat} {p0 p : PageD} (h : ps[i]? = some p0) (hp : p.1 = p0.1) (h0 : 0 ≤ p0.1) (ha : ps.Pairwise (fun p q => p.1 < q.1)) :
    ofL (num, (b, z), ps.set i p, rows, g) = (ofL (num, (b, z), ps, rows, g)).set p0.1.toNat (leafN p.1 p.2.1 p.2.2) := by
  apply List.ext_getElem?
  intro j
  rw [List.getElem?_set]
  by_cases hj : j < b.toNat
  · rw [ofL_get (x := (num, (b, z), ps.set i p, rows, g)) hj]
    show some (leafS z (selS (j : Int) none (ps.set i p)) (j : Int)) = _
    rw [sel_set h hp ha]
    by_cases he : p0.1.toNat = j
    · rw [if_pos he, if_pos (by omega), if_pos (by rw [ofL_length]; show p0.1.toNat < b.toNat; omega)]
      rfl
    · rw [if_neg he, if_neg (by omega), ofL_get (x := (num, (b, z), ps, rows, g)) hj]
  · have hn : ∀ y : StateD, y.2.1.1 = b → (ofL y)[j]? = none := fun y hy => List.getElem?_eq_none (by rw [ofL_length, hy]; omega)
    rw [hn _ rfl, hn _ rfl]
    by_cases he : p0.1.toNat = j
    · rw [if_pos he, if_neg (by rw [ofL_length]; show ¬ p0.1.toNat < b.toNat; omega)]
    · rw [if_neg he]
/-- A row of pages, one of them another. -/
theorem rows_set {w : World} {Q : Nat → Prop} {ps : List PageD} {vs : List Value} {i : Nat} {p : PageD} {c0 c1 c2 : Value} (h : tyPage.Rows w Q ps vs) (hp : tyPage.Is w Q p [c0, c1, c2]) : tyPage.Rows w Q (ps.set i p) (((vs.set (3 * i) c0).set (3 * i + 1) c1).set (3 * i + 2) c2) := by
  refine ⟨by simp only [List.length_set]; exact h.1, fun j x hx => ?_⟩
  have hl : vs.length = 3 * ps.length := h.1
  show tyPage.Is w Q x (((((vs.set (3 * i) c0).set (3 * i + 1) c1).set (3 * i + 2) c2).drop (3 * j)).take 3)
  rw [List.getElem?_set] at hx
  by_cases hij : i = j
  · subst hij
    rw [if_pos rfl] at hx
    split at hx
    · rename_i hi
      injection hx with hx
      subst hx
      rw [show ((((vs.set (3 * i) c0).set (3 * i + 1) c1).set (3 * i + 2) c2).drop (3 * i)).take 3 = [c0, c1, c2] from by
        apply List.ext_getElem?
        intro q
        rw [List.getElem?_take, List.getElem?_drop]
        rcases (show q = 0 ∨ q = 1 ∨ q = 2 ∨ 3 ≤ q by omega) with rfl | rfl | rfl | hq
        · rw [if_pos (by omega), List.getElem?_set_ne (by omega), List.getElem?_set_ne (by omega), Nat.add_zero, List.getElem?_set_self (by omega)]; rfl
        · rw [if_pos (by omega), List.getElem?_set_ne (by omega), List.getElem?_set_self (by rw [List.length_set]; omega)]; rfl
        · rw [if_pos (by omega), List.getElem?_set_self (by rw [List.length_set, List.length_set]; omega)]; rfl
        · rw [if_neg (by omega), List.getElem?_eq_none (by simpa using hq)]]
      exact hp
    · cases hx
  · rw [if_neg hij] at hx
    rw [show ((((vs.set (3 * i) c0).set (3 * i + 1) c1).set (3 * i + 2) c2).drop (3 * j)).take 3 = (vs.drop (3 * j)).take 3 from by
      apply List.ext_getElem?
      intro q
      rw [List.getElem?_take, List.getElem?_drop, List.getElem?_take, List.getElem?_drop]
      by_cases hq : q < 3
      · rw [if_pos hq, if_pos hq, List.getElem?_set_ne (by omega), List.getElem?_set_ne (by omega), List.getElem?_set_ne (by omega)]
      · rw [if_neg hq, if_neg hq]]
    exact h.2 j x hx
theorem tPagesT : SlT Tryd.prog 42 24 3 40 := slT_mk Tryd.underlying42 (z := .agg #[.int .i64 0, .int .i64 0, .slice none 0 0]) (by kernel_rfl) rfl (by decide)
theorem asc_len {b : Int} : ∀ (ps : List PageD) (lo : Int), ps.Pairwise (fun p q => p.1 < q.1) → (∀ p ∈ ps, lo ≤ p.1 ∧ p.1 < b) → ps.length ≤ (b - lo).toNat
  | [], _, _, _ => Nat.zero_le _
  | p :: r, lo, ha, h => by
    rw [List.pairwise_cons] at ha
    have h0 := h p (by simp)
    obtain ⟨lo', hlo⟩ : ∃ lo' : Int, lo' = p.1 + 1 := ⟨_, rfl⟩
    have hr : ∀ q ∈ r, lo' ≤ q.1 ∧ q.1 < b := fun q hq => by
      have k1 : p.1 < q.1 := ha.1 q hq
      have k2 := (h q (List.mem_cons_of_mem _ hq)).2
      exact ⟨by omega, k2⟩
    have := asc_len r lo' ha.2 hr
    rw [List.length_cons]
    omega
/-- A row of the call's own, as a block. -/
theorem own_blk3 {w : World} {base n : Nat} {v : Value} {xs : List Value} (h : w.ownsRow base 24 3 v n xs) (hn : 0 < n) : ∃ (g c : Nat) (L : List Value), v = .slice (some ⟨g, 0, none⟩) n c ∧ base ≤ g ∧ Blk w g L 24 ∧ L.take (n * 3) = xs ∧ n ≤ c ∧ c ≤ maxLen := by
  rcases h.2 with ⟨h1, h2, h3⟩ | ⟨g, cap, cur, rfl, hb, hg, h1, h2, h3, h4⟩
  · omega
  · refine ⟨g, cap, cur.toList, rfl, hb, ?_, h4, h1, h2⟩
    unfold Blk
    simpa using hg
theorem rd_blk3 {w : World} {g m : Nat} {L : List Value} (h : Blk w g L 24) : Rd w (some ⟨g, 0, none⟩) (L.take m) := fun j u hu => by
  rw [List.getElem?_take] at hu
  split at hu
  · refine ⟨_, rfl, ?_⟩
    rw [show (⟨g, 0, none⟩ : Addr).add j = ⟨g, j, none⟩ from by unfold Addr.add; split <;> simp_all]
    exact h.cell hu
  · cases hu
end Go.Proofs.YtcpnobhdogpfiaaDoor
namespace Go.Proofs.YtcpnobhdogpfiaaDoor
set_option maxRecDepth 20000
open Go.RowKit Go.Px
set_option linter.unusedVariables false
/-- A row of places as cells. -/
def nis (l : List Nat) : List Value := l.map fun x : Nat => Value.int .i64 (x : Int)
theorem nis_append (a b : List Nat) : nis (a ++ b) = nis a ++ nis b := by unfold nis; simp
theorem nis_get {l : List Nat} {k : Nat} (h : k < l.length) : (nis l)[k]? = some (.int .i64 (l[k] : Nat)) := by unfold nis; simp [h]
/-- Behind j levels: the places that are looked at next, and the pairs so far. -/
def stD (a b : List (List Nat)) : Nat → List Nat × Nat
  | 0 => ([0], 0)
  | j + 1 => (if a.length - 1 - j = 0 then unD (a.getD (a.length - 1 - j) []) (b.getD (a.length - 1 - j) []) (stD a b j).1 else belowD (unD (a.getD (a.length - 1 - j) []) (b.getD (a.length - 1 - j) []) (stD a b j).1) (a.getD (a.length - 1 - j - 1) []).length, (stD a b j).2 + (stD a b j).1.length)
/-- Two trees of one form. -/
def Lv (a b : List (List Nat)) : Prop := a.length = b.length ∧ 1 ≤ a.length ∧ a.length ≤ 7 ∧ (∀ k, (a.getD k []).length = (b.getD k []).length) ∧ (a.getD (a.length - 1) []).length = 1 ∧ ∀ k, (a.getD k []).length ≤ 4096
theorem lvD_shape (f : Nat) : ∀ la lb : List Nat, la.length = lb.length → (lvD f la).map List.length = (lvD f lb).map List.length := by
  induction f with
  | zero => intro la lb h; simp [lvD, h]
  | succ f ih =>
    intro la lb h
    by_cases h1 : la.length ≤ 1
    · rw [lvD_one _ h1, lvD_one _ (by omega)]; simp [h]
    · have e := ih (upD la) (upD lb) (by simp only [upD_length, h])
      rw [lvD_more (by omega), lvD_more (by omega), List.map_cons, List.map_cons, h, e]
theorem lvD_few (f : Nat) : ∀ l : List Nat, (lvD f l).length ≤ f + 1 := by
  induction f with
  | zero => intro l; simp [lvD]
  | succ f ih =>
    intro l
    by_cases h1 : l.length ≤ 1
    · rw [lvD_one _ h1]; simp
    · rw [lvD_more (by omega), List.length_cons]; have := ih (upD l); omega
theorem lvD_small (f : Nat) : ∀ l : List Nat, l.length ≤ 4096 → ∀ r ∈ lvD f l, r.length ≤ 4096 := by
  induction f with
  | zero => intro l h r hr; simp [lvD] at hr; rw [hr]; exact h
  | succ f ih =>
    intro l h r hr
    by_cases h1 : l.length ≤ 1
    · rw [lvD_one _ h1] at hr; simp at hr; rw [hr]; exact h
    · rw [lvD_more (by omega), List.mem_cons] at hr
      rcases hr with rfl | hr
      · exact h
      · exact ih (upD l) (by rw [upD_length]; unfold upN; omega) r hr
theorem getD_len (ls : List (List Nat)) (k : Nat) : (ls.getD k []).length = (ls.map List.length).getD k 0 := by
  rw [List.getD_eq_getElem?_getD, List.getD_eq_getElem?_getD, List.getElem?_map]
  cases ls[k]? <;> rfl
theorem lv_tree {la lb : List Nat} (h : la.length = lb.length) (h1 : 1 ≤ la.length) (h2 : la.length ≤ 4096) : Lv (treeD la) (treeD lb) := by
  have hs : (treeD la).map List.length = (treeD lb).map List.length := lvD_shape 6 la lb h
  refine ⟨by rw [← List.length_map (f := List.length), hs, List.length_map], ?_, lvD_few 6 la, fun k => by rw [getD_len, getD_len, hs], ?_, fun k => ?_⟩
  · have := lvD_ne 6 la
    have h' : (treeD la).length ≠ 0 := fun e => this (List.length_eq_zero_iff.1 e)
    omega
  · obtain ⟨d, hd⟩ := lvD_last 6 la h1 (Nat.le_trans h2 (by decide))
    rw [List.getLast?_eq_getElem?] at hd
    rw [List.getD_eq_getElem?_getD]
    rw [show (treeD la)[(treeD la).length - 1]? = some [d] from hd]
    rfl
  · rw [List.getD_eq_getElem?_getD]
    cases hk : (treeD la)[k]? with
    | none => simp
    | some r => exact lvD_small 6 la h2 r (List.mem_of_getElem? hk)
theorem belD_len (i n k : Nat) : (belD i n k).length ≤ k := by unfold belD; simp; omega
theorem belowD_len (pl : List Nat) (n : Nat) : (belowD pl n).length ≤ 4 * pl.length := by
  induction pl with
  | nil => simp [belowD]
  | cons i r ih =>
    unfold belowD at ih ⊢
    rw [List.flatMap_cons, List.length_append, List.length_cons]
    have := belD_len i n 4
    omega
theorem unD_len (a b pl : List Nat) : (unD a b pl).length ≤ pl.length := by unfold unD; exact List.length_filter_le _ _
theorem stD_len (a b : List (List Nat)) (j : Nat) : (stD a b j).1.length ≤ 4 ^ j := by
  induction j with
  | zero => simp [stD]
  | succ j ih =>
    have h1 := unD_len (a.getD (a.length - 1 - j) []) (b.getD (a.length - 1 - j) []) (stD a b j).1
    rw [stD, Nat.pow_succ]
    dsimp only
    split
    · omega
    · have := belowD_len (unD (a.getD (a.length - 1 - j) []) (b.getD (a.length - 1 - j) []) (stD a b j).1) (a.getD (a.length - 1 - j - 1) []).length
      omega
theorem stD_len6 (a b : List (List Nat)) {j : Nat} (h : j ≤ 6) : (stD a b j).1.length ≤ 4096 := Nat.le_trans (stD_len a b j) (Nat.pow_le_pow_right (by decide) h)
theorem stD_cnt (a b : List (List Nat)) (j : Nat) (h : j ≤ 7) : (stD a b j).2 ≤ 4096 * j := by
  induction j with
  | zero => simp [stD]
  | succ j ih =>
    have := ih (by omega)
    have := stD_len6 a b (j := j) (by omega)
    rw [stD]
    dsimp only
    omega
theorem stD_lt {a b : List (List Nat)} (h : Lv a b) (j : Nat) (hj : j < a.length) : ∀ x ∈ (stD a b j).1, x < (a.getD (a.length - 1 - j) []).length := by
  obtain ⟨_, _, _, _, h1, _⟩ := h
  cases j with
  | zero => intro x hx; simp [stD] at hx; rw [Nat.sub_zero, h1]; omega
  | succ j =>
    intro x hx
    rw [stD] at hx
    dsimp only at hx
    rw [if_neg (by omega)] at hx
    rw [show a.length - 1 - (j + 1) = a.length - 1 - j - 1 by omega]
    exact belowD_lt _ _ x hx
theorem un_eq {a b pl : List Nat} {k i x y : Nat} (hk : k < pl.length) (hi : pl[k] = i) (ha : a[i]? = some x) (hb : b[i]? = some y) : unD a b (pl.take (k + 1)) = unD a b (pl.take k) ++ (if x = y then [] else [i]) := by
  rw [unD_snoc a b pl k hk, hi, ha, hb]
  by_cases h : x = y
  · subst h; simp
  · simp [h]
end Go.Proofs.YtcpnobhdogpfiaaDoor
namespace Go.Proofs.YtcpnobhdogpfiaaDoor
set_option maxRecDepth 20000
open Go.RowKit Go.Px
set_option linter.unusedVariables false
theorem piece_get (l : List Nat) (i q : Nat) : (pieceD l i)[q]? = if q < 4 then l[4 * i + q]? else none := by
  unfold pieceD
  rw [List.getElem?_take, List.getElem?_drop]
theorem upD_getq (l : List Nat) (i : Nat) : (upD l)[i]? = if i < upN l.length then some (rowD (pieceD l i)) else none := by
  unfold upD upTo
  rw [List.getElem?_map]
  by_cases h : i < upN l.length
  · rw [if_pos h, List.getElem?_range h]; rfl
  · rw [if_neg h, List.getElem?_eq_none (by simpa using h)]; rfl
theorem up_diff {A B : List Nat} {i : Nat} (hl : A.length = B.length) (hd : (upD A)[i]? ≠ (upD B)[i]?) : ∃ c, c / 4 = i ∧ A[c]? ≠ B[c]? := by
  apply Classical.byContradiction
  intro hc
  apply hd
  have hp : pieceD A i = pieceD B i := by
    apply List.ext_getElem?
    intro q
    rw [piece_get, piece_get]
    by_cases hq : q < 4
    · rw [if_pos hq, if_pos hq]
      apply Classical.byContradiction
      intro h
      exact hc ⟨4 * i + q, by omega, h⟩
    · rw [if_neg hq, if_neg hq]
  rw [upD_getq, upD_getq, hl, hp]
theorem lvD_next (k : Nat) : ∀ (f : Nat) (l : List Nat), k + 1 < (lvD f l).length → (lvD f l).getD (k + 1) [] = upD ((lvD f l).getD k []) := by
  induction k with
  | zero =>
    intro f l h
    cases f with
    | zero => simp [lvD] at h
    | succ f =>
      by_cases h1 : l.length ≤ 1
      · rw [lvD_one _ h1] at h; simp at h
      · rw [lvD_more (by omega)]
        obtain ⟨r, hr⟩ := lvD_head f (upD l)
        rw [hr]
        rfl
  | succ k ih =>
    intro f l h
    cases f with
    | zero => simp [lvD] at h
    | succ f =>
      by_cases h1 : l.length ≤ 1
      · rw [lvD_one _ h1] at h; simp at h
      · rw [lvD_more (by omega)] at h ⊢
        rw [List.length_cons] at h
        have := ih f (upD l) (by omega)
        simpa using this
theorem belD_nodup (i n k : Nat) : (belD i n k).Nodup := by
  unfold belD
  refine List.Pairwise.map _ (fun a b hab e => hab (by omega)) List.nodup_range
theorem belD_div {i n k x : Nat} (hk : k ≤ 4) (h : x ∈ belD i n k) : x / 4 = i := by
  unfold belD at h
  rw [List.mem_map] at h
  obtain ⟨j, hj, rfl⟩ := h
  rw [List.mem_range] at hj
  omega
theorem belowD_div {pl : List Nat} {n x : Nat} (h : x ∈ belowD pl n) : x / 4 ∈ pl := by
  unfold belowD at h
  rw [List.mem_flatMap] at h
  obtain ⟨i, hi, hx⟩ := h
  rw [belD_div (by omega) hx]
  exact hi
theorem belowD_nodup : ∀ (pl : List Nat) (n : Nat), pl.Nodup → (belowD pl n).Nodup
  | [], n, _ => by simp [belowD]
  | i :: r, n, h => by
    rw [List.nodup_cons] at h
    show (belD i n 4 ++ belowD r n).Nodup
    rw [List.nodup_append]
    refine ⟨belD_nodup i n 4, belowD_nodup r n h.2, fun x hx y hy e => ?_⟩
    subst e
    exact h.1 (by have := belowD_div hy; rwa [belD_div (by omega) hx] at this)
end Go.Proofs.YtcpnobhdogpfiaaDoor
namespace Go.Proofs.YtcpnobhdogpfiaaDoor
set_option maxRecDepth 20000
open Go.RowKit Go.Px
set_option linter.unusedVariables false
theorem raw_lt32 (c : Nat) (bs : List UInt8) (hc : c < 4294967296) : rawN c bs < 4294967296 := rawN_lt bs c hc
/-- A burst of four bytes changes a sum. -/
theorem more_burst (s : Nat) (hs : s < 4294967296) (p w w' q : List UInt8) (hw : w.length = w'.length) (h4 : w.length ≤ 4) (hne : numN w ≠ numN w') : moreN s (p ++ w ++ q) ≠ moreN s (p ++ w' ++ q) := by
  unfold moreN
  have h1 := burst_raw p w w' q hw h4 hne (4294967295 - s)
  have h2 := raw_lt32 (4294967295 - s) (p ++ w ++ q) (by omega)
  have h3 := raw_lt32 (4294967295 - s) (p ++ w' ++ q) (by omega)
  omega
theorem flatB_app (k : Nat) (a b : List Nat) : flatB k (a ++ b) = flatB k a ++ flatB k b := by unfold flatB; rw [List.flatMap_append]
/-- Rows that differ in one digest have different digests. -/
theorem row_burst (a b : List Nat) (x y : Nat) (hx : x < 4294967296) (hy : y < 4294967296) (h : x ≠ y) : rowD (a ++ x :: b) ≠ rowD (a ++ y :: b) := by
  unfold rowD
  have e : ∀ z, flatB 4 (a ++ z :: b) = flatB 4 a ++ leB 4 z ++ flatB 4 b := fun z => by
    rw [flatB_app, show (z :: b) = [z] ++ b from rfl, flatB_app, List.append_assoc, show flatB 4 [z] = leB 4 z from by unfold flatB; simp]
  rw [e, e]
  refine more_burst 0 (by decide) _ _ _ _ (by rw [leB_length, leB_length]) (by rw [leB_length]; decide) ?_
  rw [numN_leB 4 x (by simpa using hx), numN_leB 4 y (by simpa using hy)]
  exact h
theorem stD_nextM {a b : List (List Nat)} {j k : Nat} (h : a.length - 1 - j = k + 1) : (stD a b (j + 1)).1 = belowD (unD (a.getD (k + 1) []) (b.getD (k + 1) []) (stD a b j).1) (a.getD k []).length := by
  rw [stD]; dsimp only; rw [if_neg (by omega), h]; rfl
/-- Two rows that differ at one place alone. -/
def One (z : Nat) (A B : List Nat) : Prop := A.length = B.length ∧ z < A.length ∧ A[z]? ≠ B[z]? ∧ ∀ i, i ≠ z → A[i]? = B[i]?
theorem One.split {z : Nat} {A B : List Nat} (h : One z A B) : ∃ (a b : List Nat) (x y : Nat), A = a ++ x :: b ∧ B = a ++ y :: b ∧ x ≠ y ∧ a.length = z := by
  obtain ⟨hl, hz, hd, ho⟩ := h
  have hz' : z < B.length := by omega
  refine ⟨A.take z, A.drop (z + 1), A[z], B[z], ?_, ?_, ?_, by rw [List.length_take]; omega⟩
  · rw [← List.drop_eq_getElem_cons hz, List.take_append_drop]
  · have e1 : A.take z = B.take z := by
      apply List.ext_getElem?
      intro i
      rw [List.getElem?_take, List.getElem?_take]
      by_cases hi : i < z
      · rw [if_pos hi, if_pos hi]; exact ho i (by omega)
      · rw [if_neg hi, if_neg hi]
    have e2 : A.drop (z + 1) = B.drop (z + 1) := by
      apply List.ext_getElem?
      intro i
      rw [List.getElem?_drop, List.getElem?_drop]
      exact ho _ (by omega)
    rw [e1, e2, ← List.drop_eq_getElem_cons hz', List.take_append_drop]
  · intro e
    rw [List.getElem?_eq_getElem hz, List.getElem?_eq_getElem hz'] at hd
    exact hd (by rw [e])
theorem One.piece {z : Nat} {A B : List Nat} (h : One z A B) : One (z % 4) (pieceD A (z / 4)) (pieceD B (z / 4)) := by
  obtain ⟨hl, hz, hd, ho⟩ := h
  refine ⟨by rw [pieceD_length, pieceD_length, hl], by rw [pieceD_length]; omega, ?_, fun i hi => ?_⟩
  · rw [piece_get, piece_get, if_pos (by omega), if_pos (by omega), show 4 * (z / 4) + z % 4 = z by omega]
    exact hd
  · rw [piece_get, piece_get]
    by_cases h4 : i < 4
    · rw [if_pos h4, if_pos h4]; exact ho _ (by omega)
    · rw [if_neg h4, if_neg h4]
theorem One.up {z : Nat} {A B : List Nat} (h : One z A B) (hA : ∀ x ∈ A, x < 4294967296) (hB : ∀ x ∈ B, x < 4294967296) : One (z / 4) (upD A) (upD B) := by
  obtain ⟨a, b, x, y, e1, e2, hxy, _⟩ := h.piece.split
  have hpA : ∀ v ∈ pieceD A (z / 4), v < 4294967296 := fun v hv => hA v (by unfold pieceD at hv; exact List.mem_of_mem_drop (List.mem_of_mem_take hv))
  have hpB : ∀ v ∈ pieceD B (z / 4), v < 4294967296 := fun v hv => hB v (by unfold pieceD at hv; exact List.mem_of_mem_drop (List.mem_of_mem_take hv))
  have hx : x < 4294967296 := hpA x (by rw [e1]; simp)
  have hy : y < 4294967296 := hpB y (by rw [e2]; simp)
  have hr := row_burst a b x y hx hy hxy
  obtain ⟨hl, hz, hd, ho⟩ := h
  have hu : z / 4 < upN A.length := by unfold upN; omega
  refine ⟨by rw [upD_length, upD_length, hl], by rw [upD_length]; exact hu, ?_, fun i hi => ?_⟩
  · rw [upD_getq, upD_getq, ← hl, if_pos hu, if_pos hu, e1, e2]
    intro h
    injection h with h
    exact hr h
  · apply Classical.byContradiction
    intro hne
    obtain ⟨c, hc, hcd⟩ := up_diff hl hne
    by_cases hcz : c = z
    · exact hi (by rw [← hc, hcz])
    · exact hcd (ho c hcz)
theorem one_levels {la lb : List Nat} {z : Nat} (h : One z la lb) (hA : ∀ x ∈ la, x < 4294967296) (hB : ∀ x ∈ lb, x < 4294967296) (hL : Lv (treeD la) (treeD lb)) : ∀ k, k < (treeD la).length → One (z / 4 ^ k) ((treeD la).getD k []) ((treeD lb).getD k []) ∧ (∀ x ∈ (treeD la).getD k [], x < 4294967296) ∧ ∀ x ∈ (treeD lb).getD k [], x < 4294967296
  | 0, _ => by
    obtain ⟨ra, hra⟩ := lvD_head 6 la
    obtain ⟨rb, hrb⟩ := lvD_head 6 lb
    have ea : (treeD la).getD 0 [] = la := by unfold treeD; rw [hra]; rfl
    have eb : (treeD lb).getD 0 [] = lb := by unfold treeD; rw [hrb]; rfl
    rw [ea, eb, Nat.pow_zero, Nat.div_one]
    exact ⟨h, hA, hB⟩
  | k + 1, hk => by
    obtain ⟨h1, h2, h3⟩ := one_levels h hA hB hL k (by omega)
    have e1 : (treeD la).getD (k + 1) [] = upD ((treeD la).getD k []) := lvD_next k 6 la hk
    have e2 : (treeD lb).getD (k + 1) [] = upD ((treeD lb).getD k []) := lvD_next k 6 lb (by have := hL.1; exact this ▸ hk)
    rw [e1, e2, Nat.pow_succ, ← Nat.div_div_eq_div_mul]
    exact ⟨h1.up h2 h3, upD_lt _, upD_lt _⟩
theorem mem_belowD {pl : List Nat} {n x : Nat} (hx : x < n) (h : x / 4 ∈ pl) : x ∈ belowD pl n := by
  unfold belowD
  rw [List.mem_flatMap]
  refine ⟨x / 4, h, ?_⟩
  unfold belD
  rw [List.mem_map]
  exact ⟨x % 4, by rw [List.mem_range]; omega, by omega⟩
theorem filter_one {p : Nat → Bool} {z : Nat} (hp : ∀ x, p x = true ↔ x = z) : ∀ pl : List Nat, pl.Nodup → z ∈ pl → pl.filter p = [z]
  | [], _, h => by cases h
  | x :: r, hn, h => by
    rw [List.nodup_cons] at hn
    by_cases hx : x = z
    · subst hx
      rw [List.filter_cons_of_pos ((hp x).2 rfl)]
      congr 1
      rw [List.filter_eq_nil_iff]
      intro y hy hpy
      rw [(hp y).1 hpy] at hy
      exact hn.1 hy
    · rw [List.filter_cons_of_neg (fun e => hx ((hp x).1 e))]
      exact filter_one hp r hn.2 (by rw [List.mem_cons] at h; rcases h with h | h; exact absurd h.symm hx; exact h)
theorem un_one {A B pl : List Nat} {z : Nat} (h : One z A B) (hn : pl.Nodup) (hz : z ∈ pl) : unD A B pl = [z] := by
  unfold unD
  refine filter_one (fun x => ?_) pl hn hz
  rw [bne_iff_ne]
  constructor
  · intro hd
    apply Classical.byContradiction
    intro hx
    exact hd (h.2.2.2 x hx)
  · rintro rfl
    exact h.2.2.1
theorem st_one {la lb : List Nat} {z : Nat} (h : One z la lb) (hA : ∀ x ∈ la, x < 4294967296) (hB : ∀ x ∈ lb, x < 4294967296) (hL : Lv (treeD la) (treeD lb)) : ∀ j, j < (treeD la).length → (stD (treeD la) (treeD lb) j).1.Nodup ∧ z / 4 ^ ((treeD la).length - 1 - j) ∈ (stD (treeD la) (treeD lb) j).1
  | 0, hj => by
    refine ⟨by simp [stD], ?_⟩
    have h1 := (one_levels h hA hB hL ((treeD la).length - 1) (by omega)).1.2.1
    rw [hL.2.2.2.2.1] at h1
    simp only [stD, List.mem_singleton, Nat.sub_zero]
    exact Nat.lt_one_iff.1 h1
  | j + 1, hj => by
    obtain ⟨h1, h2⟩ := st_one h hA hB hL j (by omega)
    obtain ⟨k, hk⟩ : ∃ k, (treeD la).length - 1 - j = k + 1 := ⟨(treeD la).length - 1 - j - 1, by omega⟩
    have e := stD_nextM (a := treeD la) (b := treeD lb) hk
    rw [hk] at h2
    have hu := un_one (one_levels h hA hB hL (k + 1) (by omega)).1 h1 h2
    rw [e, hu]
    refine ⟨belowD_nodup _ _ (by simp), ?_⟩
    rw [show (treeD la).length - 1 - (j + 1) = k by omega]
    refine mem_belowD (one_levels h hA hB hL k (by omega)).1.2.1 ?_
    rw [Nat.div_div_eq_div_mul, ← Nat.pow_succ]
    simp
/-- Where one digest differs, its place is found, alone. -/
theorem diff_one {la lb : List Nat} {z : Nat} (h : One z la lb) (hA : ∀ x ∈ la, x < 4294967296) (hB : ∀ x ∈ lb, x < 4294967296) (hL : Lv (treeD la) (treeD lb)) : (stD (treeD la) (treeD lb) (treeD la).length).1 = [z] := by
  have h0 := hL.2.1
  obtain ⟨j, hj⟩ : ∃ j, (treeD la).length = j + 1 := ⟨(treeD la).length - 1, by omega⟩
  obtain ⟨h1, h2⟩ := st_one h hA hB hL j (by omega)
  have hk : (treeD la).length - 1 - j = 0 := by omega
  rw [hk, Nat.pow_zero, Nat.div_one] at h2
  have hu := un_one (one_levels h hA hB hL 0 (by omega)).1 h1 (by rw [Nat.pow_zero, Nat.div_one]; exact h2)
  rw [Nat.pow_zero, Nat.div_one] at hu
  rw [hj, stD]
  dsimp only
  rw [if_pos hk, hk]
  exact hu
end Go.Proofs.YtcpnobhdogpfiaaDoor
namespace Go.Proofs.YtcpnobhdogpfiaaDoor
set_option maxRecDepth 20000
open Go.RowKit Go.Px
set_option linter.unusedVariables false
theorem leaf_burst (p v : Int) (a w w' q : List UInt8) (hw : w.length = w'.length) (h4 : w.length ≤ 4) (hne : numN w ≠ numN w') : leafN p v (a ++ w ++ q) ≠ leafN p v (a ++ w' ++ q) := by
  unfold leafN
  show moreN (moreN 0 _) _ ≠ moreN (moreN 0 _) _
  exact more_burst _ (moreN_lt _ _) a w w' q hw h4 hne
theorem numN_inj25 {a b : List UInt8} (hl : a.length = b.length) (h : numN a = numN b) : a = b := by
  rw [← leB_numN a, ← leB_numN b, hl, h]
/-- Bytes that differ within four bytes side by side alone have another digest. -/
theorem leaf_outside {bs bs' : List UInt8} {k : Nat} (hl : bs'.length = bs.length) (ho : ∀ j, j < k ∨ k + 4 ≤ j → bs'[j]? = bs[j]?) (hne : bs' ≠ bs) (p v : Int) : leafN p v bs' ≠ leafN p v bs := by
  have split : ∀ l : List UInt8, l = l.take k ++ (l.drop k).take 4 ++ l.drop (k + 4) := fun l => by
    rw [List.append_assoc, ← List.drop_drop, List.take_append_drop, List.take_append_drop]
  have e1 : bs'.take k = bs.take k := by
    apply List.ext_getElem?
    intro j
    rw [List.getElem?_take, List.getElem?_take]
    by_cases hj : j < k
    · rw [if_pos hj, if_pos hj]; exact ho j (.inl hj)
    · rw [if_neg hj, if_neg hj]
  have e2 : bs'.drop (k + 4) = bs.drop (k + 4) := by
    apply List.ext_getElem?
    intro j
    rw [List.getElem?_drop, List.getElem?_drop]
    exact ho _ (.inr (by omega))
  have hlen : ((bs'.drop k).take 4).length = ((bs.drop k).take 4).length := by simp [hl]
  have h1 : bs' = bs.take k ++ (bs'.drop k).take 4 ++ bs.drop (k + 4) := by rw [← e1, ← e2]; exact split bs'
  rw [h1]
  conv => rhs; rw [split bs]
  refine leaf_burst p v _ _ _ _ hlen (by simp; omega) (fun e => hne ?_)
  rw [h1, numN_inj25 hlen e, ← split bs]
/-- The digest of a page that is there. -/
theorem ofL_at {num b z : Int} {ps : List PageD} {rows : List RowD} {g : GroupD} {i : Nat} {p0 : PageD} (h : ps[i]? = some p0) (h0 : 0 ≤ p0.1) (hb : p0.1 < b) (ha : ps.Pairwise (fun p q => p.1 < q.1)) :
    (ofL (num, (b, z), ps, rows, g))[p0.1.toNat]? = some (leafN p0.1 p0.2.1 p0.2.2) := by
  rw [ofL_get (by show p0.1.toNat < b.toNat; omega)]
  show some (leafS z (selS ((p0.1.toNat : Nat) : Int) none ps) _) = _
  have hd : ps.drop i = p0 :: ps.drop (i + 1) := by
    obtain ⟨hi, hp⟩ := List.getElem?_eq_some_iff.1 h
    rw [List.drop_eq_getElem_cons hi, hp]
  rw [sel_hit hd (by omega) ha]
  rfl
/-- Two states that differ in one page differ in one digest. -/
theorem ofL_one {num b z : Int} {ps : List PageD} {rows : List RowD} {g : GroupD} {i : Nat} {p0 p : PageD} (h : ps[i]? = some p0) (hp : p.1 = p0.1) (h0 : 0 ≤ p0.1) (hb : p0.1 < b) (ha : ps.Pairwise (fun p q => p.1 < q.1)) (hne : leafN p.1 p.2.1 p.2.2 ≠ leafN p0.1 p0.2.1 p0.2.2) :
    One p0.1.toNat (ofL (num, (b, z), ps, rows, g)) (ofL (num, (b, z), ps.set i p, rows, g)) := by
  rw [ofL_set h hp h0 ha]
  have hl : p0.1.toNat < (ofL (num, (b, z), ps, rows, g)).length := by rw [ofL_length]; show p0.1.toNat < b.toNat; omega
  refine ⟨by rw [List.length_set], hl, ?_, fun j hj => ?_⟩
  · rw [List.getElem?_set_self hl, ofL_at h h0 hb ha]
    intro e
    injection e with e
    exact hne e.symm
  · rw [List.getElem?_set_ne (fun e => hj e.symm)]
end Go.Proofs.YtcpnobhdogpfiaaDoor
namespace Go.Proofs.YtcpnobhdogpfiaaDoor
set_option maxRecDepth 20000
open Go.RowKit Go.Px
set_option linter.unusedVariables false
set_option maxHeartbeats 1600000 in
theorem sameplaces_eq (A : Option Addr) (n c : Nat) (B : Option Addr) (d : Nat) (l : List Nat) (w : World) (hn : l.length = n) (h63 : n ≤ 9223372036854775807) (hr : Rd w A (nis l)) (hs : Rd w B (nis l)) :
    Calls Tryd.prog 40 #[.slice A n c, .slice B n d] w fun e w' => e = .returned (.bool true) ∧ Below w.heap.size w w' := by
  have Hn := hide hn
  clear hn
  go_enter Tryd.func40, Tryd.ntmps40
  go_wp2
  go_loopw [5] (fun i wr => ∃ k : Nat, k ≤ n ∧ i = .int .i64 k ∧ Below w.heap.size w wr) (fun i _ => n - (intOf i).toNat)
  case atStart => exact ⟨0, by omega, rfl, Below.refl _ _⟩
  case round =>
    obtain ⟨k, hk, rfl, hbw⟩ := hrel
    by_cases hlt : k < n
    · have hkl : k < l.length := by rw [Hn.out]; exact hlt
      obtain ⟨a, ha, hc⟩ := hr.below hbw k _ (nis_get hkl)
      obtain ⟨b, hb, hd⟩ := hs.below hbw k _ (nis_get hkl)
      obtain ⟨x, hx⟩ : ∃ x, l[k] = x := ⟨_, rfl⟩
      rw [hx] at hc hd
      subst ha hb
      clear hx hkl
      go_wp2
      go_quiet (fail)
      all_goals
        go_wp2
        go_roundw
        case rel => exact ⟨k + 1, by omega, by go_num, below_drewN hbw _⟩
        case measure => simp [intOf]; omega
    · go_wp2
      go_ret
      exact ⟨rfl, hbw⟩
set_option maxHeartbeats 3200000 in
theorem below_any (A : Option Addr) (n c : Nat) (pl : List Nat) (N : Nat) (w : World) (hn : pl.length = n) (h8 : n ≤ 4096) (hN : N ≤ 4096) (hp : ∀ x ∈ pl, x < 4294967296) (hr : Rd w A (nis pl)) :
    Calls Tryd.prog 59 #[.slice A n c, .int .i64 N] w fun e w' => ∃ v, e = .returned v ∧ w'.ownsRow w.heap.size 3 1 v (belowD pl N).length (nis (belowD pl N)) ∧ Below w.heap.size w w' := by
  have Hn := hide hn
  clear hn
  go_enter Tryd.func59, Tryd.ntmps59
  go_wp2
  go_loopw [5, 12] (fun u i W => ∃ k : Nat, k ≤ n ∧ i = .int .i64 (k : Int) ∧ Grow w (.slice none 0 0) w.heap.size 3 1 W u (belowD (pl.take k) N).length (nis (belowD (pl.take k) N))) (fun _ i _ => n - (intOf i).toNat)
  case atStart => exact ⟨0, by omega, rfl, Grow.nil _ _ _⟩
  case round =>
    obtain ⟨k, hk, rfl, hG⟩ := hrel
    by_cases hlt : k < n
    · have hkl : k < pl.length := by rw [Hn.out]; exact hlt
      obtain ⟨a, rfl, hc⟩ := (hr.below hG.all) k _ (nis_get hkl)
      have HB := hide (belowD_snoc pl N k hkl)
      have hlo := belowD_len (pl.take k) N
      rw [List.length_take, Nat.min_eq_left (by omega)] at hlo
      obtain ⟨x, hx⟩ : ∃ x, pl[k] = x := ⟨_, rfl⟩
      have hx4 : x < 4294967296 := by rw [← hx]; exact hp _ (List.getElem_mem hkl)
      rw [hx] at hc HB
      obtain ⟨L, hL⟩ : ∃ L, belowD (pl.take k) N = L := ⟨_, rfl⟩
      rw [hL] at hG HB hlo
      clear hx hkl hL
      go_wp2_with fail
      go_loopw [5, 16] (fun u i W => ∃ q : Nat, q ≤ 4 ∧ i = .int .i64 (q : Int) ∧ Grow w (.slice none 0 0) w.heap.size 3 1 W u (L ++ belD x N q).length (nis (L ++ belD x N q))) (fun _ i _ => 4 - (intOf i).toNat)
      case atStart => exact ⟨0, by omega, rfl, by simpa [belD] using hG⟩
      case round =>
        obtain ⟨q, hq, rfl, hG2⟩ := hrel
        have hql := belD_len x N q
        by_cases hq4 : q < 4
        · have HS := hide (belD_snoc x N q)
          have hlen : (L ++ belD x N q).length ≤ 16388 := by rw [List.length_append]; omega
          by_cases hat : 4 * x + q < N
          · rw [if_pos hat] at HS
            have HV := hide (show (x : Int) * 4 + (q : Int) = ((4 * x + q : Nat) : Int) by omega)
            have hat2 : (x : Int) * 4 + (q : Int) < (N : Int) := by omega
            go_wp2_with (first | (with_reducible refine stop_append rfl ?_) | (with_reducible refine stop_copy rfl ?_) | (with_reducible refine stop_make rfl ?_))
            refine hG2.push rfl rfl rfl tInts rfl rfl rfl (by omega) (by omega) ?_
            intro u' W4 hG4 _
            go_wp2
            go_roundw
            case rel =>
              refine ⟨q + 1, by omega, by go_num, ?_⟩
              rw [HS.out, ← List.append_assoc, nis_append _ [4 * x + q], show (L ++ belD x N q ++ [4 * x + q]).length = (L ++ belD x N q).length + 1 from by simp only [List.length_append, List.length_singleton]]
              rw [HV.out] at hG4
              exact hG4
            case measure => simp [intOf]; omega
          · rw [if_neg hat, List.append_nil] at HS
            have hat2 : ¬ (x : Int) * 4 + (q : Int) < (N : Int) := by omega
            go_wp2
            go_roundw
            case rel => exact ⟨q + 1, by omega, by go_num, by rw [HS.out]; exact hG2⟩
            case measure => simp [intOf]; omega
        · have hq : q = 4 := by omega
          subst hq
          go_wp2
          go_roundw
          case rel => exact ⟨k + 1, by omega, by go_num, by rw [HB.out]; exact hG2⟩
          case measure => simp [intOf]; omega
    · have hkn : k = n := by omega
      subst hkn
      rw [List.take_of_length_le (by rw [Hn.out]; exact Nat.le_refl _)] at hG
      go_wp2
      go_ret
      exact ⟨_, rfl, hG.owns, hG.all⟩
end Go.Proofs.YtcpnobhdogpfiaaDoor
namespace Go.Proofs.YtcpnobhdogpfiaaDoor
set_option maxRecDepth 20000
open Go.RowKit Go.Px
set_option linter.unusedVariables false
theorem tree_row {w : World} {Q : Nat → Prop} {ls : List (List Nat)} {A : Option Addr} {n c : Nat} (hT : tyTree.Is w Q ls [.slice A n c]) {k : Nat} (hk : k < n) : ∃ (a : Addr) (B : Option Addr) (m : Nat), A = some a ∧ w.cell? (a.add k) = some (.slice B (ls.getD k []).length m) ∧ (ls.getD k []).length ≤ m ∧ m ≤ 9223372036854775807 ∧ Rd w B (u32s (ls.getD k [])) ∧ ∀ x ∈ ls.getD k [], x < 4294967296 := by
  obtain ⟨p, pA, pn, pc, pv, rfl, hpe, hl1, hc1, hm1, hr1, _, he1⟩ := Tree_out hT
  simp only [List.cons.injEq, Value.slice.injEq, and_true] at hpe
  obtain ⟨rfl, rfl, rfl⟩ := hpe
  have hkl : k < ls.length := by omega
  obtain ⟨B, m, hv, h1, h2, h3, _, h4⟩ := rows32_at he1 hkl
  obtain ⟨a, rfl, hc⟩ := hr1 k _ hv
  have e : ls.getD k [] = ls[k] := by rw [List.getD_eq_getElem?_getD, List.getElem?_eq_getElem hkl]; rfl
  rw [e]
  exact ⟨a, B, m, rfl, hc, h1, h2, h3, h4⟩
theorem stD_last {a b : List (List Nat)} {j : Nat} (h : a.length - 1 - j = 0) : stD a b (j + 1) = (unD (a.getD 0 []) (b.getD 0 []) (stD a b j).1, (stD a b j).2 + (stD a b j).1.length) := by
  rw [stD, if_pos h, h]
theorem stD_more {a b : List (List Nat)} {j k : Nat} (h : a.length - 1 - j = k + 1) : stD a b (j + 1) = (belowD (unD (a.getD (k + 1) []) (b.getD (k + 1) []) (stD a b j).1) (a.getD k []).length, (stD a b j).2 + (stD a b j).1.length) := by
  rw [stD, if_neg (by omega), h]; rfl
end Go.Proofs.YtcpnobhdogpfiaaDoor
