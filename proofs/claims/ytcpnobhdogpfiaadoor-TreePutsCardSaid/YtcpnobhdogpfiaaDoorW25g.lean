/- The law TreePuts walked: a state whose page is another one, and its tree. -/
import Derived.Test.YtcpnobhdogpfiaaDoorG25l
import Derived.Test.YtcpnobhdogpfiaaDoorF25m
import Derived.Test.YtcpnobhdogpfiaaDoorF25j
import Derived.Test.YtcpnobhdogpfiaaDoorF25s
import Derived.Test.YtcpnobhdogpfiaaDoorRnd
import Derived.Deep.RegionHeld
import Derived.Deep.DeepFit
namespace Go.Proofs.YtcpnobhdogpfiaaDoor
set_option maxRecDepth 20000
open Go.RowKit Go.Px
set_option linter.unusedVariables false
set_option maxHeartbeats 3200000 in
theorem small_any2 {w : World} {Q : Nat → Prop} {x : StateD} {cs : List Value} (h : tyState.Is w Q x cs) :
    Calls Tryd.prog 21 #[.agg cs.toArray] w fun e w' => ∃ r : Bool, e = .returned (.bool r) ∧ Below w.heap.size w w' := by
  obtain ⟨sNum, sShapeBlocks, sShapeSize, sPages, sPagesA, sPagesn, sPagesc, sPagesv, sRows, sRowsA, sRowsn, sRowsc, sRowsv, sGroupEpoch, sGroupMembers, sGroupMembersA, sGroupMembersn, sGroupMembersc, sGroupMembersv, rfl, rfl, h1_sNum, h2_sNum, h1_sShapeBlocks, h2_sShapeBlocks, h1_sShapeSize, h2_sShapeSize, hl_sPages, hc_sPages, hm_sPages, hr_sPages, hq_sPages, he_sPages, hl_sRows, hc_sRows, hm_sRows, hr_sRows, hq_sRows, he_sRows, h1_sGroupEpoch, h2_sGroupEpoch, hl_sGroupMembers, hc_sGroupMembers, hm_sGroupMembers, hr_sGroupMembers, hq_sGroupMembers, he_sGroupMembers⟩ := State_out h
  obtain ⟨w0, hw0⟩ : ∃ x, w.alloc (.cells #[.int .i64 sNum, .int .i64 sShapeBlocks, .int .i64 sShapeSize, .slice sPagesA sPagesn sPagesc, .slice sRowsA sRowsn sRowsc, .int .i64 sGroupEpoch, .slice sGroupMembersA sGroupMembersn sGroupMembersc] 48) = x := ⟨_, rfl⟩; have hBw0 : Blk w0 w.heap.size [.int .i64 sNum, .int .i64 sShapeBlocks, .int .i64 sShapeSize, .slice sPagesA sPagesn sPagesc, .slice sRowsA sRowsn sRowsc, .int .i64 sGroupEpoch, .slice sGroupMembersA sGroupMembersn sGroupMembersc] 48 := (by rw [← hw0]; exact Blk.new w [.int .i64 sNum, .int .i64 sShapeBlocks, .int .i64 sShapeSize, .slice sPagesA sPagesn sPagesc, .slice sRowsA sRowsn sRowsc, .int .i64 sGroupEpoch, .slice sGroupMembersA sGroupMembersn sGroupMembersc] _); have hbw0 : Below w.heap.size w w0 := (by rw [← hw0]; exact (Below.refl _ _).alloc (Nat.le_refl _) _); have Hw0 := hide hw0; clear hw0
  have y0 := Blk.cell hBw0 (j := 0) rfl; have y1 := Blk.cell hBw0 (j := 1) rfl; have y2 := Blk.cell hBw0 (j := 2) rfl; have y3 := Blk.cell hBw0 (j := 3) rfl; have y4 := Blk.cell hBw0 (j := 4) rfl; have y5 := Blk.cell hBw0 (j := 5) rfl; have y6 := Blk.cell hBw0 (j := 6) rfl
  clear h hq_sPages hq_sRows hq_sGroupMembers he_sPages he_sRows he_sGroupMembers hr_sPages hr_sRows hr_sGroupMembers hl_sPages hl_sRows hl_sGroupMembers hBw0
  by_cases q1 : sShapeBlocks ≤ 64
  · by_cases q2 : sShapeSize ≤ 64
    · by_cases q3 : sPagesn ≤ 70
      · by_cases q4 : sRowsn ≤ 70
        all_goals
          have r1 : decide (sShapeBlocks ≤ 64) = true := decide_eq_true q1
          have r2 : decide (sShapeSize ≤ 64) = true := decide_eq_true q2
          have r3 : decide ((sPagesn : Int) ≤ 70) = true := decide_eq_true (by omega)
          go_enter Tryd.func21, Tryd.ntmps21
          go_wp2_with fail
          rw [Hw0.out]
          go_ret
          first
          | exact ⟨.inl rfl, hbw0⟩
          | exact ⟨.inr rfl, hbw0⟩
          | exact ⟨⟨_, rfl⟩, hbw0⟩
          | exact ⟨_, rfl, hbw0⟩
      · have r1 : decide (sShapeBlocks ≤ 64) = true := decide_eq_true q1
        have r2 : decide (sShapeSize ≤ 64) = true := decide_eq_true q2
        have r3 : decide ((sPagesn : Int) ≤ 70) = false := decide_eq_false (by omega)
        go_enter Tryd.func21, Tryd.ntmps21
        go_wp2_with fail
        rw [Hw0.out]
        go_ret
        first
          | exact ⟨.inl rfl, hbw0⟩
          | exact ⟨.inr rfl, hbw0⟩
          | exact ⟨⟨_, rfl⟩, hbw0⟩
          | exact ⟨_, rfl, hbw0⟩
    · have r1 : decide (sShapeBlocks ≤ 64) = true := decide_eq_true q1
      have r2 : decide (sShapeSize ≤ 64) = false := decide_eq_false q2
      go_enter Tryd.func21, Tryd.ntmps21
      go_wp2_with fail
      rw [Hw0.out]
      go_ret
      first
          | exact ⟨.inl rfl, hbw0⟩
          | exact ⟨.inr rfl, hbw0⟩
          | exact ⟨⟨_, rfl⟩, hbw0⟩
          | exact ⟨_, rfl, hbw0⟩
  · have r1 : decide (sShapeBlocks ≤ 64) = false := decide_eq_false q1
    go_enter Tryd.func21, Tryd.ntmps21
    go_wp2_with fail
    rw [Hw0.out]
    go_ret
    first
          | exact ⟨.inl rfl, hbw0⟩
          | exact ⟨.inr rfl, hbw0⟩
          | exact ⟨⟨_, rfl⟩, hbw0⟩
          | exact ⟨_, rfl, hbw0⟩
theorem set_split {ps : List PageD} {i : Nat} {p0 p : PageD} (h : ps[i]? = some p0) : ps = ps.take i ++ p0 :: ps.drop (i + 1) ∧ ps.set i p = ps.take i ++ p :: ps.drop (i + 1) := by
  obtain ⟨hi, hp⟩ := List.getElem?_eq_some_iff.1 h
  have h1 : ps = ps.take i ++ p0 :: ps.drop (i + 1) := by
    conv => lhs; rw [← List.take_append_drop i ps, List.drop_eq_getElem_cons hi, hp]
  refine ⟨h1, ?_⟩
  rw [List.set_eq_take_append_cons_drop, if_pos hi]
theorem sel_set {ps : List PageD} {i : Nat} {p0 p : PageD} (h : ps[i]? = some p0) (hp : p.1 = p0.1) (ha : ps.Pairwise (fun p q => p.1 < q.1)) (j : Int) : selS j none (ps.set i p) = if j = p0.1 then some p else selS j none ps := by
  obtain ⟨h1, h2⟩ := set_split (p := p) h
  rw [h2]
  by_cases hj : j = p0.1
  · rw [if_pos hj]
    rw [h1] at ha
    have := (List.pairwise_append.1 ha).2.1
    rw [List.pairwise_cons] at this
    exact selS_at none (by rw [hp, hj]) (fun q hq => by have := this.1 q hq; omega)
  · rw [if_neg hj]
    conv => rhs; rw [h1]
    rw [selS_append, selS_append]
    show selS j (if p.1 = j then some p else _) _ = selS j (if p0.1 = j then some p0 else _) _
    rw [if_neg (by rw [hp]; exact fun e => hj e.symm), if_neg (fun e => hj e.symm)]
/-- The digests of a state whose page is another one. -/
theorem ofL_set {num b z : Int} {ps : List PageD} {rows : List RowD} {g : GroupD} {i : Nat} {p0 p : PageD} (h : ps[i]? = some p0) (hp : p.1 = p0.1) (h0 : 0 ≤ p0.1) (ha : ps.Pairwise (fun p q => p.1 < q.1)) :
    ofL (num, (b, z), ps.set i p, rows, g) = (ofL (num, (b, z), ps, rows, g)).set p0.1.toNat (leafN p.1 p.2.1 p.2.2) := by
  apply List.ext_getElem?
  intro j
  rw [List.getElem?_set]
  by_cases hj : j < b.toNat
  · rw [ofL_get (x := (num, (b, z), ps.set i p, rows, g)) hj]
    show some (leafS z (selS (j : Int) none (ps.set i p)) (j : Int)) = _
    rw [sel_set h hp ha]
    by_cases he : p0.1.toNat = j
    · rw [if_pos he, if_pos (by omega), if_pos (by rw [ofL_length]; show p0.1.toNat < b.toNat; omega)]
      rfl
    · rw [if_neg he, if_neg (by omega), ofL_get (x := (num, (b, z), ps, rows, g)) hj]
  · have hn : ∀ y : StateD, y.2.1.1 = b → (ofL y)[j]? = none := fun y hy => List.getElem?_eq_none (by rw [ofL_length, hy]; omega)
    rw [hn _ rfl, hn _ rfl]
    by_cases he : p0.1.toNat = j
    · rw [if_pos he, if_neg (by rw [ofL_length]; show ¬ p0.1.toNat < b.toNat; omega)]
    · rw [if_neg he]
/-- A row of pages, one of them another. -/
theorem rows_set {w : World} {Q : Nat → Prop} {ps : List PageD} {vs : List Value} {i : Nat} {p : PageD} {c0 c1 c2 : Value} (h : tyPage.Rows w Q ps vs) (hp : tyPage.Is w Q p [c0, c1, c2]) : tyPage.Rows w Q (ps.set i p) (((vs.set (3 * i) c0).set (3 * i + 1) c1).set (3 * i + 2) c2) := by
  refine ⟨by simp only [List.length_set]; exact h.1, fun j x hx => ?_⟩
  have hl : vs.length = 3 * ps.length := h.1
  show tyPage.Is w Q x (((((vs.set (3 * i) c0).set (3 * i + 1) c1).set (3 * i + 2) c2).drop (3 * j)).take 3)
  rw [List.getElem?_set] at hx
  by_cases hij : i = j
  · subst hij
    rw [if_pos rfl] at hx
    split at hx
    · rename_i hi
      injection hx with hx
      subst hx
      rw [show ((((vs.set (3 * i) c0).set (3 * i + 1) c1).set (3 * i + 2) c2).drop (3 * i)).take 3 = [c0, c1, c2] from by
        apply List.ext_getElem?
        intro q
        rw [List.getElem?_take, List.getElem?_drop]
        rcases (show q = 0 ∨ q = 1 ∨ q = 2 ∨ 3 ≤ q by omega) with rfl | rfl | rfl | hq
        · rw [if_pos (by omega), List.getElem?_set_ne (by omega), List.getElem?_set_ne (by omega), Nat.add_zero, List.getElem?_set_self (by omega)]; rfl
        · rw [if_pos (by omega), List.getElem?_set_ne (by omega), List.getElem?_set_self (by rw [List.length_set]; omega)]; rfl
        · rw [if_pos (by omega), List.getElem?_set_self (by rw [List.length_set, List.length_set]; omega)]; rfl
        · rw [if_neg (by omega), List.getElem?_eq_none (by simpa using hq)]]
      exact hp
    · cases hx
  · rw [if_neg hij] at hx
    rw [show ((((vs.set (3 * i) c0).set (3 * i + 1) c1).set (3 * i + 2) c2).drop (3 * j)).take 3 = (vs.drop (3 * j)).take 3 from by
      apply List.ext_getElem?
      intro q
      rw [List.getElem?_take, List.getElem?_drop, List.getElem?_take, List.getElem?_drop]
      by_cases hq : q < 3
      · rw [if_pos hq, if_pos hq, List.getElem?_set_ne (by omega), List.getElem?_set_ne (by omega), List.getElem?_set_ne (by omega)]
      · rw [if_neg hq, if_neg hq]]
    exact h.2 j x hx
theorem tPagesT : SlT Tryd.prog 42 24 3 40 := slT_mk Tryd.underlying42 (z := .agg #[.int .i64 0, .int .i64 0, .slice none 0 0]) (by kernel_rfl) rfl (by decide)
theorem plE_put2 {l : List Nat} {z : Nat} (h2 : l.length ≤ 4096) (hz : z < l.length) (x : Nat) : plE (treeD l) (z : Int) = 0 ∧ putT (treeD l) (z : Int) x = treeD (l.set z x) := by
  have h := plE_tree (l := l) (i := z) h2 hz
  refine ⟨h, ?_⟩
  unfold putT
  rw [if_pos h]
  obtain ⟨r, hr⟩ := treeD_head l
  rw [hr]
  rfl
theorem asc_len {b : Int} : ∀ (ps : List PageD) (lo : Int), ps.Pairwise (fun p q => p.1 < q.1) → (∀ p ∈ ps, lo ≤ p.1 ∧ p.1 < b) → ps.length ≤ (b - lo).toNat
  | [], _, _, _ => Nat.zero_le _
  | p :: r, lo, ha, h => by
    rw [List.pairwise_cons] at ha
    have h0 := h p (by simp)
    obtain ⟨lo', hlo⟩ : ∃ lo' : Int, lo' = p.1 + 1 := ⟨_, rfl⟩
    have hr : ∀ q ∈ r, lo' ≤ q.1 ∧ q.1 < b := fun q hq => by
      have k1 : p.1 < q.1 := ha.1 q hq
      have k2 := (h q (List.mem_cons_of_mem _ hq)).2
      exact ⟨by omega, k2⟩
    have := asc_len r lo' ha.2 hr
    rw [List.length_cons]
    omega
/-- A row of the call's own, as a block. -/
theorem own_blk3 {w : World} {base n : Nat} {v : Value} {xs : List Value} (h : w.ownsRow base 24 3 v n xs) (hn : 0 < n) : ∃ (g c : Nat) (L : List Value), v = .slice (some ⟨g, 0, none⟩) n c ∧ base ≤ g ∧ Blk w g L 24 ∧ L.take (n * 3) = xs ∧ n ≤ c ∧ c ≤ maxLen := by
  rcases h.2 with ⟨h1, h2, h3⟩ | ⟨g, cap, cur, rfl, hb, hg, h1, h2, h3, h4⟩
  · omega
  · refine ⟨g, cap, cur.toList, rfl, hb, ?_, h4, h1, h2⟩
    unfold Blk
    simpa using hg
theorem rd_blk3 {w : World} {g m : Nat} {L : List Value} (h : Blk w g L 24) : Rd w (some ⟨g, 0, none⟩) (L.take m) := fun j u hu => by
  rw [List.getElem?_take] at hu
  split at hu
  · refine ⟨_, rfl, ?_⟩
    rw [show (⟨g, 0, none⟩ : Addr).add j = ⟨g, j, none⟩ from by unfold Addr.add; split <;> simp_all]
    exact h.cell hu
  · cases hu
set_option maxRecDepth 100000 in
set_option maxHeartbeats 6400000 in
theorem treePuts_walk {w : World} {Q : Nat → Prop} {x : StateD} {cs : List Value} (pg : Nat) (D : Option Addr) (dn dc : Nat) (ds : List UInt8) (ver : Int) (h : tyState.Is w Q x cs) (ht : Tab w) (hpg : pg < 256) (hdn : ds.length = dn) (hdc : dn ≤ dc) (hd63 : dc ≤ 9223372036854775807) (hrd : Rd w D (bys ds)) (hv1 : -9223372036854775808 ≤ ver) (hv2 : ver ≤ 9223372036854775807) :
    Calls Tryd.prog 11 #[.agg cs.toArray, .int .u8 (pg : Int), .slice D dn dc, .int .i64 ver] w fun e w' => e = .returned (.bool true) ∧ Below w.heap.size w w' := by
  replace h := h.mono (Q' := fun _ => True) (fun _ _ => trivial)
  have hI := h
  obtain ⟨sNum, sShapeBlocks, sShapeSize, sPages, sPagesA, sPagesn, sPagesc, sPagesv, sRows, sRowsA, sRowsn, sRowsc, sRowsv, sGroupEpoch, sGroupMembers, sGroupMembersA, sGroupMembersn, sGroupMembersc, sGroupMembersv, rfl, rfl, h1_sNum, h2_sNum, h1_sShapeBlocks, h2_sShapeBlocks, h1_sShapeSize, h2_sShapeSize, hl_sPages, hc_sPages, hm_sPages, hr_sPages, hq_sPages, he_sPages, hl_sRows, hc_sRows, hm_sRows, hr_sRows, hq_sRows, he_sRows, h1_sGroupEpoch, h2_sGroupEpoch, hl_sGroupMembers, hc_sGroupMembers, hm_sGroupMembers, hr_sGroupMembers, hq_sGroupMembers, he_sGroupMembers⟩ := State_out h
  obtain ⟨w0, hw0⟩ : ∃ x, w.alloc (.cells #[.int .i64 sNum, .int .i64 sShapeBlocks, .int .i64 sShapeSize, .slice sPagesA sPagesn sPagesc, .slice sRowsA sRowsn sRowsc, .int .i64 sGroupEpoch, .slice sGroupMembersA sGroupMembersn sGroupMembersc] 48) = x := ⟨_, rfl⟩; have hBw0 : Blk w0 w.heap.size [.int .i64 sNum, .int .i64 sShapeBlocks, .int .i64 sShapeSize, .slice sPagesA sPagesn sPagesc, .slice sRowsA sRowsn sRowsc, .int .i64 sGroupEpoch, .slice sGroupMembersA sGroupMembersn sGroupMembersc] 48 := (by rw [← hw0]; exact Blk.new w [.int .i64 sNum, .int .i64 sShapeBlocks, .int .i64 sShapeSize, .slice sPagesA sPagesn sPagesc, .slice sRowsA sRowsn sRowsc, .int .i64 sGroupEpoch, .slice sGroupMembersA sGroupMembersn sGroupMembersc] _); have hbw0 : Below w.heap.size w w0 := (by rw [← hw0]; exact (Below.refl _ _).alloc (Nat.le_refl _) _); have Hw0 := hide hw0; clear hw0
  have hI0 := hI.below hbw0
  have ht0 : Tab w0 := Rd.below ht hbw0
  have SM := hide (fun (X : World) (hX : Below w0.heap.size w0 X) => small_any2 (hI0.below hX))
  have RS := hide (fun (X : World) (hX : Below w0.heap.size w0 X) => rstate_any (hI0.below hX))
  have T1 := hide (fun (X : World) (hX : Below w0.heap.size w0 X) => tof_any (hI0.below hX) (Rd.below ht0 hX))
  have HB := hide hBw0
  have AW := hide (awake_any w0 ht0)
  have HrP := hide (hr_sPages.below hbw0)
  have HeP := hide (he_sPages.below hbw0)
  have HlP := hide hl_sPages
  have Hrd := hide (hrd.below hbw0)
  have hSF := fun (hs : stateB (sNum, (sShapeBlocks, sShapeSize), sPages, sRows, (sGroupEpoch, sGroupMembers)) = true) => state_facts hs
  have HSF := hide hSF
  have hst : ∀ hs : stateB (sNum, (sShapeBlocks, sShapeSize), sPages, sRows, (sGroupEpoch, sGroupMembers)) = true, True := fun _ => trivial
  clear hI hI0 ht hSF hst hrd hBw0 hl_sPages
  go_enter Tryd.func11, Tryd.ntmps11
  go_wp2_with fail
  rw [Hw0.out]
  go_fit AW.out
  rintro e w1 ⟨rfl, hb1⟩
  have hB1 := HB.out.below hb1
  have y0 := Blk.cell hB1 (j := 0) rfl; have y1 := Blk.cell hB1 (j := 1) rfl; have y2 := Blk.cell hB1 (j := 2) rfl; have y3 := Blk.cell hB1 (j := 3) rfl; have y4 := Blk.cell hB1 (j := 4) rfl; have y5 := Blk.cell hB1 (j := 5) rfl; have y6 := Blk.cell hB1 (j := 6) rfl
  clear hB1
  go_wp2_with fail
  go_fit (SM.out w1 hb1)
  rintro e w2 ⟨r, rfl, hb2'⟩
  have hb2 := hb1.trans (hb2'.mono hb1.size)
  have hbz2 := hbw0.trans (hb2.mono hbw0.size)
  clear y0 y1 y2 y3 y4 y5 y6 SM AW
  cases r with
  | false =>
    go_wp2
    go_ret
    exact ⟨rfl, hbz2⟩
  | true =>
    have hB2 := HB.out.below hb2
    have y0 := Blk.cell hB2 (j := 0) rfl; have y1 := Blk.cell hB2 (j := 1) rfl; have y2 := Blk.cell hB2 (j := 2) rfl; have y3 := Blk.cell hB2 (j := 3) rfl; have y4 := Blk.cell hB2 (j := 4) rfl; have y5 := Blk.cell hB2 (j := 5) rfl; have y6 := Blk.cell hB2 (j := 6) rfl
    clear hB2
    go_wp2_with fail
    go_fit (RS.out w2 hb2)
    rintro e w3 ⟨rfl, hb3'⟩
    have hb3 := hb2.trans (hb3'.mono hb2.size)
    have hbz3 := hbw0.trans (hb3.mono hbw0.size)
    have HB3 := HB.out.below hb3
    clear y0 y1 y2 y3 y4 y5 y6 hbz2
    cases hs : stateB (sNum, (sShapeBlocks, sShapeSize), sPages, sRows, (sGroupEpoch, sGroupMembers)) with
    | false =>
      rw [stE_no hs]
      clear HB3
      go_wp2
      go_ret
      exact ⟨rfl, hbz3⟩
    | true =>
      rw [stE_ok hs]
      obtain ⟨⟨f1, f2⟩, ⟨f3, f4⟩, f5, f6⟩ := HSF.out hs
      try dsimp only at f1 f2 f3 f4 f5 f6
      have y0 := Blk.cell HB3 (j := 0) rfl; have y1 := Blk.cell HB3 (j := 1) rfl; have y2 := Blk.cell HB3 (j := 2) rfl; have y3 := Blk.cell HB3 (j := 3) rfl; have y4 := Blk.cell HB3 (j := 4) rfl; have y5 := Blk.cell HB3 (j := 5) rfl; have y6 := Blk.cell HB3 (j := 6) rfl
      by_cases hn0 : sPagesn = 0
      · have q0 : ((sPagesn : Int) == 0) = true := by simp [hn0]
        go_wp2
        go_ret
        exact ⟨rfl, hbz3⟩
      · have q0 : ((sPagesn : Int) == 0) = false := by simp [hn0]
        by_cases hd1 : 100 < dn
        · have q1 : decide ((100 : Int) < (dn : Int)) = true := decide_eq_true (by omega)
          go_wp2
          go_ret
          exact ⟨rfl, hbz3⟩
        · have q1 : decide ((100 : Int) < (dn : Int)) = false := decide_eq_false (by omega)
          have hn4 : sPagesn ≤ 4096 := by
            have h1 := asc_len sPages 0 f6 (fun p hp => by have := f5 p hp; exact ⟨this.1, this.2.1⟩)
            rw [HlP.out] at h1
            omega
          obtain ⟨q, hq⟩ : ∃ q, pg % sPagesn = q := ⟨_, rfl⟩
          have hqn : q < sPagesn := by rw [← hq]; exact Nat.mod_lt _ (by omega)
          have hqI : (pg : Int) % (sPagesn : Int) = (q : Int) := by rw [← hq]; rfl
          obtain ⟨w4, hw4⟩ : ∃ y, w3.alloc (.cells #[.int .i64 sNum, .int .i64 sShapeBlocks, .int .i64 sShapeSize, .slice sPagesA sPagesn sPagesc, .slice sRowsA sRowsn sRowsc, .int .i64 sGroupEpoch, .slice sGroupMembersA sGroupMembersn sGroupMembersc] 48) = y := ⟨_, rfl⟩
          have hb34 : Below w3.heap.size w3 w4 := by rw [← hw4]; exact (Below.refl _ _).alloc (Nat.le_refl _) _
          have hb4 := hb3.trans (hb34.mono hb3.size)
          have B10 : Blk w4 w3.heap.size [.int .i64 sNum, .int .i64 sShapeBlocks, .int .i64 sShapeSize, .slice sPagesA sPagesn sPagesc, .slice sRowsA sRowsn sRowsc, .int .i64 sGroupEpoch, .slice sGroupMembersA sGroupMembersn sGroupMembersc] 48 := by rw [← hw4]; exact Blk.new w3 [.int .i64 sNum, .int .i64 sShapeBlocks, .int .i64 sShapeSize, .slice sPagesA sPagesn sPagesc, .slice sRowsA sRowsn sRowsc, .int .i64 sGroupEpoch, .slice sGroupMembersA sGroupMembersn sGroupMembersc] _
          have z3 := ((HB.out.below hb4).alloc (.cells #[] 24)).cell (j := 3) rfl
          have hzw4 : w4.heap.size = w3.heap.size + 1 := by rw [← hw4]; exact World.size_alloc _ _
          rw [← hw4] at z3
          have Hw4 := hide hw4
          have Hz4 := hide hzw4
          clear hw4 hq hzw4
          go_wp2_with (first | (with_reducible refine stop_append rfl ?_) | (with_reducible refine stop_copy rfl ?_) | (with_reducible refine stop_make rfl ?_))
          try rw [Hw4.out]
          rw [← Hz4.out]
          refine (Grow.empty w4 _ _).append rfl rfl tPagesT rfl rfl (m := sPagesn) (by have h0 := HeP.out.1; have h1 := HlP.out; rw [h1] at h0; rw [h0]; exact Nat.mul_comm _ _) ((HrP.out.below hb4).alloc _) (Ty.Rows.ones (HeP.out.below hb4)) (by omega) (by omega) ?_
          intro v1 w6 hG1 _
          rw [Nat.zero_add, List.nil_append] at hG1
          obtain ⟨g, c1, L, rfl, hgb, BL, hLx, hc1, hcm1⟩ := own_blk3 hG1.owns (by omega)
          have hb46 : Below w4.heap.size w4 w6 := hG1.emptyAll
          have hb6 := hb4.trans (hb46.mono hb4.size)
          have B10' := B10.below hb46
          obtain ⟨b10, hb10⟩ : ∃ y, w3.heap.size = y := ⟨_, rfl⟩
          have hz4 := Hz4.out
          rw [hb10] at B10 B10' hz4
          have d10 := B10'.cell (j := 3) rfl
          have fr10 := B10'.frozen 3
          obtain ⟨W7, hW7⟩ : ∃ y, w6.setCell ⟨b10, 3, none⟩ (.slice (some ⟨g, 0, none⟩) sPagesn c1) = y := ⟨_, rfl⟩
          have fW7 : Fr (fun b => b = b10) w6 W7 := by rw [← hW7]; exact Fr.set _ _ _ rfl
          have B107 : Blk W7 b10 [.int .i64 sNum, .int .i64 sShapeBlocks, .int .i64 sShapeSize, .slice (some ⟨g, 0, none⟩) sPagesn c1, .slice sRowsA sRowsn sRowsc, .int .i64 sGroupEpoch, .slice sGroupMembersA sGroupMembersn sGroupMembersc] 48 := by rw [← hW7]; exact B10'.set 3 _
          have BL7 := BL.fr fW7 (by omega)
          have hz3 := hb3.size
          have B47 := (HB.out.below hb6).fr fW7 (by have := HB.out.lt; omega)
          have hF7 : Below w0.heap.size w0 W7 := fW7.below hb6 (by have := hb6.size; omega) (fun k hk => by omega)
          have HW7 := hide hW7
          clear hW7 z3 y0 y1 y2 y3 y4 y5 y6 hG1
          go_wp2_with fail
          try rw [HW7.out]
          have hq3 : 3 * q + 2 < sPagesv.length := by have h0 := HeP.out.1; have h1 := HlP.out; rw [h1] at h0; rw [h0]; show 3 * q + 2 < 3 * sPagesn; omega
          have hpk : ∃ p0, sPages[q]? = some p0 := ⟨_, List.getElem?_eq_getElem (by rw [HlP.out]; exact hqn)⟩
          obtain ⟨p0, hp0⟩ := hpk
          obtain ⟨A', n', c', h1, h2, h3, h4, h5, h6, h7, _⟩ := (pg_of HeP.out).2 q p0 hp0
          obtain ⟨a, ha, hat⟩ := ((HrP.out.below hb6).fr fW7 (fun hne ad had hx => by have := rd_block HrP.out hne ad had; omega)).some_of (xs := sPagesv) (by omega)
          subst ha
          have cA := rd3_0 hat h1
          have hS0 : (W7.drew.cell? ⟨w.heap.size, 3, none⟩ = some (.slice (some a) sPagesn sPagesc) ∧ W7.drew.cell? ⟨b10, 3, none⟩ = some (.slice (some ⟨g, 0, none⟩) sPagesn c1) ∧ W7.drew.cell? (a.add (q * 3)) = some (.int .i64 p0.1)) := ⟨B47.cell (j := 3) rfl, B107.cell (j := 3) rfl, cA⟩
          refine wp_region_held_drew (S := fun Z => Z.cell? ⟨w.heap.size, 3, none⟩ = some (.slice (some a) sPagesn sPagesc) ∧ Z.cell? ⟨b10, 3, none⟩ = some (.slice (some ⟨g, 0, none⟩) sPagesn c1) ∧ Z.cell? (a.add (q * 3)) = some (.int .i64 p0.1)) (by kernel_rfl) hS0 (fun _ => ?_)
          refine wpAnyH_take (fuel := 13) (i := 0) (v := .pointer (some ⟨b10, 3, none⟩)) rfl (by kernel_rfl) (by kernel_rfl) (by kernel_rfl) (fun _ _ _ h => h) (Or.inl ⟨by rfl, fun Z hZ => ?_⟩) hS0 ?_
          · obtain ⟨z1, z2, z3⟩ := hZ
            go_simp
          refine wpAnyH_take (i := 1) (v := .slice (some ⟨g, 0, none⟩) sPagesn c1) rfl (by kernel_rfl) (by kernel_rfl) (by kernel_rfl) (fun _ _ _ h => h) (Or.inl ⟨by rfl, fun Z hZ => ?_⟩) hS0 ?_
          · obtain ⟨z1, z2, z3⟩ := hZ
            go_simp
          refine wpAnyH_take (i := 2) (v := .int .i64 (q : Int)) rfl (by kernel_rfl) (by kernel_rfl) (by kernel_rfl) (fun _ _ _ h => h) (Or.inl ⟨by rfl, fun Z hZ => ?_⟩) hS0 ?_
          · obtain ⟨z1, z2, z3⟩ := hZ
            go_simp
          refine wpAnyH_take (i := 3) (v := .pointer (some ⟨w.heap.size, 3, none⟩)) rfl (by kernel_rfl) (by kernel_rfl) (by kernel_rfl) (fun _ _ _ h => h) (Or.inl ⟨by rfl, fun Z hZ => ?_⟩) hS0 ?_
          · obtain ⟨z1, z2, z3⟩ := hZ
            go_simp
          refine wpAnyH_take (i := 4) (v := .slice (some a) sPagesn sPagesc) rfl (by kernel_rfl) (by kernel_rfl) (by kernel_rfl) (fun _ _ _ h => h) (Or.inl ⟨by rfl, fun Z hZ => ?_⟩) hS0 ?_
          · obtain ⟨z1, z2, z3⟩ := hZ
            go_simp
          refine wpAnyH_take (i := 5) (v := .int .i64 (q : Int)) rfl (by kernel_rfl) (by kernel_rfl) (by kernel_rfl) (fun _ _ _ h => h) (Or.inl ⟨by rfl, fun Z hZ => ?_⟩) hS0 ?_
          · obtain ⟨z1, z2, z3⟩ := hZ
            go_simp
          refine wpAnyH_take (i := 6) (v := .pointer (some (a.add (q * 3)))) rfl (by kernel_rfl) (by kernel_rfl) (by kernel_rfl) (fun _ _ _ h => h) (Or.inl ⟨by rfl, fun Z hZ => ?_⟩) hS0 ?_
          · obtain ⟨z1, z2, z3⟩ := hZ
            go_simp
          refine wpAnyH_take (i := 7) (v := .pointer (some (a.add (q * 3)))) rfl (by kernel_rfl) (by kernel_rfl) (by kernel_rfl) (fun _ _ _ h => h) (Or.inl ⟨by rfl, fun Z hZ => ?_⟩) hS0 ?_
          · obtain ⟨z1, z2, z3⟩ := hZ
            go_simp
          refine wpAnyH_take (i := 8) (v := .int .i64 p0.1) rfl (by kernel_rfl) (by kernel_rfl) (by kernel_rfl) (fun _ _ _ h => h) (Or.inl ⟨by rfl, fun Z hZ => ?_⟩) hS0 ?_
          · obtain ⟨z1, z2, z3⟩ := hZ
            go_simp
          refine wpAnyH_take (i := 9) (v := .int .i64 ver) rfl (by kernel_rfl) (by kernel_rfl) (by kernel_rfl) (fun _ _ _ h => h) (Or.inl ⟨by rfl, fun Z hZ => ?_⟩) hS0 ?_
          · obtain ⟨z1, z2, z3⟩ := hZ
            go_simp
          refine wpAnyH_take (i := 10) (v := .slice D dn dc) rfl (by kernel_rfl) (by kernel_rfl) (by kernel_rfl) (fun _ _ _ h => h) (Or.inl ⟨by rfl, fun Z hZ => ?_⟩) hS0 ?_
          · obtain ⟨z1, z2, z3⟩ := hZ
            go_simp
          refine wpAnyH_take (i := 11) (v := .agg #[.int .i64 p0.1, .int .i64 ver, .slice D dn dc]) rfl (by kernel_rfl) (by kernel_rfl) (by kernel_rfl) (fun _ _ _ h => h) (Or.inl ⟨by rfl, fun Z hZ => ?_⟩) hS0 ?_
          · obtain ⟨z1, z2, z3⟩ := hZ
            go_simp
          refine wpAnyH_take (i := 12) (v := .pointer (some ⟨g, q * 3, none⟩)) rfl (by kernel_rfl) (by kernel_rfl) (by kernel_rfl) (fun _ _ _ h => h) (Or.inl ⟨by rfl, fun Z hZ => ?_⟩) hS0 ?_
          · obtain ⟨z1, z2, z3⟩ := hZ
            go_simp
          have hLj : ∀ j, j < sPagesn * 3 → ∀ u, sPagesv[j]? = some u → L[j]? = some u := fun j hj u hu => by
            rw [← hLx, List.getElem?_take, if_pos hj] at hu
            exact hu
          have k0 := BL7.cell (j := q * 3) (hLj _ (by omega) _ (by rw [Nat.mul_comm]; exact h1))
          have k1 := BL7.cell (j := q * 3 + 1) (hLj _ (by omega) _ (by rw [Nat.mul_comm]; exact h2))
          have k2 := BL7.cell (j := q * 3 + 2) (hLj _ (by omega) _ (by rw [Nat.mul_comm]; exact h3))
          have r0 := BL7.frozen (q * 3)
          have r1 := BL7.frozen (q * 3 + 1)
          have r2 := BL7.frozen (q * 3 + 2)
          obtain ⟨W8, hW8⟩ : ∃ y, (((W7.setCell ⟨g, q * 3, none⟩ (.int .i64 p0.1)).setCell ⟨g, q * 3 + 1, none⟩ (.int .i64 ver)).setCell ⟨g, q * 3 + 2, none⟩ (.slice D dn dc)).drew = y := ⟨_, rfl⟩
          have fW8 : Fr (fun b => b = g) W7 W8 := by rw [← hW8]; exact (((Fr.set (X := fun b => b = g) W7 _ _ rfl).trans (Fr.set _ _ _ rfl)).trans (Fr.set _ _ _ rfl)).drew
          have BL8 : Blk W8 g (((L.set (q * 3) (.int .i64 p0.1)).set (q * 3 + 1) (.int .i64 ver)).set (q * 3 + 2) (.slice D dn dc)) 24 := by rw [← hW8]; exact (show Blk (((W7.setCell ⟨g, q * 3, none⟩ (.int .i64 p0.1)).setCell ⟨g, q * 3 + 1, none⟩ (.int .i64 ver)).setCell ⟨g, q * 3 + 2, none⟩ (.slice D dn dc)) g _ _ from ((BL7.set _ _).set _ _).set _ _)
          have hagb : a.block < w0.heap.size := rd_block HrP.out (fun e => by rw [e] at hq3; simp at hq3) a rfl
          have hgw0 : w0.heap.size ≤ g := by have := hb4.size; omega
          have hb10w : w0.heap.size ≤ b10 := by omega
          have hS8 : (W8.cell? ⟨w.heap.size, 3, none⟩ = some (.slice (some a) sPagesn sPagesc) ∧ W8.cell? ⟨b10, 3, none⟩ = some (.slice (some ⟨g, 0, none⟩) sPagesn c1) ∧ W8.cell? (a.add (q * 3)) = some (.int .i64 p0.1)) := ⟨(B47.fr fW8 (by have := HB.out.lt; omega)).cell (j := 3) rfl, (B107.fr fW8 (by omega)).cell (j := 3) rfl, fW8.cell cA (by rw [add_block]; omega)⟩
          refine all_one (fuel := 0) (i := 13) (by kernel_rfl) rfl rfl (fun Kk hK => ?_)
          go_simp
          try rw [hW8]
          refine hK _ _ ⟨hS8, ?_⟩
          clear hK Kk
          refine wpAnyH_done (by kernel_rfl) ?_ _
          have hb8 : Below w0.heap.size w0 W8 := fW8.below hF7 (by have := hF7.size; omega) (fun k hk => by omega)
          have hbw8 := hbw0.trans (hb8.mono hbw0.size)
          have B108 := B107.fr fW8 (by omega)
          have hpr := he_sPages.ones
          have hrn : Rd W8 (some ⟨g, 0, none⟩) (((sPagesv.set (3 * q) (.int .i64 p0.1)).set (3 * q + 1) (.int .i64 ver)).set (3 * q + 2) (.slice D dn dc)) := by
            have h0 := rd_blk3 (m := sPagesn * 3) BL8
            rw [List.take_set, List.take_set, List.take_set, hLx, Nat.mul_comm q 3] at h0
            exact h0
          have hpm : sPages[q]? = some p0 := hp0
          have hp5 := f5 p0 (List.mem_of_getElem? hp0)
          have hI8 : tyState.Is W8 (fun _ => True) (sNum, (sShapeBlocks, sShapeSize), sPages.set q (p0.1, ver, ds), sRows, (sGroupEpoch, sGroupMembers)) [.int .i64 sNum, .int .i64 sShapeBlocks, .int .i64 sShapeSize, .slice (some ⟨g, 0, none⟩) sPagesn c1, .slice sRowsA sRowsn sRowsc, .int .i64 sGroupEpoch, .slice sGroupMembersA sGroupMembersn sGroupMembersc] :=
            State_mk (by assumption) (by assumption) (by assumption) (by assumption) (by assumption) (by assumption) (by rw [List.length_set]; exact HlP.out) hc1 (by unfold maxLen at hcm1; omega) hrn (fun _ _ _ => trivial) (rows_set (he_sPages.below hbw8) (Page_mk (by omega) (by omega) hv1 hv2 hdn hdc hd63 (Hrd.out.below hb8) (fun _ _ _ => trivial)))
              hl_sRows hc_sRows hm_sRows (hr_sRows.below hbw8) (fun _ _ _ => trivial) (he_sRows.below hbw8) (by assumption) (by assumption) hl_sGroupMembers hc_sGroupMembers hm_sGroupMembers (hr_sGroupMembers.below hbw8) (fun _ _ _ => trivial) (he_sGroupMembers.below hbw8)
          have HI8 := hide hI8
          have hRS := hide (rstate_any hI8)
          obtain ⟨z, hz⟩ : ∃ z : Nat, p0.1 = (z : Int) := ⟨p0.1.toNat, by omega⟩
          have HOL := hide (ofL_set (num := sNum) (b := sShapeBlocks) (z := sShapeSize) (rows := sRows) (g := (sGroupEpoch, sGroupMembers)) (p := (p0.1, ver, ds)) hp0 rfl hp5.1 f6)
          have hOlen := ofL_length (sNum, (sShapeBlocks, sShapeSize), sPages, sRows, (sGroupEpoch, sGroupMembers))
          have hOlt := ofL_lt (sNum, (sShapeBlocks, sShapeSize), sPages, sRows, (sGroupEpoch, sGroupMembers))
          have HT1 := fun (X : World) (hX : Below w0.heap.size w0 X) => by
            have h0 := T1.out X hX
            unfold ofE ofT at h0
            rw [if_pos hs, if_pos hs] at h0
            exact h0
          have HT2 := fun (hs8 : stateB (sNum, (sShapeBlocks, sShapeSize), sPages.set q (p0.1, ver, ds), sRows, (sGroupEpoch, sGroupMembers)) = true) (X : World) (hX : Below W8.heap.size W8 X) => tof_yes (HI8.out.below hX) (Rd.below (Rd.below ht0 hb8) hX) hs8
          rw [HOL.out] at HT2
          obtain ⟨OL, hOL⟩ : ∃ y, ofL (sNum, (sShapeBlocks, sShapeSize), sPages, sRows, (sGroupEpoch, sGroupMembers)) = y := ⟨_, rfl⟩
          rw [hOL] at HT1 HT2 hOlen hOlt
          have hLV := leafN_lt p0.1 ver ds
          obtain ⟨LV, hLVe⟩ : ∃ y, leafN p0.1 ver ds = y := ⟨_, rfl⟩
          have HLF := hide (fun (X : World) (hX : Below w0.heap.size w0 X) => leaf_any p0.1 ver D dn dc ds X hdn hdc (by omega) hd63 (Hrd.out.below hX) (Rd.below ht0 hX))
          dsimp only at HT2 hOlen
          rw [hLVe] at HT2 hLV HLF
          rw [hz] at HT2 HLF
          rw [show (z : Int).toNat = z from rfl] at HT2
          have hzO : z < OL.length := by rw [hOlen]; omega
          have hO4 : OL.length ≤ 4096 := by rw [hOlen]; omega
          have hpp := plE_put2 (l := OL) (z := z) hO4 hzO LV
          replace HT1 := hide HT1
          replace HT2 := hide HT2
          have HP8 := hide B108
          have k0' := BL8.cell (j := q * 3) (v := .int .i64 p0.1) (by rw [List.getElem?_set_ne (by omega), List.getElem?_set_ne (by omega), List.getElem?_set_self (by have := hLj (q * 3) (by omega) _ (by rw [Nat.mul_comm]; exact h1); exact (List.getElem?_eq_some_iff.1 this).1)])
          have k1' := BL8.cell (j := q * 3 + 1) (v := .int .i64 ver) (by rw [List.getElem?_set_ne (by omega), List.getElem?_set_self (by rw [List.length_set]; have := hLj (q * 3 + 1) (by omega) _ (by rw [Nat.mul_comm]; exact h2); exact (List.getElem?_eq_some_iff.1 this).1)])
          have k2' := BL8.cell (j := q * 3 + 2) (v := .slice D dn dc) (by rw [List.getElem?_set_self (by rw [List.length_set, List.length_set]; have := hLj (q * 3 + 2) (by omega) _ (by rw [Nat.mul_comm]; exact h3); exact (List.getElem?_eq_some_iff.1 this).1)])
          have B48 := (B47.fr fW8 (by have := HB.out.lt; omega))
          rw [hz] at k0' hS8
          have HK := hide (And.intro k0' (And.intro k1' k2'))
          have HS8 := hide hS8
          have HBZ := hide hbw8
          have HB48 := hide B48
          have Hb8 := hide hb8
          clear hS0 hS8 k0 k1 k2 r0 r1 r2 k0' k1' k2' hLj BL7 BL8 fW8 fW7 B10 B10' B107 BL B47 hrn hI8 HI8 hpr HOL hOL hLVe cA hat h1 h2 h3 h7 B48 HW7 hW8 d10 fr10 T1 HSF HeP HrP HlP
          have y0 := Blk.cell B108 (j := 0) rfl; have y1 := Blk.cell B108 (j := 1) rfl; have y2 := Blk.cell B108 (j := 2) rfl; have y3 := Blk.cell B108 (j := 3) rfl; have y4 := Blk.cell B108 (j := 4) rfl; have y5 := Blk.cell B108 (j := 5) rfl; have y6 := Blk.cell B108 (j := 6) rfl
          clear B108
          go_wp2_with fail
          go_fit hRS.out
          rintro e' wA ⟨rfl, hbA⟩
          clear y0 y1 y2 y3 y4 y5 y6
          cases hs8 : stateB (sNum, (sShapeBlocks, sShapeSize), sPages.set q (p0.1, ver, ds), sRows, (sGroupEpoch, sGroupMembers)) with
          | false =>
            rw [stE_no hs8]
            go_wp2
            go_ret
            exact ⟨rfl, HBZ.out.trans (hbA.mono HBZ.out.size)⟩
          | true =>
            rw [stE_ok hs8]
            have HT3 := hide (HT2.out (by rw [← hz]; exact hs8))
            have hb0A := Hb8.out.trans (hbA.mono Hb8.out.size)
            have hA4 := HB48.out.below hbA
            have hA10 := HP8.out.below hbA
            have y0 := Blk.cell hA4 (j := 0) rfl; have y1 := Blk.cell hA4 (j := 1) rfl; have y2 := Blk.cell hA4 (j := 2) rfl; have y3 := Blk.cell hA4 (j := 3) rfl; have y4 := Blk.cell hA4 (j := 4) rfl; have y5 := Blk.cell hA4 (j := 5) rfl; have y6 := Blk.cell hA4 (j := 6) rfl
            clear hA4 hRS
            go_wp2_with fail
            go_fit (HT1.out wA hb0A)
            rintro e2 wB ⟨P, pn, pc, rfl, hP, hbB'⟩
            have hbB := hbA.trans (hbB'.mono hbA.size)
            obtain ⟨wC, hwC⟩ : ∃ y, wB.alloc (.cells #[.slice P pn pc] 29) = y := ⟨_, rfl⟩
            have hbBC : Below wB.heap.size wB wC := by rw [← hwC]; exact (Below.refl _ _).alloc (Nat.le_refl _) _
            have hbC := hbB.trans (hbBC.mono hbB.size)
            have B11 : Blk wC wB.heap.size [.slice P pn pc] 29 := by rw [← hwC]; exact Blk.new wB [.slice P pn pc] _
            have hC10 := HP8.out.below hbC
            rw [← hwC] at hC10
            have HwC := hide hwC
            have HP := hide (hP.below hbBC)
            clear hwC hP y0 y1 y2 y3 y4 y5 y6 hA10
            have y0 := Blk.cell hC10 (j := 0) rfl; have y1 := Blk.cell hC10 (j := 1) rfl; have y2 := Blk.cell hC10 (j := 2) rfl; have y3 := Blk.cell hC10 (j := 3) rfl; have y4 := Blk.cell hC10 (j := 4) rfl; have y5 := Blk.cell hC10 (j := 5) rfl; have y6 := Blk.cell hC10 (j := 6) rfl
            clear hC10
            go_wp2_with fail
            rw [HwC.out]
            go_fit (HT3.out wC hbC)
            rintro e3 wD ⟨R, rn, rc, rfl, hR, hbD'⟩
            have hbD := hbC.trans (hbD'.mono hbC.size)
            obtain ⟨X, hX⟩ : ∃ y, wD.alloc (.cells #[.slice R rn rc] 29) = y := ⟨_, rfl⟩
            have hbDX : Below wD.heap.size wD X := by rw [← hX]; exact (Below.refl _ _).alloc (Nat.le_refl _) _
            have hbX := hbD.trans (hbDX.mono hbD.size)
            have hbCX := hbD'.trans (hbDX.mono hbD'.size)
            have B13 : Blk X wD.heap.size [.slice R rn rc] 29 := by rw [← hX]; exact Blk.new wD [.slice R rn rc] _
            have B11X := B11.below hbCX
            have hb0X := Hb8.out.trans (hbX.mono Hb8.out.size)
            have HPX := hide (HP.out.below hbCX)
            have HRX := hide (hR.below hbDX)
            have HS := hide (fun (Y : World) (hY : Below X.heap.size X Y) => (show Y.cell? ⟨wB.heap.size, 0, none⟩ = some (.slice P pn pc) ∧ Y.cell? ⟨w.heap.size, 3, none⟩ = some (.slice (some a) sPagesn sPagesc) ∧ Y.cell? (a.add (q * 3)) = some (.int .i64 (z : Int)) ∧ Y.cell? ⟨b10, 3, none⟩ = some (.slice (some ⟨g, 0, none⟩) sPagesn c1) ∧ Y.cell? ⟨g, q * 3, none⟩ = some (.int .i64 (z : Int)) ∧ Y.cell? ⟨g, q * 3 + 1, none⟩ = some (.int .i64 ver) ∧ Y.cell? ⟨g, q * 3 + 2, none⟩ = some (.slice D dn dc) from
              have h8 := hbX.trans (hY.mono hbX.size)
              ⟨(B11X.below hY).cell (j := 0) rfl, below_cell h8 HS8.out.1, below_cell h8 HS8.out.2.2, below_cell h8 HS8.out.2.1, below_cell h8 HK.out.1, below_cell h8 HK.out.2.1, below_cell h8 HK.out.2.2⟩))
            have HX := hide hX
            have HLX := hide (fun (Y : World) (hY : Below X.heap.size X Y) => HLF.out Y (hb0X.trans (hY.mono hb0X.size)))
            have HPT := hide (fun (Y : World) (hY : Below X.heap.size X Y) => by
              have h0 := tput_any P pn pc (treeD OL) (z : Int) LV Y (HPX.out.below hY) (Rd.below ht0 (hb0X.trans (hY.mono hb0X.size))) hLV
              rw [hpp.1, hpp.2] at h0
              exact h0)
            have HB13 := hide B13
            have hbzX := HBZ.out.trans (hbX.mono HBZ.out.size)
            have hS0 := HS.out X.drew (Below.refl _ _).drew
            clear hX hR y0 y1 y2 y3 y4 y5 y6 B11 B11X B13
            go_wp2_with fail
            try rw [HX.out]
            refine wp_region_held_drew (S := fun Y => Y.cell? ⟨wB.heap.size, 0, none⟩ = some (.slice P pn pc) ∧ Y.cell? ⟨w.heap.size, 3, none⟩ = some (.slice (some a) sPagesn sPagesc) ∧ Y.cell? (a.add (q * 3)) = some (.int .i64 (z : Int)) ∧ Y.cell? ⟨b10, 3, none⟩ = some (.slice (some ⟨g, 0, none⟩) sPagesn c1) ∧ Y.cell? ⟨g, q * 3, none⟩ = some (.int .i64 (z : Int)) ∧ Y.cell? ⟨g, q * 3 + 1, none⟩ = some (.int .i64 ver) ∧ Y.cell? ⟨g, q * 3 + 2, none⟩ = some (.slice D dn dc)) (by kernel_rfl) hS0 (fun _ => ?_)
            refine wpAnyH_take (fuel := 19) (i := 0) (v := .agg #[.slice P pn pc]) rfl (by kernel_rfl) (by kernel_rfl) (by kernel_rfl) (fun _ _ _ h => h) (Or.inl ⟨by rfl, fun Z hZ => ?_⟩) hS0 ?_
            · obtain ⟨z1, z2, z3, z4, z5, z6, z7⟩ := hZ
              go_simp
            refine wpAnyH_take (i := 1) (v := .pointer (some ⟨w.heap.size, 3, none⟩)) rfl (by kernel_rfl) (by kernel_rfl) (by kernel_rfl) (fun _ _ _ h => h) (Or.inl ⟨by rfl, fun Z hZ => ?_⟩) hS0 ?_
            · obtain ⟨z1, z2, z3, z4, z5, z6, z7⟩ := hZ
              go_simp
            refine wpAnyH_take (i := 2) (v := .slice (some a) sPagesn sPagesc) rfl (by kernel_rfl) (by kernel_rfl) (by kernel_rfl) (fun _ _ _ h => h) (Or.inl ⟨by rfl, fun Z hZ => ?_⟩) hS0 ?_
            · obtain ⟨z1, z2, z3, z4, z5, z6, z7⟩ := hZ
              go_simp
            refine wpAnyH_take (i := 3) (v := .int .i64 (q : Int)) rfl (by kernel_rfl) (by kernel_rfl) (by kernel_rfl) (fun _ _ _ h => h) (Or.inl ⟨by rfl, fun Z hZ => ?_⟩) hS0 ?_
            · obtain ⟨z1, z2, z3, z4, z5, z6, z7⟩ := hZ
              go_simp
            refine wpAnyH_take (i := 4) (v := .pointer (some (a.add (q * 3)))) rfl (by kernel_rfl) (by kernel_rfl) (by kernel_rfl) (fun _ _ _ h => h) (Or.inl ⟨by rfl, fun Z hZ => ?_⟩) hS0 ?_
            · obtain ⟨z1, z2, z3, z4, z5, z6, z7⟩ := hZ
              go_simp
            refine wpAnyH_take (i := 5) (v := .pointer (some (a.add (q * 3)))) rfl (by kernel_rfl) (by kernel_rfl) (by kernel_rfl) (fun _ _ _ h => h) (Or.inl ⟨by rfl, fun Z hZ => ?_⟩) hS0 ?_
            · obtain ⟨z1, z2, z3, z4, z5, z6, z7⟩ := hZ
              go_simp
            refine wpAnyH_take (i := 6) (v := .int .i64 (z : Int)) rfl (by kernel_rfl) (by kernel_rfl) (by kernel_rfl) (fun _ _ _ h => h) (Or.inl ⟨by rfl, fun Z hZ => ?_⟩) hS0 ?_
            · obtain ⟨z1, z2, z3, z4, z5, z6, z7⟩ := hZ
              go_simp
            refine wpAnyH_take (i := 7) (v := .pointer (some ⟨b10, 3, none⟩)) rfl (by kernel_rfl) (by kernel_rfl) (by kernel_rfl) (fun _ _ _ h => h) (Or.inl ⟨by rfl, fun Z hZ => ?_⟩) hS0 ?_
            · obtain ⟨z1, z2, z3, z4, z5, z6, z7⟩ := hZ
              go_simp
            refine wpAnyH_take (i := 8) (v := .slice (some ⟨g, 0, none⟩) sPagesn c1) rfl (by kernel_rfl) (by kernel_rfl) (by kernel_rfl) (fun _ _ _ h => h) (Or.inl ⟨by rfl, fun Z hZ => ?_⟩) hS0 ?_
            · obtain ⟨z1, z2, z3, z4, z5, z6, z7⟩ := hZ
              go_simp
            refine wpAnyH_take (i := 9) (v := .int .i64 (q : Int)) rfl (by kernel_rfl) (by kernel_rfl) (by kernel_rfl) (fun _ _ _ h => h) (Or.inl ⟨by rfl, fun Z hZ => ?_⟩) hS0 ?_
            · obtain ⟨z1, z2, z3, z4, z5, z6, z7⟩ := hZ
              go_simp
            refine wpAnyH_take (i := 10) (v := .pointer (some ⟨g, q * 3, none⟩)) rfl (by kernel_rfl) (by kernel_rfl) (by kernel_rfl) (fun _ _ _ h => h) (Or.inl ⟨by rfl, fun Z hZ => ?_⟩) hS0 ?_
            · obtain ⟨z1, z2, z3, z4, z5, z6, z7⟩ := hZ
              go_simp
            refine wpAnyH_take (i := 11) (v := .agg #[.int .i64 (z : Int), .int .i64 ver, .slice D dn dc]) rfl (by kernel_rfl) (by kernel_rfl) (by kernel_rfl) (fun _ _ _ h => h) (Or.inl ⟨by rfl, fun Z hZ => ?_⟩) hS0 ?_
            · obtain ⟨z1, z2, z3, z4, z5, z6, z7⟩ := hZ
              go_simp
            have hXd : Below X.heap.size X X.drew := (Below.refl _ _).drew
            refine all_two (fuel := 7) (i := 12) (j := 17) (by kernel_rfl) rfl rfl rfl rfl (fun Kk hK => ?_) (fun Kk hK => ?_)
            · go_simp
              refine (HLX.out X.drew hXd).mono ?_
              rintro e4 X1 ⟨rfl, hbx1⟩
              have hX1 : Below X.heap.size X X1 := hXd.trans (hbx1.mono hXd.size)
              have HSX1 := HS.out X1 hX1
              refine hK _ _ ⟨HSX1, ?_⟩
              clear hK Kk
              refine all_two (fuel := 6) (i := 13) (j := 17) (by kernel_rfl) rfl rfl rfl rfl (fun Kk hK => ?_) (fun Kk hK => ?_)
              · go_simp
                refine (HPT.out X1 hX1).mono ?_
                rintro e5 X2 ⟨B5, n5, c5, rfl, hT5, hbx2⟩
                have hX2 := hX1.trans (hbx2.mono hX1.size)
                have HSX2 := HS.out X2 hX2
                refine hK _ _ ⟨HSX2, ?_⟩
                clear hK Kk
                refine wpAnyH_take (fuel := 5) (i := 14) (v := .tuple #[.agg #[.slice B5 n5 c5], .int .i64 0]) rfl (by kernel_rfl) (by kernel_rfl) (by kernel_rfl) (fun _ _ _ h => h) (Or.inl ⟨by rfl, fun Z hZ => ?_⟩) HSX2 ?_
                · go_simp
                refine wpAnyH_take (fuel := 4) (i := 15) (v := .agg #[.slice B5 n5 c5]) rfl (by kernel_rfl) (by kernel_rfl) (by kernel_rfl) (fun _ _ _ h => h) (Or.inl ⟨by rfl, fun Z hZ => ?_⟩) HSX2 ?_
                · go_simp
                refine wpAnyH_take (fuel := 3) (i := 16) (v := .int .i64 0) rfl (by kernel_rfl) (by kernel_rfl) (by kernel_rfl) (fun _ _ _ h => h) (Or.inl ⟨by rfl, fun Z hZ => ?_⟩) HSX2 ?_
                · go_simp
                have hbY : Below X.heap.size X (X2.alloc (.cells #[.slice none 0 0] 29)) := hX2.alloc hX2.size _
                have BY : Blk (X2.alloc (.cells #[.slice none 0 0] 29)) X2.heap.size [.slice none 0 0] 29 := Blk.new X2 [.slice none 0 0] _
                have yc := BY.cell (j := 0) rfl
                have yf := BY.frozen 0
                have HSY := HS.out _ hbY
                refine all_one (fuel := 2) (i := 17) (by kernel_rfl) rfl rfl (fun Kk hK => ?_)
                go_simp
                refine hK _ _ ⟨HSY, ?_⟩
                clear hK Kk
                have hbZ : Below X.heap.size X (X2.alloc (.cells #[.slice B5 n5 c5] 29)) := hX2.alloc hX2.size _
                have BZ : Blk (X2.alloc (.cells #[.slice B5 n5 c5] 29)) X2.heap.size [.slice B5 n5 c5] 29 := Blk.new X2 [.slice B5 n5 c5] _
                have HSZ := HS.out _ hbZ
                have hTZ := hT5.below ((Below.refl _ _).alloc (Nat.le_refl _) (.cells #[.slice B5 n5 c5] 29))
                refine all_one (fuel := 1) (i := 18) (by kernel_rfl) rfl rfl (fun Kk hK => ?_)
                go_simp
                refine hK _ _ ⟨HSZ, ?_⟩
                clear hK Kk
                refine all_one (fuel := 0) (i := 19) (by kernel_rfl) rfl rfl (fun Kk hK => ?_)
                go_simp
                refine hK _ _ ⟨HSZ, ?_⟩
                clear hK Kk
                refine wpAnyH_done (by kernel_rfl) ?_ _
                have c15 := BZ.cell (j := 0) rfl
                have c13 := (HB13.out.below hbZ).cell (j := 0) rfl
                have HSM0 := rsame_any R rn rc (treeD (OL.set z LV)) B5 n5 c5 (treeD (OL.set z LV)) _ (HRX.out.below hbZ) hTZ
                rw [eqL_self] at HSM0
                have hbf := hbzX.trans (hbZ.mono hbzX.size)
                obtain ⟨Zw, hZw⟩ : ∃ y, X2.alloc (.cells #[.slice B5 n5 c5] 29) = y := ⟨_, rfl⟩
                rw [hZw] at c15 c13 HSM0 hbf ⊢
                have HSM := hide HSM0
                clear HSM0 hZw hTZ hbZ BZ HSZ
                go_wp2_with fail
                go_fit HSM.out
                rintro e6 wF ⟨rfl, hbF⟩
                go_wp2
                go_ret
                exact ⟨by simp, hbf.trans (hbF.mono hbf.size)⟩
              · have hsx := hX1.size
                obtain ⟨Y, hY⟩ : ∃ y, X1.alloc (.cells #[.slice none 0 0] 29) = y := ⟨_, rfl⟩
                have hYb : Below X.heap.size X Y := by rw [← hY]; exact hX1.alloc hX1.size _
                have BY : Blk Y X1.heap.size [.slice none 0 0] 29 := by rw [← hY]; exact Blk.new X1 [.slice none 0 0] _
                have zY : Y.heap.size = X1.heap.size + 1 := by rw [← hY]; exact World.size_alloc _ _
                have HSY := HS.out Y hYb
                go_simp
                try rw [hY]
                refine hK _ _ ⟨HSY, ?_⟩
                clear hK Kk
                refine all_one (fuel := 5) (i := 13) (by kernel_rfl) rfl rfl (fun Kk hK => ?_)
                go_simp
                refine (HPT.out Y hYb).mono ?_
                rintro e5 X2 ⟨B5, n5, c5, rfl, hT5, hbx2⟩
                have hX2 := hYb.trans (hbx2.mono hYb.size)
                have HSX2 := HS.out X2 hX2
                refine hK _ _ ⟨HSX2, ?_⟩
                clear hK Kk
                refine wpAnyH_take (fuel := 4) (i := 14) (v := .tuple #[.agg #[.slice B5 n5 c5], .int .i64 0]) rfl (by kernel_rfl) (by kernel_rfl) (by kernel_rfl) (fun _ _ _ h => h) (Or.inl ⟨by rfl, fun Z hZ => ?_⟩) HSX2 ?_
                · go_simp
                refine wpAnyH_take (fuel := 3) (i := 15) (v := .agg #[.slice B5 n5 c5]) rfl (by kernel_rfl) (by kernel_rfl) (by kernel_rfl) (fun _ _ _ h => h) (Or.inl ⟨by rfl, fun Z hZ => ?_⟩) HSX2 ?_
                · go_simp
                refine wpAnyH_take (fuel := 2) (i := 16) (v := .int .i64 0) rfl (by kernel_rfl) (by kernel_rfl) (by kernel_rfl) (fun _ _ _ h => h) (Or.inl ⟨by rfl, fun Z hZ => ?_⟩) HSX2 ?_
                · go_simp
                have BW := BY.below hbx2
                have yc := BW.cell (j := 0) rfl
                have yf := BW.frozen 0
                have hbZ : Below X.heap.size X (X2.setCell ⟨X1.heap.size, 0, none⟩ (.slice B5 n5 c5)) := hX2.setCell (by show X.heap.size ≤ X1.heap.size; omega) _
                have BZ := BW.set 0 (.slice B5 n5 c5)
                have HSZ := HS.out _ hbZ
                have hTZ := hT5.grown (setCell_grown _ (X1.heap.size) 0 (.slice B5 n5 c5)) (fun b hb e => by injection e with e; omega)
                refine all_one (fuel := 1) (i := 18) (by kernel_rfl) rfl rfl (fun Kk hK => ?_)
                go_simp
                refine hK _ _ ⟨HSZ, ?_⟩
                clear hK Kk
                refine all_one (fuel := 0) (i := 19) (by kernel_rfl) rfl rfl (fun Kk hK => ?_)
                go_simp
                refine hK _ _ ⟨HSZ, ?_⟩
                clear hK Kk
                refine wpAnyH_done (by kernel_rfl) ?_ _
                have c15 := BZ.cell (j := 0) rfl
                have c13 := (HB13.out.below hbZ).cell (j := 0) rfl
                have HSM0 := rsame_any R rn rc (treeD (OL.set z LV)) B5 n5 c5 (treeD (OL.set z LV)) _ (HRX.out.below hbZ) hTZ
                rw [eqL_self] at HSM0
                have hbf := hbzX.trans (hbZ.mono hbzX.size)
                obtain ⟨Zw, hZw⟩ : ∃ y, X2.setCell ⟨X1.heap.size, 0, none⟩ (.slice B5 n5 c5) = y := ⟨_, rfl⟩
                rw [hZw] at c15 c13 HSM0 hbf ⊢
                have HSM := hide HSM0
                clear HSM0 hZw hTZ hbZ BZ HSZ
                go_wp2_with fail
                go_fit HSM.out
                rintro e6 wF ⟨rfl, hbF⟩
                go_wp2
                go_ret
                exact ⟨by simp, hbf.trans (hbF.mono hbf.size)⟩
            · have hsx : True := trivial
              obtain ⟨Y, hY⟩ : ∃ y, X.drew.alloc (.cells #[.slice none 0 0] 29) = y := ⟨_, rfl⟩
              have hYb : Below X.heap.size X Y := by rw [← hY]; exact hXd.alloc hXd.size _
              have BY : Blk Y X.drew.heap.size [.slice none 0 0] 29 := by rw [← hY]; exact Blk.new X.drew [.slice none 0 0] _
              have zY : Y.heap.size = X.drew.heap.size + 1 := by rw [← hY]; exact World.size_alloc _ _
              have HSY := HS.out Y hYb
              go_simp
              try rw [hY]
              refine hK _ _ ⟨HSY, ?_⟩
              clear hK Kk
              refine all_one (fuel := 6) (i := 12) (by kernel_rfl) rfl rfl (fun Kk hK => ?_)
              go_simp
              refine (HLX.out Y hYb).mono ?_
              rintro e4 X1 ⟨rfl, hbx1⟩
              have hX1 : Below X.heap.size X X1 := hYb.trans (hbx1.mono hYb.size)
              have HSX1 := HS.out X1 hX1
              refine hK _ _ ⟨HSX1, ?_⟩
              clear hK Kk
              refine all_one (fuel := 5) (i := 13) (by kernel_rfl) rfl rfl (fun Kk hK => ?_)
              go_simp
              refine (HPT.out X1 hX1).mono ?_
              rintro e5 X2 ⟨B5, n5, c5, rfl, hT5, hbx2⟩
              have hX2 := hX1.trans (hbx2.mono hX1.size)
              have HSX2 := HS.out X2 hX2
              refine hK _ _ ⟨HSX2, ?_⟩
              clear hK Kk
              refine wpAnyH_take (fuel := 4) (i := 14) (v := .tuple #[.agg #[.slice B5 n5 c5], .int .i64 0]) rfl (by kernel_rfl) (by kernel_rfl) (by kernel_rfl) (fun _ _ _ h => h) (Or.inl ⟨by rfl, fun Z hZ => ?_⟩) HSX2 ?_
              · go_simp
              refine wpAnyH_take (fuel := 3) (i := 15) (v := .agg #[.slice B5 n5 c5]) rfl (by kernel_rfl) (by kernel_rfl) (by kernel_rfl) (fun _ _ _ h => h) (Or.inl ⟨by rfl, fun Z hZ => ?_⟩) HSX2 ?_
              · go_simp
              refine wpAnyH_take (fuel := 2) (i := 16) (v := .int .i64 0) rfl (by kernel_rfl) (by kernel_rfl) (by kernel_rfl) (fun _ _ _ h => h) (Or.inl ⟨by rfl, fun Z hZ => ?_⟩) HSX2 ?_
              · go_simp
              have BW := (BY.below hbx1).below hbx2
              have hs1 := hbx1.size
              replace zY : Y.heap.size = X.heap.size + 1 := zY
              replace BW : Blk X2 X.heap.size [.slice none 0 0] 29 := BW
              have yc := BW.cell (j := 0) rfl
              have yf := BW.frozen 0
              have hbZ : Below X.heap.size X (X2.setCell ⟨X.heap.size, 0, none⟩ (.slice B5 n5 c5)) := hX2.setCell (by show X.heap.size ≤ X.heap.size; omega) _
              have BZ := BW.set 0 (.slice B5 n5 c5)
              have HSZ := HS.out _ hbZ
              have hTZ := hT5.grown (setCell_grown _ (X.heap.size) 0 (.slice B5 n5 c5)) (fun b hb e => by injection e with e; omega)
              refine all_one (fuel := 1) (i := 18) (by kernel_rfl) rfl rfl (fun Kk hK => ?_)
              go_simp
              refine hK _ _ ⟨HSZ, ?_⟩
              clear hK Kk
              refine all_one (fuel := 0) (i := 19) (by kernel_rfl) rfl rfl (fun Kk hK => ?_)
              go_simp
              refine hK _ _ ⟨HSZ, ?_⟩
              clear hK Kk
              refine wpAnyH_done (by kernel_rfl) ?_ _
              have c15 := BZ.cell (j := 0) rfl
              have c13 := (HB13.out.below hbZ).cell (j := 0) rfl
              have HSM0 := rsame_any R rn rc (treeD (OL.set z LV)) B5 n5 c5 (treeD (OL.set z LV)) _ (HRX.out.below hbZ) hTZ
              rw [eqL_self] at HSM0
              have hbf := hbzX.trans (hbZ.mono hbzX.size)
              obtain ⟨Zw, hZw⟩ : ∃ y, X2.setCell ⟨X.heap.size, 0, none⟩ (.slice B5 n5 c5) = y := ⟨_, rfl⟩
              rw [hZw] at c15 c13 HSM0 hbf ⊢
              have HSM := hide HSM0
              clear HSM0 hZw hTZ hbZ BZ HSZ
              go_wp2_with fail
              go_fit HSM.out
              rintro e6 wF ⟨rfl, hbF⟩
              go_wp2
              go_ret
              exact ⟨by simp, hbf.trans (hbF.mono hbf.size)⟩
end Go.Proofs.YtcpnobhdogpfiaaDoor
