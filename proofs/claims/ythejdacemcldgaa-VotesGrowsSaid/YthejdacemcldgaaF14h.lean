/- Stage 14: slices.CompactFunc of acknowledgements, by their nodes. -/
import Derived.Test.YthejdacemcldgaaF14g
import Derived.Test.YthejdacemcldgaaFra
import Derived.Deep.RegionWith
namespace Go.Proofs.Ythejdacemcldgaa
set_option maxRecDepth 20000
open Go.RowKit Go.Px
set_option linter.unusedVariables false
theorem cfU_eq {d : List (Int × Int)} {k : Nat} (hk : k + 1 < d.length) (h : d[k + 1].1 = d[k].1) : cfU d (k + 2) = cfU d (k + 1) := by
  conv => lhs; unfold cfU
  rw [if_neg]
  rintro (h' | h')
  · omega
  · rw [getD_at hk, Nat.add_sub_cancel, getD_at (show k < d.length by omega)] at h'
    exact h' h
theorem cfU_ne {d : List (Int × Int)} {k : Nat} (hk : k + 1 < d.length) (h : d[k + 1].1 ≠ d[k].1) : cfU d (k + 2) = cfU d (k + 1) ++ [d[k + 1]] := by
  conv => lhs; unfold cfU
  rw [if_pos (.inr (by rw [getD_at hk, Nat.add_sub_cancel, getD_at (show k < d.length by omega)]; exact h)), getD_at hk]
theorem cfU_one {d : List (Int × Int)} (h : 0 < d.length) : cfU d 1 = d.take 1 := by
  unfold cfU
  rw [if_pos (.inl rfl), getD_at h, List.take_succ_eq_append_getElem h]; rfl
/-- Two cells of a row of acknowledgements. -/
theorem ack_cells {W : World} {g : Nat} {L : List Value} {d : List (Int × Int)} {n : Nat} (BL : Blk W g L 44) (hL : L.take (2 * n) = acs d) (hd : d.length = n) {k : Nat} (hk : k < d.length) :
    W.cell? ⟨g, k * 2, none⟩ = some (.int .i64 (d.getD k (0, 0)).1) ∧ W.cell? ⟨g, k * 2 + 1, none⟩ = some (.int .i64 (d.getD k (0, 0)).2) := by
  rw [getD_at hk]
  have h0 := acs_get0 hk
  have h1 := acs_get1 hk
  rw [← hL, List.getElem?_take, if_pos (by omega)] at h0 h1
  rw [Nat.mul_comm k 2]
  exact ⟨BL.cell h0, BL.cell h1⟩
theorem run_clear2 {P : Program} {w : World} {g : Nat} {cs : List Value} {T dT ty e : TypeId} {zv z0 z1 : Value} (hB : Blk w g cs T) (hu : P.underlying dT = some (.slice e)) (hz : (zeroValue e).run P w = .ok zv w) (hc : zv.cells = #[z0, z1]) (h0 : z0.oneCell' = true) (h1 : z1.oneCell' = true) {off n c : Nat} (hn : n ≠ 0) (hfit : off + 2 * n ≤ cs.length) :
    (Builtin.clear_ #[dT] ty #[.slice (some ⟨g, off, none⟩) n c]).run P w = .ok (.tuple #[]) (w.setRow g (cs.take off ++ (Builtin.zeroCells #[z0, z1] n).toList ++ cs.drop (off + 2 * n)).toArray) := by
  obtain ⟨m, rfl⟩ : ∃ m, n = m + 1 := ⟨n - 1, by omega⟩
  have hl : (Builtin.zeroCells #[z0, z1] (m + 1)).toList.length = 2 * (m + 1) := by simp [Builtin.zeroCells]; omega
  have hst := run_storeCells_at P g off T (Builtin.zeroCells #[z0, z1] (m + 1)).toList 0 cs.toArray w hB (by rw [hl]; simpa using hfit) (fun v hv => by
    simp only [Builtin.zeroCells, Array.toList_map, List.mem_map] at hv
    obtain ⟨i, _, rfl⟩ := hv
    have h2 : i % (#[z0, z1] : Array Value).size = 0 ∨ i % (#[z0, z1] : Array Value).size = 1 := by simp; omega
    rcases h2 with h2 | h2 <;> rw [h2]
    · exact h0
    · exact h1)
  have hrun : (Builtin.clear_ #[dT] ty #[.slice (some ⟨g, off, none⟩) (m + 1) c]).run P w = ((storeCells ⟨g, off, none⟩ (Builtin.zeroCells #[z0, z1] (m + 1)).toList).run P w).andThen fun _ w' => .ok (.tuple #[]) w' := by
    simp [Builtin.clear_, run_underlying hu, hz, hc]
  rw [hrun, hst]
  simp only [Result.andThen_ok, Nat.add_zero, hl]
theorem below_cell14 {w w' : World} (hb : Below w.heap.size w w') {a : Addr} {u : Value} (h : w.cell? a = some u) : w'.cell? a = some u := (hb.cell (p := a) (World.block_lt_of_cell? w _ h)).trans h
/-- Cells of a row that is as it was from a place on. -/
theorem ack_late {W : World} {g : Nat} {L L' : List Value} {d : List (Int × Int)} {n m : Nat} (BL : Blk W g L' 44) (hL : L.take (2 * n) = acs d) (hd : d.length = n) (ho : ∀ j, 2 * m ≤ j → L'[j]? = L[j]?) {p : Nat} (hp : p < d.length) (hm : m ≤ p) :
    W.cell? ⟨g, p * 2, none⟩ = some (.int .i64 (d.getD p (0, 0)).1) ∧ W.cell? ⟨g, p * 2 + 1, none⟩ = some (.int .i64 (d.getD p (0, 0)).2) := by
  rw [getD_at hp]
  have h0 := acs_get0 hp
  have h1 := acs_get1 hp
  rw [← hL, List.getElem?_take, if_pos (by omega)] at h0 h1
  rw [← ho _ (by omega)] at h0 h1
  rw [Nat.mul_comm p 2]
  exact ⟨BL.cell h0, BL.cell h1⟩
theorem take_set2 {L : List Value} {R : List (Int × Int)} {x : Int × Int} (h : L.take (2 * R.length) = acs R) (hl : 2 * R.length + 1 < L.length) : ((L.set (2 * R.length) (.int .i64 x.1)).set (2 * R.length + 1) (.int .i64 x.2)).take (2 * (R ++ [x]).length) = acs (R ++ [x]) := by
  rw [acs_append, ← h]
  apply List.ext_getElem?
  intro j
  rw [List.getElem?_take, List.length_append, List.length_singleton]
  have hlt : (L.take (2 * R.length)).length = 2 * R.length := by rw [List.length_take]; omega
  rcases (show j < 2 * R.length ∨ j = 2 * R.length ∨ j = 2 * R.length + 1 ∨ 2 * R.length + 2 ≤ j by omega) with hj | rfl | rfl | hj
  · rw [if_pos (by omega), List.getElem?_set_ne (by omega), List.getElem?_set_ne (by omega), List.getElem?_append_left (by rw [hlt]; exact hj), List.getElem?_take, if_pos hj]
  · rw [if_pos (by omega), List.getElem?_set_ne (by omega), List.getElem?_set_self (by omega), List.getElem?_append_right (by rw [hlt]; exact Nat.le_refl _), hlt, Nat.sub_self]; rfl
  · rw [if_pos (by omega), List.getElem?_set_self (by rw [List.length_set]; omega), List.getElem?_append_right (by rw [hlt]; omega), hlt, Nat.add_sub_cancel_left]; rfl
  · rw [if_neg (by omega), List.getElem?_eq_none (by rw [List.length_append, hlt]; simp [acs]; omega)]
set_option maxRecDepth 20000 in
set_option maxHeartbeats 3200000 in
theorem compf_any {w : World} {g c n : Nat} {L : List Value} {d : List (Int × Int)} (BL : Blk w g L 44) (hL : L.take (2 * n) = acs d) (hl : 2 * n ≤ L.length) (hd : d.length = n) (hn : n ≤ 10000) (hnc : n ≤ c) (hc : c ≤ 9223372036854775807) :
    Calls Try.prog 27 #[.slice (some ⟨g, 0, none⟩) n c, .func (.func 28) #[] #[]] w fun e w' => e = .returned (.slice (some ⟨g, 0, none⟩) (cfU d n).length c) ∧ Rd w' (some ⟨g, 0, none⟩) (acs (cfU d n)) ∧ Fr (fun b => b = g) w w' := by
  have Hd := hide hd
  have HL := hide hL
  clear hd hL
  have eg : ∀ args w, (callFunc 28 args).run Try.prog w = .ok (.enter 28 args) w := enters_of Try.func28 (by kernel_rfl) rfl
  by_cases hn2 : n < 2
  · have q0 : decide ((n : Int) < 2) = true := decide_eq_true (by omega)
    have hcf : cfU d n = d := by
      rcases (show n = 0 ∨ n = 1 by omega) with rfl | rfl
      · rw [List.eq_nil_of_length_eq_zero Hd.out]; rfl
      · rw [cfU_one (by rw [Hd.out]; omega), List.take_of_length_le (by rw [Hd.out]; omega)]
    have hR : Rd w (some ⟨g, 0, none⟩) (acs d) := by
      rw [← HL.out]
      intro j u hu
      refine ⟨_, rfl, ?_⟩
      rw [addr_add14]
      rw [List.getElem?_take] at hu
      split at hu
      · exact BL.cell hu
      · cases hu
    rw [hcf, Hd.out]
    have HR := hide hR
    clear hR hcf
    go_enter Try.func27, Try.ntmps27
    go_wp2
    go_ret
    exact ⟨rfl, HR.out, Fr.refl _ _⟩
  · have q0 : decide ((n : Int) < 2) = false := decide_eq_false (by omega)
    go_enter Try.func27, Try.ntmps27
    go_wp2_with fail
    go_loopw [5] (fun s5 W => ∃ k : Nat, s5 = .int .i64 (k : Int) ∧ 1 ≤ k ∧ k ≤ n ∧ Hid (cfU d k = d.take k) ∧ Below w.heap.size w W) (fun s _ => n - (intOf s).toNat)
    case atStart => exact ⟨1, rfl, Nat.le_refl _, by omega, hide (cfU_one (by rw [Hd.out]; omega)), Below.refl _ _⟩
    case round =>
      obtain ⟨k, rfl, hk1, hkn, HC, hbw⟩ := hrel
      by_cases hlt : k < n
      · obtain ⟨k', hkk⟩ : ∃ k', k = k' + 1 := ⟨k - 1, by omega⟩
        have hk'n : k' < n := by omega
        have hwz : IntKind.i64.wrap ((k : Int) - 1) = (k' : Int) := by rw [IntKind.wrap_i64]; omega
        have hkl : k < d.length := by rw [Hd.out]; exact hlt
        have hkl' : k' < d.length := by rw [Hd.out]; exact hk'n
        obtain ⟨a0, a1⟩ := ack_cells (BL.below hbw) HL.out Hd.out hkl
        obtain ⟨b0, b1⟩ := ack_cells (BL.below hbw) HL.out Hd.out hkl'
        obtain ⟨x, hx⟩ : ∃ x, d.getD k (0, 0) = x := ⟨_, rfl⟩
        obtain ⟨y, hy⟩ : ∃ y, d.getD k' (0, 0) = y := ⟨_, rfl⟩
        obtain ⟨x1, x2⟩ := x
        obtain ⟨y1, y2⟩ := y
        rw [hx] at a0 a1
        rw [hy] at b0 b1
        have Hkk := hide hkk
        have Hx := hide hx
        have Hy := hide hy
        have Hcut := hide (show cutA (some ⟨g, 0, none⟩) c k 2 = some ⟨g, k * 2, none⟩ from by unfold cutA; rw [if_neg (by omega)]; show some ((⟨g, 0, none⟩ : Addr).add (k * 2)) = _; rw [addr_add14])
        clear hkk hx hy hkl hkl'
        go_wp2_with fail
        go_region_with (first
          | (refine (same2_any x1 x2 y1 y2 _).mono ?_; rintro e w1 ⟨rfl, hb1⟩))
        all_goals
          have hbw1 : Below w.heap.size w w1 := (show Below w.heap.size w wr.drew from hbw.drew).trans (hb1.mono hbw.size)
          clear hb1
          by_cases hxy : x1 = y1
          · have q1 : (x1 == y1) = true := by simp [hxy]
            have HE := hide (show cfU d (k + 1) = cfU d k by
              have h1 := Hkk.out
              subst h1
              exact cfU_eq (by rw [Hd.out]; omega) (by rw [← getD_at (by rw [Hd.out]; omega), ← getD_at (by rw [Hd.out]; omega), Hx.out, Hy.out]; exact hxy))
            clear hxy
            simp only [q1]
            go_wp2_with fail
            rw [HC.out] at HE
            have hkl : (d.take k).length = k := by rw [List.length_take, Hd.out]; omega
            have hfr : Fr (fun b => b = g) w w1 := Fr.of_below hbw1
            have BL1 := BL.below hbw1
            obtain ⟨W0, rfl⟩ : ∃ y, y = wr := ⟨wr, rfl⟩
            clear a0 a1 b0 b1 Hx Hy hwz hk'n Hkk q1 hbw hbw1
            rw [Hcut.out]
            go_wp2_with fail
            go_loopw [5, 7] (fun s5 s7 W => ∃ (t : Nat) (R : List (Int × Int)) (q : Nat) (L' : List Value), s7 = .int .i64 (t : Int) ∧ s5 = .int .i64 (q : Int) ∧ 1 ≤ t ∧ k + t ≤ n ∧ Hid (cfU d (k + t) = R) ∧ Hid (R.length = q) ∧ q + 1 ≤ k + t ∧ Blk W g L' 44 ∧ Hid (L'.length = L.length) ∧ Hid (L'.take (2 * R.length) = acs R) ∧ Hid (∀ j, 2 * (k + t - 1) ≤ j → L'[j]? = L[j]?) ∧ Fr (fun b => b = g) w W) (fun _ s _ => n - k - (intOf s).toNat)
            case atStart => exact ⟨1, d.take k, k, L, rfl, rfl, Nat.le_refl _, by omega, HE, hide hkl, by omega, BL1, hide rfl, hide (by rw [hkl, acs_take, ← HL.out, List.take_take, Nat.min_eq_left (by omega)]), hide (fun j _ => rfl), hfr⟩
            case round =>
              obtain ⟨t, R, q, L', rfl, rfl, ht1, htn, HR, Hq, hqt, BL', HLl, HLt, Ho, hF⟩ := hrel
              by_cases htl : k + t < n
              · obtain ⟨t', htt⟩ : ∃ t', t = t' + 1 := ⟨t - 1, by omega⟩
                have hwz : IntKind.i64.wrap ((t : Int) - 1) = (t' : Int) := by rw [IntKind.wrap_i64]; omega
                have htl' : t' < n - k := by omega
                have htl2 : t < n - k := by omega
                obtain ⟨a0, a1⟩ := ack_late BL' HL.out Hd.out (m := k + t - 1) Ho.out (p := k + t) (by rw [Hd.out]; exact htl) (by omega)
                obtain ⟨b0, b1⟩ := ack_late BL' HL.out Hd.out (m := k + t - 1) Ho.out (p := k + t') (by rw [Hd.out]; omega) (by omega)
                obtain ⟨x, hx⟩ : ∃ x, d.getD (k + t) (0, 0) = x := ⟨_, rfl⟩
                obtain ⟨y, hy⟩ : ∃ y, d.getD (k + t') (0, 0) = y := ⟨_, rfl⟩
                obtain ⟨x1, x2⟩ := x
                obtain ⟨y1, y2⟩ := y
                rw [hx, Nat.add_mul] at a0 a1
                rw [hy, Nat.add_mul] at b0 b1
                have Htt := hide htt
                have Hx := hide hx
                have Hy := hide hy
                have hql : 2 * q + 1 < L'.length := by rw [HLl.out]; omega
                clear htt hx hy
                go_wp2_with fail
                go_region_with (first
                  | (refine (same2_any x1 x2 y1 y2 _).mono ?_; rintro e w2 ⟨rfl, hb2⟩))
                all_goals
                  simp only [Act.put, List.setIfInBounds_toArray, List.set_cons_zero, List.set_cons_succ, List.getElem_toArray, List.getElem_cons_zero, List.getElem_cons_succ]
                  have hb12 : Below wr.heap.size wr w2 := (show Below wr.heap.size wr wr.drew from (Below.refl _ _).drew).trans hb2
                  have BL2 := BL'.below hb12
                  have hF2 := hF.trans (Fr.of_below (X := fun b => b = g) hb12)
                  clear hb2
                  by_cases hxy : x1 = y1
                  · have q1 : (x1 == y1) = true := by simp [hxy]
                    simp only [q1, Bool.not_true]
                    have HE2 := hide (show cfU d (k + (t + 1)) = R by
                      rw [← HR.out]
                      have h1 := Htt.out
                      subst h1
                      refine cfU_eq (k := k + t') (by rw [Hd.out]; omega) ?_
                      have e1 := Hx.out
                      have e2 := Hy.out
                      rw [getD_at (by rw [Hd.out]; omega)] at e1 e2
                      have e1' : d[k + t' + 1]'(by rw [Hd.out]; omega) = (x1, x2) := e1
                      rw [e1', e2]; exact hxy)
                    have Ho2 := hide (show ∀ j, 2 * (k + (t + 1) - 1) ≤ j → L'[j]? = L[j]? from fun j hj => Ho.out j (by omega))
                    clear hxy hb12
                    go_wp2
                    go_roundw
                    case rel => exact ⟨t + 1, R, q, L', by go_num, rfl, by omega, by omega, HE2, Hq, by omega, BL2, HLl, HLt, Ho2, hF2⟩
                    case measure => simp [intOf]; omega
                  · have q1 : (x1 == y1) = false := beq_false_of_ne hxy
                    simp only [q1, Bool.not_false]
                    have HE2 := hide (show cfU d (k + (t + 1)) = R ++ [(x1, x2)] by
                      have e1 := Hx.out
                      have e2 := Hy.out
                      rw [← HR.out]
                      have h1 := Htt.out
                      subst h1
                      rw [getD_at (by rw [Hd.out]; omega)] at e1 e2
                      have e1' : d[k + t' + 1]'(by rw [Hd.out]; omega) = (x1, x2) := e1
                      have h2 := cfU_ne (k := k + t') (d := d) (by rw [Hd.out]; omega) (by rw [e1', e2]; exact hxy)
                      rw [e1'] at h2
                      exact h2)
                    have a0' := below_cell14 hb12 a0
                    have a1' := below_cell14 hb12 a1
                    obtain ⟨v0, hv0⟩ : ∃ v, L'[2 * q]? = some v := ⟨_, List.getElem?_eq_getElem (by omega)⟩
                    obtain ⟨v1, hv1⟩ : ∃ v, L'[2 * q + 1]? = some v := ⟨_, List.getElem?_eq_getElem (by omega)⟩
                    have k0 := BL2.cell hv0
                    have k1 := BL2.cell hv1
                    have r0 := BL2.frozen (2 * q)
                    have r1 := BL2.frozen (2 * q + 1)
                    have BL3 := (BL2.set (2 * q) (.int .i64 x1)).set (2 * q + 1) (.int .i64 x2)
                    have hF3 := (hF2.trans (Fr.set (X := fun b => b = g) w2 ⟨g, 2 * q, none⟩ (.int .i64 x1) rfl)).trans (Fr.set (X := fun b => b = g) _ ⟨g, 2 * q + 1, none⟩ (.int .i64 x2) rfl)
                    rw [Nat.mul_comm 2 q] at k0 k1 r0 r1 BL3 hF3
                    have HT3 := take_set2 (x := (x1, x2)) HLt.out (by rw [Hq.out, HLl.out]; omega)
                    rw [Hq.out, Nat.mul_comm 2 q] at HT3
                    have HT3 := hide HT3
                    have Hq3 := hide (show (R ++ [(x1, x2)]).length = q + 1 by rw [List.length_append, Hq.out]; rfl)
                    have Hl3 := hide (show ((L'.set (q * 2) (.int .i64 x1)).set (q * 2 + 1) (.int .i64 x2)).length = L.length by rw [List.length_set, List.length_set]; exact HLl.out)
                    have Ho3 := hide (show ∀ j, 2 * (k + (t + 1) - 1) ≤ j → ((L'.set (q * 2) (.int .i64 x1)).set (q * 2 + 1) (.int .i64 x2))[j]? = L[j]? from fun j hj => by
                      rw [List.getElem?_set_ne (by omega), List.getElem?_set_ne (by omega)]; exact Ho.out j (by omega))
                    clear hxy hb12 a0 a1 b0 b1 hv0 hv1
                    go_wp2
                    go_roundw
                    case rel => exact ⟨t + 1, R ++ [(x1, x2)], q + 1, _, by go_num, by go_num, by omega, by omega, HE2, Hq3, by omega, BL3, Hl3, HT3, Ho3, hF3⟩
                    case measure => simp [intOf]; omega
              · have hkt : k + t = n := by omega
                have HR2 := hide (show cfU d n = R by rw [← hkt]; exact HR.out)
                have hqc : q < c := by omega
                have Hcut2 := hide (show cutA (some ⟨g, 0, none⟩) c q 2 = some ⟨g, q * 2, none⟩ from by unfold cutA; rw [if_neg (by omega)]; show some ((⟨g, 0, none⟩ : Addr).add (q * 2)) = _; rw [addr_add14])
                have hrun := fun ty => run_clear2 (P := Try.prog) (ty := ty) (dT := 23) BL' Try.underlying23 (Try.zeroValue44 wr) (z0 := .int .i64 0) (z1 := .int .i64 0) rfl rfl rfl (off := q * 2) (n := n - q) (c := c - q) (by omega) (by rw [HLl.out]; omega)
                obtain ⟨VS, hVS⟩ : ∃ y, (Builtin.zeroCells #[.int .i64 0, .int .i64 0] (n - q)).toList = y := ⟨_, rfl⟩
                rw [hVS] at hrun
                obtain ⟨W2, hW2⟩ : ∃ y, wr.setRow g (L'.take (q * 2) ++ VS ++ L'.drop (q * 2 + 2 * (n - q))).toArray = y := ⟨_, rfl⟩
                have BW2 : Blk W2 g (L'.take (q * 2) ++ VS ++ L'.drop (q * 2 + 2 * (n - q))) 44 := by rw [← hW2]; exact BL'.setAll _
                have hFW : Fr (fun b => b = g) wr W2 := by
                  rw [← hW2]
                  exact ⟨rfl, rfl, rfl, by simp [World.setRow], fun i hi hx => heap_setRow_other wr g i _ hx⟩
                rw [hW2] at hrun
                have hF2 := hF.trans hFW
                have hRd : Rd W2 (some ⟨g, 0, none⟩) (acs R) := by
                  intro j u hu
                  refine ⟨_, rfl, ?_⟩
                  rw [addr_add14]
                  have hj : j < 2 * q := by have := (List.getElem?_eq_some_iff.1 hu).1; rw [acs_length, Hq.out] at this; exact this
                  refine BW2.cell ?_
                  have hlt : (L'.take (q * 2)).length = q * 2 := by rw [List.length_take, HLl.out]; omega
                  rw [List.append_assoc, List.getElem?_append_left (by rw [hlt]; omega), List.getElem?_take, if_pos (by omega)]
                  rw [← HLt.out, List.getElem?_take] at hu
                  split at hu
                  · exact hu
                  · cases hu
                have HRd := hide hRd
                have hcut2 := Hcut2.out
                clear hkt BW2 hFW hRd hW2 hVS
                go_wp2
                go_ret
                exact ⟨by rw [HR2.out, Hq.out]; rfl, by rw [HR2.out]; exact HRd.out, hF2⟩
          · have q1 : (x1 == y1) = false := beq_false_of_ne hxy
            have HE := hide (show cfU d (k + 1) = d.take (k + 1) by
              have h1 := Hkk.out
              subst h1
              rw [cfU_ne (by rw [Hd.out]; omega) (by rw [← getD_at (by rw [Hd.out]; omega), ← getD_at (by rw [Hd.out]; omega), Hx.out, Hy.out]; exact hxy), HC.out]
              exact (List.take_succ_eq_append_getElem (by rw [Hd.out]; omega)).symm)
            clear hxy
            go_wp2
            go_roundw
            case rel => exact ⟨k + 1, by go_num, by omega, by omega, HE, hbw1⟩
            case measure => simp [intOf]; omega
      · have hk : k = n := by omega
        have hR : Rd wr (some ⟨g, 0, none⟩) (acs (cfU d n)) := by
          rw [← hk, HC.out, List.take_of_length_le (by rw [Hd.out]; omega), ← HL.out]
          intro j u hu
          refine ⟨_, rfl, ?_⟩
          rw [addr_add14]
          rw [List.getElem?_take] at hu
          split at hu
          · exact (BL.below hbw).cell hu
          · cases hu
        have hle : (cfU d n).length = n := by rw [← hk, HC.out, List.length_take, Hd.out]; omega
        have Hle := hide hle
        have HR := hide hR
        clear hk hR hle
        go_wp2
        go_ret
        exact ⟨by rw [Hle.out]; rfl, HR.out, Fr.of_below hbw⟩
end Go.Proofs.Ythejdacemcldgaa
