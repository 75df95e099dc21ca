/- Stage 14: slices.DeleteFunc of ints with the closure of Behind: its loop. -/
import Derived.Test.YthejdacemcldgaaF14m
namespace Go.Proofs.Ythejdacemcldgaa
set_option maxRecDepth 20000
open Go.RowKit Go.Px
set_option linter.unusedVariables false
theorem run_clear1 {P : Program} {w : World} {g : Nat} {cs : List Value} {T dT ty e : TypeId} {zv : Value} (hB : Blk w g cs T) (hu : P.underlying dT = some (.slice e)) (hz : (zeroValue e).run P w = .ok zv w) (hc : zv.cells = #[zv]) (h0 : zv.oneCell' = true) {off n c : Nat} (hn : n ≠ 0) (hfit : off + n ≤ cs.length) :
    (Builtin.clear_ #[dT] ty #[.slice (some ⟨g, off, none⟩) n c]).run P w = .ok (.tuple #[]) (w.setRow g (cs.take off ++ (Builtin.zeroCells #[zv] n).toList ++ cs.drop (off + n)).toArray) := by
  obtain ⟨m, rfl⟩ : ∃ m, n = m + 1 := ⟨n - 1, by omega⟩
  have hl : (Builtin.zeroCells #[zv] (m + 1)).toList.length = m + 1 := by simp [Builtin.zeroCells]
  have hst := run_storeCells_at P g off T (Builtin.zeroCells #[zv] (m + 1)).toList 0 cs.toArray w hB (by rw [hl]; simpa using hfit) (fun v hv => by
    simp only [Builtin.zeroCells, Array.toList_map, List.mem_map] at hv
    obtain ⟨i, _, rfl⟩ := hv
    have h2 : i % (#[zv] : Array Value).size = 0 := by simp; omega
    rw [h2]
    exact h0)
  have hrun : (Builtin.clear_ #[dT] ty #[.slice (some ⟨g, off, none⟩) (m + 1) c]).run P w = ((storeCells ⟨g, off, none⟩ (Builtin.zeroCells #[zv] (m + 1)).toList).run P w).andThen fun _ w' => .ok (.tuple #[]) w' := by
    simp [Builtin.clear_, run_underlying hu, hz, hc]
  rw [hrun, hst]
  simp only [Result.andThen_ok, Nat.add_zero, hl]
theorem int_late {W : World} {g n m : Nat} {L L' : List Value} {ms : List Int} (BL : Blk W g L' 3) (hL : L.take n = ints ms) (hd : ms.length = n) (ho : ∀ j, m ≤ j → L'[j]? = L[j]?) {q : Nat} (hq : q < ms.length) (hm : m ≤ q) : W.cell? ⟨g, q, none⟩ = some (.int .i64 (ms.getD q 0)) := by
  rw [intD_at hq]
  have h0 := ints_get hq
  rw [← hL, List.getElem?_take, if_pos (by omega), ← ho _ hm] at h0
  exact BL.cell h0
theorem take_set1 {L : List Value} {R : List Int} {x : Int} (h : L.take R.length = ints R) (hl : R.length < L.length) : (L.set R.length (.int .i64 x)).take (R ++ [x]).length = ints (R ++ [x]) := by
  rw [ints_append, ← h]
  apply List.ext_getElem?
  intro j
  rw [List.getElem?_take, List.length_append, List.length_singleton]
  have hlt : (L.take R.length).length = R.length := by rw [List.length_take]; omega
  rcases (show j < R.length ∨ j = R.length ∨ R.length + 1 ≤ j by omega) with hj | rfl | hj
  · rw [if_pos (by omega), List.getElem?_set_ne (by omega), List.getElem?_append_left (by rw [hlt]; exact hj), List.getElem?_take, if_pos hj]
  · rw [if_pos (by omega), List.getElem?_set_self (by omega), List.getElem?_append_right (by rw [hlt]; exact Nat.le_refl _), hlt, Nat.sub_self]; rfl
  · rw [if_neg (by omega), List.getElem?_eq_none (by rw [List.length_append, hlt]; simp [ints]; omega)]
theorem filter_step {ms : List Int} {p : Int → Bool} {j : Nat} (h : j < ms.length) : (ms.take (j + 1)).filter (fun x => !p x) = (ms.take j).filter (fun x => !p x) ++ (if p (ms.getD j 0) = true then [] else [ms.getD j 0]) := by
  rw [List.take_succ_eq_append_getElem h, List.filter_append, intD_at h]
  cases hp : p ms[j] <;> simp [hp]
theorem filter_all {ms : List Int} {p : Int → Bool} : ∀ i, i ≤ ms.length → (∀ j, j < i → p (ms.getD j 0) = false) → (ms.take i).filter (fun x => !p x) = ms.take i
  | 0, _, _ => rfl
  | i + 1, hi, h => by
    rw [filter_step (by omega), filter_all i (by omega) (fun j hj => h j (by omega)), h i (by omega), List.take_succ_eq_append_getElem (by omega), intD_at (by omega)]
    rfl
set_option maxRecDepth 20000 in
set_option maxHeartbeats 3200000 in
theorem del14_any {g n c : Nat} {L : List Value} {ms : List Int} {p : Int → Bool} {b1 b2 : Nat} {w : World} (BL : Blk w g L 3) (hL : L.take n = ints ms) (hl : n ≤ L.length) (hn : ms.length = n) (h63 : n ≤ 1000000) (hnc : n ≤ c) (hc : c ≤ 9223372036854775807)
    (HP : ∀ X, Fr (fun b => b = g) w X → ∀ v : Int, Calls Try.prog 40 #[.int .i64 v, .pointer (some ⟨b1, 0, none⟩), .pointer (some ⟨b2, 0, none⟩)] X fun e w' => e = .returned (.bool (p v)) ∧ Below X.heap.size X w') :
    Calls Try.prog 38 #[.slice (some ⟨g, 0, none⟩) n c, .func (.func 40) #[] #[.pointer (some ⟨b1, 0, none⟩), .pointer (some ⟨b2, 0, none⟩)]] w fun e w' => e = .returned (.slice (some ⟨g, 0, none⟩) (ms.filter (fun x => !p x)).length c) ∧ Rd w' (some ⟨g, 0, none⟩) (ints (ms.filter (fun x => !p x))) ∧ Fr (fun b => b = g) w w' := by
  have hr : Rd w (some ⟨g, 0, none⟩) (ints ms) := by
    rw [← hL]
    intro j u hu
    refine ⟨_, rfl, ?_⟩
    rw [addr_add14]
    rw [List.getElem?_take] at hu
    split at hu
    · exact BL.cell hu
    · cases hu
  have HI := hide (idx14_any (c := c) (b1 := b1) (b2 := b2) (p := p) hn h63 hr (fun X hX v => HP X (Fr.of_below hX) v))
  have Hn := hide hn
  have HL := hide hL
  have HH := hide HP
  have Hr := hide hr
  clear hn hL HP hr
  have eg : ∀ args w, (callFunc 40 args).run Try.prog w = .ok (.enter 40 args) w := enters_of Try.func40 (by kernel_rfl) rfl
  go_enter Try.func38, Try.ntmps38
  go_wp2_with fail
  go_fit HI.out
  rintro e w1 ⟨r, rfl, hcase, hb1⟩
  rcases hcase with ⟨rfl, hno⟩ | ⟨i, rfl, hin, hno, hyes⟩
  · have hf : ms.filter (fun x => !p x) = ms := by
      have h0 := filter_all (ms := ms) (p := p) n (by rw [Hn.out]; exact Nat.le_refl _) hno
      rwa [List.take_of_length_le (by rw [Hn.out]; exact Nat.le_refl _)] at h0
    have HF := hide hf
    clear hno hf
    go_wp2
    go_ret
    exact ⟨by rw [HF.out, Hn.out]; rfl, by rw [HF.out]; exact Hr.out.below hb1, Fr.of_below hb1⟩
  · have hil : i < ms.length := by rw [Hn.out]; exact hin
    have HS := hide (show (ms.take (i + 1)).filter (fun x => !p x) = ms.take i by
      rw [filter_step hil, filter_all i (by omega) hno, if_pos hyes, List.append_nil])
    have hil2 : (ms.take i).length = i := by rw [List.length_take]; omega
    have Hil2 := hide hil2
    have q0 : ((i : Int) == -1) = false := by simp
    have wz := wz14 i (by omega)
    have BL1 := BL.below hb1
    have hF1 : Fr (fun b => b = g) w w1 := Fr.of_below hb1
    have HLi := hide (show L.take (ms.take i).length = ints (ms.take i) by
      rw [Hil2.out, show ints (ms.take i) = (ints ms).take i from by simp [ints], ← HL.out, List.take_take, Nat.min_eq_left (by omega)])
    clear hno hyes hil hil2 hb1
    go_wp2_with fail
    go_loopw [5, 6] (fun s5 s6 W => ∃ (j q : Nat) (R : List Int) (L' : List Value), s6 = .int .i64 (j : Int) ∧ s5 = .int .i64 (q : Int) ∧ j ≤ n ∧ q + 1 ≤ j ∧ Hid ((ms.take j).filter (fun x => !p x) = R) ∧ Hid (R.length = q) ∧ Blk W g L' 3 ∧ Hid (L'.length = L.length) ∧ Hid (L'.take R.length = ints R) ∧ Hid (∀ t, j ≤ t → L'[t]? = L[t]?) ∧ Fr (fun b => b = g) w W) (fun _ s _ => n - (intOf s).toNat)
    case atStart => exact ⟨i + 1, i, ms.take i, L, by go_num, rfl, by omega, by omega, HS, Hil2, BL1, hide rfl, HLi, hide (fun _ _ => rfl), hF1⟩
    case round =>
      obtain ⟨j, q, R, L', rfl, rfl, hjn, hqj, HR, Hq, BL', HLl, HLt, Ho, hF⟩ := hrel
      by_cases hlt : j < n
      · have hjl : j < ms.length := by rw [Hn.out]; exact hlt
        have a0 := int_late BL' HL.out Hn.out Ho.out hjl (Nat.le_refl _)
        have hst := filter_step (p := p) hjl
        obtain ⟨x, hx⟩ : ∃ x, ms.getD j 0 = x := ⟨_, rfl⟩
        rw [hx] at a0 hst
        rw [HR.out] at hst
        have HST := hide hst
        have HC := hide (HH.out wr hF x)
        have hql : q < L'.length := by rw [HLl.out]; omega
        clear hx hjl hst
        go_wp2_with fail
        go_fit HC.out
        rintro e w2 ⟨rfl, hb2⟩
        have BL2 := BL'.below hb2
        have hF2 := hF.trans (Fr.of_below (X := fun b => b = g) hb2)
        cases hpx : p x with
        | true =>
          have HE := hide (show (ms.take (j + 1)).filter (fun x => !p x) = R by rw [HST.out, hpx]; simp)
          have Ho2 := hide (show ∀ t, j + 1 ≤ t → L'[t]? = L[t]? from fun t ht => Ho.out t (by omega))
          clear hpx hb2
          go_wp2
          go_roundw
          case rel => exact ⟨j + 1, q, R, L', by go_num, rfl, by omega, by omega, HE, Hq, BL2, HLl, HLt, Ho2, hF2⟩
          case measure => simp [intOf]; omega
        | false =>
          have HE := hide (show (ms.take (j + 1)).filter (fun x => !p x) = R ++ [x] by rw [HST.out, hpx]; simp)
          obtain ⟨v0, hv0⟩ : ∃ v, L'[q]? = some v := ⟨_, List.getElem?_eq_getElem hql⟩
          have k0 := BL2.cell hv0
          have r0 := BL2.frozen q
          have BL3 := BL2.set q (.int .i64 x)
          have hF3 := hF2.trans (Fr.set (X := fun b => b = g) w2 ⟨g, q, none⟩ (.int .i64 x) rfl)
          have HT3 := take_set1 (x := x) HLt.out (by rw [Hq.out]; exact hql)
          rw [Hq.out] at HT3
          have HT3 := hide HT3
          have Hq3 := hide (show (R ++ [x]).length = q + 1 by rw [List.length_append, Hq.out]; rfl)
          have Hl3 := hide (show (L'.set q (.int .i64 x)).length = L.length by rw [List.length_set]; exact HLl.out)
          have Ho3 := hide (show ∀ t, j + 1 ≤ t → (L'.set q (.int .i64 x))[t]? = L[t]? from fun t ht => by
            rw [List.getElem?_set_ne (by omega)]; exact Ho.out t (by omega))
          clear hpx hb2 hv0
          go_wp2
          go_roundw
          case rel => exact ⟨j + 1, q + 1, R ++ [x], _, by go_num, by go_num, by omega, by omega, HE, Hq3, BL3, Hl3, HT3, Ho3, hF3⟩
          case measure => simp [intOf]; omega
      · have HR2 := hide (show ms.filter (fun x => !p x) = R by
          have h0 := HR.out
          rwa [List.take_of_length_le (by rw [Hn.out]; omega)] at h0)
        have hcut2 : cutA (some ⟨g, 0, none⟩) c q 1 = some ⟨g, q, none⟩ := by unfold cutA; rw [if_neg (by omega)]; show some ((⟨g, 0, none⟩ : Addr).add (q * 1)) = _; rw [addr_add14, Nat.mul_one]
        have hrun := fun ty => run_clear1 (P := Try.prog) (ty := ty) (dT := 22) BL' Try.underlying22 (Try.zeroValue3 wr) rfl rfl (off := q) (n := n - q) (c := c - q) (by omega) (by rw [HLl.out]; omega)
        obtain ⟨VS, hVS⟩ : ∃ y, (Builtin.zeroCells #[.int .i64 0] (n - q)).toList = y := ⟨_, rfl⟩
        rw [hVS] at hrun
        obtain ⟨W2, hW2⟩ : ∃ y, wr.setRow g (L'.take q ++ VS ++ L'.drop (q + (n - q))).toArray = y := ⟨_, rfl⟩
        have BW2 : Blk W2 g (L'.take q ++ VS ++ L'.drop (q + (n - q))) 3 := by rw [← hW2]; exact BL'.setAll _
        have hFW : Fr (fun b => b = g) wr W2 := by
          rw [← hW2]
          exact ⟨rfl, rfl, rfl, by simp [World.setRow], fun i hi hx => heap_setRow_other wr g i _ hx⟩
        rw [hW2] at hrun
        have hF2 := hF.trans hFW
        have hRd : Rd W2 (some ⟨g, 0, none⟩) (ints R) := by
          intro j u hu
          refine ⟨_, rfl, ?_⟩
          rw [addr_add14]
          have hj : j < q := by have := (List.getElem?_eq_some_iff.1 hu).1; rw [ints_length, Hq.out] at this; exact this
          refine BW2.cell ?_
          have hlt : (L'.take q).length = q := by rw [List.length_take, HLl.out]; omega
          rw [List.append_assoc, List.getElem?_append_left (by rw [hlt]; omega), List.getElem?_take, if_pos hj]
          rw [← HLt.out, List.getElem?_take] at hu
          split at hu
          · exact hu
          · cases hu
        have HRd := hide hRd
        clear BW2 hFW hRd hW2 hVS
        go_wp2
        go_ret
        exact ⟨by rw [HR2.out, Hq.out]; rfl, by rw [HR2.out]; exact HRd.out, hF2⟩
end Go.Proofs.Ythejdacemcldgaa
