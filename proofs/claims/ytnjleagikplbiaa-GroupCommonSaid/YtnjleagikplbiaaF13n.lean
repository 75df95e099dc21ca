/- group.Next. -/
import Derived.Test.YtnjleagikplbiaaF13s
import Derived.Test.YtnjleagikplbiaaF13g
import Derived.Test.YtnjleagikplbiaaM13c
namespace Go.Proofs.Ytnjleagikplbiaa
open Go.RowKit Go.Px Go.Shelf Go.Lib
open Go.Sort hiding Below
set_option linter.unusedVariables false

theorem results_cell2 {P : Program} {w : World} {fn : Func} {t t2 : Tmp} {T : TypeId} (h : fn.results = #[.cell t T, .tmp t2]) {tmps : Array Value} {b : Nat} (hx : tmps.getD t undef = .pointer (some ⟨b, 0, none⟩)) {vs : List Value} {B : TypeId} {d : TypeDesc} (hc : Blk w b vs B)
    (hu : P.underlying T = some d) (hd : d.isRow = true) (hi : (P.info? T).map (·.size) = some vs.length) : (results fn tmps).run P w = .ok (.tuple #[.agg vs.toArray, tmps.getD t2 undef]) w := by
  have := run_loadVar_mid (P := P) w b 0 T vs d hc.range hu hd hi
  have hx' : (tmps[t]?).getD undef = .pointer (some ⟨b, 0, none⟩) := by rw [← hx]; simp [Array.getD_eq_getD_getElem?]
  simp [results, h, hx', asAddr, this]
theorem next1_any (x : Int) (b : Nat) (A : Option Addr) (n c : Nat) (dr : List Int) (W : World) (hb : W.cell? ⟨b, 0, none⟩ = some (.slice A n c)) (hn : dr.length = n) (h63 : n ≤ 9223372036854775807) (hr : Rd W A (ints dr)) :
    FnGives Try.prog 35 #[.pointer (some ⟨b, 0, none⟩)] #[.int .i64 x] (.bool (inB dr x)) W := by
  have HC := hide (contains_any A n c dr x W hn h63 hr)
  clear hn
  show Calls Try.prog 35 #[.int .i64 x, .pointer (some ⟨b, 0, none⟩)] W _
  go_enter Try.func35, Try.ntmps35
  go_wp2_with fail
  refine HC.out.mono ?_
  rintro e w' ⟨rfl, rfl⟩
  go_wp2
  go_ret
  exact ⟨rfl, 0, rfl⟩

def NextIs (e : Int) (ms add dr : List Int) (w : World) (x : Ending) (w' : World) : Prop :=
  ∃ A c, x = .returned (.tuple #[grp (nextEp e ms add dr) A (nextM e ms add dr).length c, .int .i64 (nextE e ms add dr)]) ∧ Rd w' A (ints (nextM e ms add dr)) ∧ Below w.heap.size w w'

theorem own_holds {w : World} {base e n c : Nat} {blk : Nat} {xs : List Int} (h : w.ownsRow base e 1 (.slice (some ⟨blk, 0, none⟩) n c) n (ints xs)) (hn : xs.length = n) : Holds (Value.int .i64) w blk 0 xs.toArray := fun j hj => by
  have hj' : j < xs.length := by simpa using hj
  have h1 := h.cells (g := blk) rfl j _ (ints_get hj')
  rw [addr_add0] at h1
  rw [Nat.zero_add]
  exact ⟨by rw [h1]; simp [getElem!_pos, hj'], h.frozenAt j⟩

theorem rd_apart {w : World} {a : Addr} {xs : List Value} (h : Rd w (some a) xs) {k : Nat} (hne : a.block ≠ k) (j : Nat) (u : Value) : Rd (w.setCell ⟨k, j, none⟩ u) (some a) xs := fun i v hv => by
  refine ⟨a, rfl, ?_⟩
  rw [← h.at_ hv]
  simp only [World.cell?]
  rw [heap_setCell_other w ⟨k, j, none⟩ (a.add i).block u (by rw [add_block]; exact hne)]
theorem get_left (a b : List Int) (j : Nat) (h : j < a.length) : (a ++ b).toArray[j]! = a.toArray[j]! := by
  rw [getElem!_pos (a ++ b).toArray j (by simp; omega), getElem!_pos a.toArray j (by simpa using h)]
  simp [h]

set_option maxHeartbeats 1600000 in
theorem next_any (e : Int) (A : Option Addr) (n c : Nat) (ms : List Int) (A1 : Option Addr) (n1 c1 : Nat) (add : List Int) (A2 : Option Addr) (n2 c2 : Nat) (dr : List Int) (w : World)
    (hn : ms.length = n) (hn1 : add.length = n1) (hn2 : dr.length = n2) (h1 : n1 ≤ 100) (h2 : n2 ≤ 100) (hr : Rd w A (ints ms)) (hr1 : Rd w A1 (ints add)) (hr2 : Rd w A2 (ints dr)) (he1 : -9223372036854775808 ≤ e) (he2 : e ≤ 9223372036854775807) :
    Calls Try.prog 24 #[grp e A n c, .slice A1 n1 c1, .slice A2 n2 c2] w (NextIs e ms add dr w) := by
  obtain ⟨g, hg⟩ : ∃ g, w.heap.size = g := ⟨_, rfl⟩
  obtain ⟨w0, hw0⟩ : ∃ w0, ((w.alloc (.cells #[.int .i64 e, .slice A n c] 24)).alloc (.cells #[.slice A2 n2 c2] 22)).alloc (.cells #[.int .i64 0, .slice none 0 0] 24) = w0 := ⟨_, rfl⟩
  have hG : Blk w0 g [.int .i64 e, .slice A n c] 24 := by rw [← hw0, ← hg]; exact ((Blk.new w [.int .i64 e, .slice A n c] _).alloc _).alloc _
  have hD : Blk w0 (g + 1) [.slice A2 n2 c2] 22 := by
    rw [← hw0, ← hg]
    have := Blk.new (w.alloc (.cells #[.int .i64 e, .slice A n c] 24)) [.slice A2 n2 c2] 22
    rw [World.size_alloc] at this
    exact this.alloc _
  have hR : Blk w0 (g + 2) [.int .i64 0, .slice none 0 0] 24 := by
    rw [← hw0, ← hg]
    have := Blk.new ((w.alloc (.cells #[.int .i64 e, .slice A n c] 24)).alloc (.cells #[.slice A2 n2 c2] 22)) [.int .i64 0, .slice none 0 0] 24
    rw [World.size_alloc, World.size_alloc] at this
    exact this
  have hb0 : Below w.heap.size w w0 := by rw [← hw0]; exact (((Below.refl _ _).alloc (Nat.le_refl _) _).alloc (by simp) _).alloc (by simp; omega) _
  have hr0 := hr.below hb0
  have hr01 := hr1.below hb0
  have hr02 := hr2.below hb0
  have k0 := hG.cell (j := 0) rfl
  have k1 := hG.cell (j := 1) rfl
  have Hn := hide hn
  have Hn1 := hide hn1
  have Hn2 := hide hn2
  have Hg := hide hg
  clear hn hn1 hn2
  go_enter Try.func24, Try.ntmps24
  go_wp2_with fail
  go_fit (gcheck_any e A n c ms w0 Hn.out hr0)
  rcases bool_two (grpOk e ms) with hq | hq
  · have HC := hide (chk_ok hq)
    rw [HC.out]
    have hl := grpOk_len hq
    have hnum := grpOk_num hq
    rw [Hn.out] at hl
    have Hq := hide hq
    clear hq
    rintro x w1 ⟨rfl, hb1⟩
    have hG1 := hG.below hb1
    have hD1 := hD.below hb1
    have hR1 := hR.below hb1
    have hb01 := hb0.trans (hb1.mono hb0.size)
    have j0 := hG1.cell (j := 0) rfl
    have j1 := hG1.cell (j := 1) rfl
    have hBn := Blk.new w1 [.slice A n c, .slice A1 n1 c1] 22
    have hbA := hb01.alloc hb01.size (.cells #[.slice A n c, .slice A1 n1 c1] 22)
    go_wp2_with fail
    go_fit (concat_any w1.heap.size A n c ms A1 n1 c1 2 add _ Hn.out Hn1.out hl.1 (by omega) (by omega) (hr.below hbA) (hr1.below hbA) hBn)
    rintro x w2 ⟨v2, rfl, ho2, hb2⟩
    have hb02 := hbA.trans (hb2.mono hbA.size)
    obtain ⟨A', c2', rfl, hx2, hc2, hcm2, _, _⟩ := own_out ho2
    unfold maxLen at hcm2
    obtain ⟨blk, rfl, hblk1, hblk2⟩ := own_form ho2 (by omega)
    have hall : (ms ++ add).length = n + n1 := by rw [List.length_append, Hn.out, Hn1.out]
    have hH2 := own_holds ho2 hall
    rw [World.size_alloc] at hblk1
    have hw1g : g + 2 < w1.heap.size := hR1.lt
    have hb12 : Below w1.heap.size w1 w2 := ((Below.refl _ _).alloc (Nat.le_refl _) (.cells #[.slice A n c, .slice A1 n1 c1] 22)).trans (hb2.mono (by simp))
    have hG2 := hG1.below hb12
    have hD2 := hD1.below hb12
    have hR2 := hR1.below hb12
    have d2 := hD2.cell (j := 0) rfl
    have hr2w1 := hr2.below hb01
    have eg : ∀ args w, (callFunc 35 args).run Try.prog w = .ok (.enter 35 args) w := enters_of Try.func35 (by kernel_rfl) rfl
    have hcl : ∀ W, Below w1.heap.size w1 W → ∀ x, FnGives Try.prog 35 #[.pointer (some ⟨g + 1, 0, none⟩)] #[.int .i64 x] (.bool (inB dr x)) W := fun W hW x =>
      next1_any x (g + 1) A2 n2 c2 dr W ((hD1.below hW).cell (j := 0) rfl) Hn2.out (by omega) (hr2w1.below hW)
    have hp : PredAt Try.prog 35 #[.pointer (some ⟨g + 1, 0, none⟩)] (Value.int .i64) (inB dr) w2 := fun W x hW => hcl W (hb12.trans (hW.mono hb12.size)) x
    have hpo : PredOver Try.prog 35 #[.pointer (some ⟨g + 1, 0, none⟩)] (Value.int .i64) (inB dr) blk 0 (ms ++ add).toArray.size w2 := fun m os dk x _ => hcl _ (below_sort hb12 (Nat.le_refl _) (by omega) m 0 dk os) x
    have hdel := Try.slices_DeleteFunc (Value.int .i64) (fun _ => rfl) (inB dr) 35 #[.pointer (some ⟨g + 1, 0, none⟩)] eg 0 (fun w => Try.zeroValue3 w) blk 0 c2' (ms ++ add).toArray w2 hp hpo hH2 (by rw [List.size_toArray, hall]; omega) (by rw [List.size_toArray, hall]; omega)
    obtain ⟨fl, hfl⟩ : ∃ fl, ((ms ++ add).filter fun x => !inB dr x) = fl := ⟨_, rfl⟩
    have hfm : ∀ x, x ∈ fl ↔ (x ∈ ms ∨ x ∈ add) ∧ x ∉ dr := fun x => by
      rw [← hfl, List.mem_filter, List.mem_append]
      unfold inB
      by_cases hx : x ∈ dr <;> simp [hx]
    have hfle : fl.length ≤ n + n1 := by rw [← hfl, ← hall]; exact List.length_filter_le _ _
    rw [show (ms ++ add).toArray.toList = ms ++ add from rfl, hfl, show (ms ++ add).toArray.size = n + n1 by rw [List.size_toArray, hall]] at hdel
    have HDel := hide hdel
    have HH2 := hide hH2
    have Hall := hide hall
    have Hfm := hide hfm
    clear hdel hp hpo eg hcl hfl hfm hall hH2 ho2 hx2
    go_wp2_with fail
    go_fit HDel.out
    rintro x w3 ⟨rfl, q, rfl⟩
    have hH3 : Holds (Value.int .i64) (putRow (Value.int .i64) (Sort.ahead w2 q) blk 0 (fl ++ List.replicate (n + n1 - fl.length) 0).toArray) blk 0 (fl ++ List.replicate (n + n1 - fl.length) 0).toArray :=
      holds_putRow _ _ _ _ (ms ++ add).toArray _ (holds_ahead _ _ _ _ _ _ HH2.out) (by rw [List.size_toArray, List.size_toArray, Hall.out, List.length_append, List.length_replicate]; omega)
    have hHf : Holds (Value.int .i64) (putRow (Value.int .i64) (Sort.ahead w2 q) blk 0 (fl ++ List.replicate (n + n1 - fl.length) 0).toArray) blk 0 fl.toArray := fun j hj => by
      have hj' : j < fl.length := by simpa using hj
      have := hH3 j (by rw [List.size_toArray, List.length_append]; omega)
      rw [get_left fl _ j hj'] at this
      exact this
    have hb13 : Below w1.heap.size w1 (putRow (Value.int .i64) (Sort.ahead w2 q) blk 0 (fl ++ List.replicate (n + n1 - fl.length) 0).toArray) := below_put hb12 (by omega) q 0 _
    have hw3s : w2.heap.size = (putRow (Value.int .i64) (Sort.ahead w2 q) blk 0 (fl ++ List.replicate (n + n1 - fl.length) 0).toArray).heap.size := by rw [size_putRow]; rfl
    obtain ⟨w3, hw3⟩ : ∃ w3, putRow (Value.int .i64) (Sort.ahead w2 q) blk 0 (fl ++ List.replicate (n + n1 - fl.length) 0).toArray = w3 := ⟨_, rfl⟩
    rw [hw3] at hH3 hHf hb13 hw3s
    rw [hw3]
    clear hH3
    have hSet := set_any blk 0 c2' fl w3 w1.heap.size hHf (by omega) (by omega) (by omega) (by omega)
    have HSet := hide hSet
    clear hSet hHf
    go_wp2_with fail
    refine HSet.out.mono ?_
    rintro x w4 ⟨l, rfl, hasc, hlm, hll, hrl, hb34⟩
    have hb14 : Below w1.heap.size w1 w4 := hb13.trans hb34
    have hG4 := hG1.below hb14
    have hR4 := (hR1.below hb14).alloc (.cells #[.int .i64 (e + 1), .slice (some ⟨blk, 0, none⟩) l.length c2'] 24)
    have hN4 := Blk.new w4 [.int .i64 (e + 1), .slice (some ⟨blk, 0, none⟩) l.length c2'] 24
    have hrl5 := hrl.alloc (.cells #[.int .i64 (e + 1), .slice (some ⟨blk, 0, none⟩) l.length c2'] 24)
    have i0 := hG4.cell (j := 0) rfl
    have hb5 := (hb01.trans (hb14.mono hb01.size)).alloc (hb01.trans (hb14.mono hb01.size)).size (.cells #[.int .i64 (e + 1), .slice (some ⟨blk, 0, none⟩) l.length c2'] 24)
    have hnext := next_of_set Hq.out hasc (fun x => (hlm x).trans (Hfm.out x))
    have hll' : l.length ≤ 1000 := by omega
    have Hnext := hide hnext
    clear hnext hlm hasc hll
    go_wp2_with fail
    go_fit (gcheck_any (e + 1) (some ⟨blk, 0, none⟩) l.length c2' l _ rfl hrl5)
    rcases bool_two (grpOk (e + 1) l) with hq2 | hq2
    · have HC2 := hide (chk_ok hq2)
      have HE := hide (Hnext.out.1 hq2)
      rw [HC2.out]
      clear hq2
      rintro x w6 ⟨rfl, hb6⟩
      have hR6 := hR4.below hb6
      have hN6 := hN4.below hb6
      have o0 := hN6.cell (j := 0) rfl
      have o1 := hN6.cell (j := 1) rfl
      have q0 := hR6.cell (j := 0) rfl
      have q1 := hR6.cell (j := 1) rfl
      have q2 := hR6.frozen 0
      have q3 := hR6.frozen 1
      have hb06 := hb5.trans (hb6.mono hb5.size)
      go_wp2
      refine bodyPost_ret (results_cell2 rfl rfl ((hR6.set 0 _).set 1 _) Try.underlying24 rfl (by kernel_rfl)) rfl ?_
      refine ⟨some ⟨blk, 0, none⟩, c2', ?_, ?_, ?_⟩
      · rw [HE.out.1, HE.out.2.1, HE.out.2.2]; rfl
      · rw [HE.out.2.2]
        have hne : (⟨blk, 0, none⟩ : Addr).block ≠ g + 2 := by show blk ≠ g + 2; omega
        exact rd_apart (rd_apart (hrl5.below hb6) hne 0 _) hne 1 _
      · exact (hb06.setCell (by show w.heap.size ≤ g + 2; omega) _).setCell (by show w.heap.size ≤ g + 2; omega) _
    · have HC2 := hide (chk_bad hq2)
      have hE := Hnext.out.2 hq2
      have HN := hide (next_no hE)
      have HE := hide hE
      rw [HC2.out]
      clear hq2 hE
      rintro x w6 ⟨rfl, hb6⟩
      have hR6 := hR4.below hb6
      have q0 := hR6.cell (j := 0) rfl
      have q1 := hR6.cell (j := 1) rfl
      have q2 := hR6.frozen 0
      have q3 := hR6.frozen 1
      have hb06 := hb5.trans (hb6.mono hb5.size)
      go_wp2
      refine bodyPost_ret (results_cell2 rfl rfl ((hR6.set 0 _).set 1 _) Try.underlying24 rfl (by kernel_rfl)) rfl ?_
      refine ⟨none, 0, ?_, ?_, ?_⟩
      · rw [HN.out.1, HN.out.2, HE.out]; rfl
      · rw [HN.out.2]; exact Rd.nil
      · exact (hb06.setCell (by show w.heap.size ≤ g + 2; omega) _).setCell (by show w.heap.size ≤ g + 2; omega) _
  · have HC := hide (chk_bad hq)
    have hE : nextE e ms add dr = 130 := by unfold nextE; rw [if_neg (by rw [hq]; simp)]
    have HN := hide (next_no hE)
    have HE := hide hE
    rw [HC.out]
    clear hq hE
    rintro x w1 ⟨rfl, hb1⟩
    have hR1 := hR.below hb1
    have q0 := hR1.cell (j := 0) rfl
    have q1 := hR1.cell (j := 1) rfl
    have q2 := hR1.frozen 0
    have q3 := hR1.frozen 1
    have hb01 := hb0.trans (hb1.mono hb0.size)
    go_wp2
    refine bodyPost_ret (results_cell2 rfl rfl ((hR1.set 0 _).set 1 _) Try.underlying24 rfl (by kernel_rfl)) rfl ?_
    refine ⟨none, 0, ?_, ?_, ?_⟩
    · rw [HN.out.1, HN.out.2, HE.out]; rfl
    · rw [HN.out.2]; exact Rd.nil
    · exact (hb01.setCell (by show w.heap.size ≤ g + 2; omega) _).setCell (by show w.heap.size ≤ g + 2; omega) _
end Go.Proofs.Ytnjleagikplbiaa
