/- Stage 14: slices.Sort, Sorted, Compact of ints in a row of the call's own; votes.Commit. -/
import Derived.Test.YthejdacemcldgaaF14q
import Derived.Test.YthejdacemcldgaaF14e
import Derived.Test.YthejdacemcldgaaM14c
import Derived.Test.YthejdacemcldgaaF13c
namespace Go.Proofs.Ythejdacemcldgaa
set_option maxRecDepth 20000
open Go.RowKit Go.Px Go.Shelf Go.Lib
open Go.Sort hiding Below
set_option linter.unusedVariables false
abbrev srtI (xs : List Int) : List Int := xs.mergeSort fun x y => decide (x ≤ y)
/-- A row that was sorted, in a block that is no older than 'B'. -/
def SrtAt (B : Nat) (W : World) (A : Option Addr) (N c : Nat) (zs : List Int) : Prop := zs.length = N ∧ N ≤ c ∧ c ≤ maxLen ∧ Rd W A (ints zs) ∧ (1 ≤ N → ∃ g, A = some ⟨g, 0, none⟩ ∧ B ≤ g ∧ g < W.heap.size ∧ Holds (Value.int .i64) W g 0 zs.toArray)
theorem sortI_any {w : World} {base n c : Nat} {A : Option Addr} {zs : List Int} (hO : w.ownsRow base 3 1 (.slice A n c) n (ints zs)) (hzl : zs.length = n) (h63 : n ≤ 1000000) :
    Calls Try.prog 22 #[.slice A n c] w fun e w' => e = .returned (.tuple #[]) ∧ SrtAt base w' A n c (srtI zs) ∧ ∀ B w0, B ≤ base → B ≤ w0.heap.size → Below B w0 w → Below B w0 w' := by
  obtain ⟨A1, c1, hv, _, hnc, hcm, hrd, hab⟩ := own_out hO
  injection hv with h1 _ h3
  subst h1 h3
  by_cases h0 : n = 0
  · subst h0
    have hz : zs = [] := List.eq_nil_of_length_eq_zero hzl
    subst hz
    refine (Try.slices_Sort_int_none A c w).mono ?_
    rintro e w' ⟨rfl, rfl⟩
    exact ⟨rfl, ⟨by simp [srtI], hnc, hcm, by simpa [srtI] using hrd, fun h => by omega⟩, fun B w0 _ _ h => h⟩
  · obtain ⟨g, rfl, hbg, hgs⟩ : ∃ g, A = some ⟨g, 0, none⟩ ∧ base ≤ g ∧ g < w.heap.size := by
      rcases hO.2 with ⟨_, h2⟩ | ⟨g, cap, cur, hv, hb, hg, _⟩
      · exact absurd h2 h0
      · injection hv with hv _ _
        exact ⟨g, hv, hb, (Array.getElem?_eq_some_iff.1 hg).1⟩
    have hH := own_holdsI hO
    have hS := Try.slices_Sort_int g 0 c zs w hH hgs (by omega)
    rw [hzl] at hS
    obtain ⟨ys, hys⟩ : ∃ y, srtI zs = y := ⟨_, rfl⟩
    have hyl : ys.length = n := by rw [← hys, List.length_mergeSort, hzl]
    rw [show (zs.mergeSort fun x y => decide (x ≤ y)) = ys from hys] at hS
    rw [hys]
    refine hS.mono ?_
    rintro e w3 ⟨rfl, m, os, rfl⟩
    have hs3 : g < (putRow (Value.int .i64) (Sort.ahead w m) g 0 ys.toArray).heap.size := by rw [size_putRow]; exact hgs
    have hH3 : Holds (Value.int .i64) (grow (putRow (Value.int .i64) (Sort.ahead w m) g 0 ys.toArray) os) g 0 ys.toArray :=
      holds_grow _ _ _ _ _ _ hs3 (holds_putRow _ _ _ _ zs.toArray ys.toArray (holds_ahead _ _ _ _ _ _ hH) (by simp [hyl, hzl]))
    refine ⟨rfl, ⟨hyl, hnc, hcm, rd_holds14 hH3, fun _ => ⟨g, rfl, hbg, by rw [size_grow]; omega, hH3⟩⟩, fun B w0 hB hBw hb => ?_⟩
    exact below_grow14 (below_put14 hb (by omega) m 0 _) hBw os
theorem compactI_any {w : World} {B N c : Nat} {A : Option Addr} {zs : List Int} (h : SrtAt B w A N c zs) (h63 : N ≤ 1000000) :
    Calls Try.prog 23 #[.slice A N c] w fun e w' => e = .returned (.slice A (Lib.compact zs).length c) ∧ Rd w' A (ints (Lib.compact zs)) ∧ ∀ w0, Below B w0 w → Below B w0 w' := by
  obtain ⟨hzl, hnc, hcm, hrd, hg⟩ := h
  by_cases h0 : N = 0
  · subst h0
    have hz : zs = [] := List.eq_nil_of_length_eq_zero hzl
    subst hz
    refine (Try.slices_Compact_int_empty A c w).mono ?_
    rintro e w' ⟨rfl, rfl⟩
    exact ⟨rfl, hrd, fun w0 h => h⟩
  · obtain ⟨g, rfl, hbg, hgs, hH⟩ := hg (by omega)
    have hC := Try.slices_Compact_int g 0 c zs w hH (by omega) (by omega)
    rw [hzl] at hC
    have hcl := Lib.compact_length_le zs
    obtain ⟨o, ho⟩ : ∃ y, Lib.compact zs = y := ⟨_, rfl⟩
    rw [ho] at hC hcl ⊢
    refine hC.mono ?_
    rintro e w4 ⟨rfl, q, rfl⟩
    refine ⟨rfl, ?_, fun w0 hb => below_put14 hb hbg q 0 _⟩
    have h2 : Holds (Value.int .i64) (putRow (Value.int .i64) (Sort.ahead w q) g 0 (o ++ List.replicate (N - o.length) 0).toArray) g 0 (o ++ List.replicate (N - o.length) 0).toArray :=
      holds_putRow _ _ _ _ zs.toArray _ (holds_ahead _ _ _ _ _ _ hH) (by simp [hzl]; omega)
    have h3 := rd_holds14 h2
    rw [ints_append] at h3
    have h4 := h3.take o.length
    rwa [List.take_left' (ints_length o)] at h4
theorem sorted_any (bs : Nat) (A : Option Addr) (N c : Nat) (xs : List Int) (w : World) (hx : xs.length = N) (hN : N ≤ 1000000) (hB : Blk w bs [.slice A N c] 22) (hr : Rd w A (ints xs)) :
    Calls Try.prog 30 #[.func (.func 42) #[] #[.pointer (some ⟨bs, 0, none⟩)]] w fun e w' => ∃ A' c', e = .returned (.slice A' N c') ∧ SrtAt w.heap.size w' A' N c' (srtI xs) ∧ Below w.heap.size w w' := by
  have HA := hide (collect_any bs A N c xs w hx hN hB hr)
  have Hx := hide hx
  clear hx hB hr
  go_enter Try.func30, Try.ntmps30
  go_wp2_with fail
  refine HA.out.mono ?_
  rintro e w1 ⟨v, rfl, hO, hb⟩
  obtain ⟨A1, c1, rfl, _⟩ := own_out hO
  have HS := hide (sortI_any hO Hx.out hN)
  have hb' := hide hb
  clear hO hb
  go_wp2_with fail
  refine HS.out.mono ?_
  rintro e w2 ⟨rfl, hs, hbl⟩
  have HB := hide (hbl _ _ (Nat.le_refl _) (Nat.le_refl _) hb'.out)
  have HSR := hide hs
  clear hs hbl
  go_wp2
  go_ret
  exact ⟨A1, c1, rfl, HSR.out, HB.out⟩
set_option maxHeartbeats 1600000 in
theorem commit_any (e : Int) (A : Option Addr) (n c : Nat) (ms : List Int) (B : Option Addr) (m d : Nat) (l : List (Int × Int)) (w : World) (hn : ms.length = n) (h63 : n ≤ 1000) (hm : l.length = m) (hm63 : m ≤ 100000) (hr : Rd w A (ints ms)) (hs : Rd w B (acs l)) :
    Calls Try.prog 17 #[grp e A n c, .slice B m d] w fun x w' => ∃ b : Int, x = .returned (.int .i64 b) ∧ CmIs ms l b ∧ Below w.heap.size w w' := by
  have Hn := hide hn
  have Hm := hide hm
  clear hn hm
  obtain ⟨g, hg⟩ : ∃ g, w.heap.size = g := ⟨_, rfl⟩
  obtain ⟨w0, hw0⟩ : ∃ w0, w.alloc (.cells #[.int .i64 e, .slice A n c] 34) = w0 := ⟨_, rfl⟩
  have hF : Blk w0 g [.int .i64 e, .slice A n c] 34 := by rw [← hw0, ← hg]; exact Blk.new _ _ _
  have hb0 : Below w.heap.size w w0 := by rw [← hw0]; exact (Below.refl _ _).alloc (Nat.le_refl _) _
  have hz0 : w.heap.size + 1 = w0.heap.size := by rw [← hw0]; simp
  have f0 := hF.cell (j := 0) rfl
  have f1 := hF.cell (j := 1) rfl
  have hbv : Below w0.heap.size w0 (w0.alloc (.cells #[.slice A n c] 22)) := (Below.refl _ _).alloc (Nat.le_refl _) _
  have HSO := hide (sorted_any w0.heap.size A n c ms _ Hn.out (by omega) (Blk.new w0 [.slice A n c] 22) ((hr.below hb0).below hbv))
  have HV := hide (values_any A n c w0)
  have Hg := hide hg
  have Hw0 := hide hw0
  clear hw0 hg
  go_enter Try.func17, Try.ntmps17
  go_wp2_with fail
  rw [Hw0.out, Hg.out]
  go_wp2_with fail
  refine HV.out.mono ?_
  rintro x w1 ⟨rfl, rfl⟩
  go_wp2_with fail
  refine HSO.out.mono ?_
  rintro x w2 ⟨A2, c2, rfl, hS2, hb2⟩
  have hC := compactI_any hS2 (by omega)
  have hcs := compact_set ms
  obtain ⟨o, ho⟩ : ∃ y, Lib.compact (srtI ms) = y := ⟨_, rfl⟩
  rw [show (ms.mergeSort fun x y => decide (x ≤ y)) = srtI ms from rfl, ho] at hcs
  rw [ho] at hC
  obtain ⟨hc1, hc2, hc3⟩ := hcs
  rw [Hn.out] at hc3
  have HO := hide (show SetOf ms o from ⟨hc1, hc2⟩)
  have HC := hide hC
  have hc2c := hS2.2.1
  have hc2m := hS2.2.2.1
  unfold maxLen at hc2m
  clear hC hc1 hc2 ho hS2
  go_wp2_with fail
  refine HC.out.mono ?_
  rintro x w3 ⟨rfl, hr3, hbl3⟩
  have hb3' := hbl3 _ hb2
  have hb03 : Below w0.heap.size w0 w3 := hbv.trans (hb3'.mono hbv.size)
  have hb3 : Below w.heap.size w w3 := hb0.trans (hb03.mono hb0.size)
  have hs3 := hs.below hb3
  have Hb2 := hide hb2
  have F3 := hF.below hb03
  obtain ⟨N, hN⟩ : ∃ y, o.length = y := ⟨_, rfl⟩
  rw [hN] at hc3 ⊢
  have HN := hide hN
  have hz3 := hb3.size
  clear hb2 hbl3 hb3' f0 f1 hN
  go_wp2_with fail
  go_loopw [5, 17] (fun u i wr => ∃ k : Nat, k ≤ N ∧ i = .int .i64 k ∧ Grow w3 (.slice none 0 0) w3.heap.size 3 1 wr u (toldS l (o.take k)).length (ints (toldS l (o.take k)))) (fun _ i _ => N - (intOf i).toNat)
  case atStart => exact ⟨0, by omega, rfl, by rw [List.take_zero]; exact Grow.nil _ _ _⟩
  case round =>
    obtain ⟨k, hk, rfl, hG⟩ := hrel
    have hbw := hG.all
    by_cases hlt : k < N
    · have hkl : k < o.length := by rw [HN.out]; exact hlt
      obtain ⟨a, ha, hc⟩ := hr3.below hbw k _ (ints_get hkl)
      have hyes := toldS_yes (l := l) hkl
      have hno := toldS_no (l := l) hkl
      have hlen := toldS_len l (o.take k)
      rw [List.length_take] at hlen
      obtain ⟨y, hy⟩ : ∃ y, o[k] = y := ⟨_, rfl⟩
      rw [hy] at hc hyes hno
      subst ha
      have HNU := hide (num_any B m d l y wr Hm.out (by omega) (hs3.below hbw))
      obtain ⟨p, hp⟩ : ∃ p, numA l y = p := ⟨_, rfl⟩
      obtain ⟨p1, p2⟩ := p
      rw [hp] at HNU hyes hno
      have Hyes := hide hyes
      have Hno := hide hno
      clear hy hp hyes hno
      go_wp2_with fail
      refine HNU.out.mono ?_
      rintro x w4 ⟨rfl, hb4⟩
      have hG4 := hG.below hb4
      rcases p2 with _ | _
      · have HB := hide (Hno.out rfl)
        clear hG hb4
        go_wp2
        go_roundw
        case rel => exact ⟨k + 1, by omega, by go_num, by rw [HB.out]; exact hG4⟩
        case measure => simp [intOf]; omega
      · have HB := hide (Hyes.out rfl)
        have HB2 := hide (show (toldS l (o.take (k + 1))).length = (toldS l (o.take k)).length + 1 by rw [HB.out]; simp)
        clear hG hb4
        go_wp2_with (first | (with_reducible refine stop_append rfl ?_) | (with_reducible refine stop_copy rfl ?_) | (with_reducible refine stop_make rfl ?_))
        refine hG4.push rfl rfl rfl tInts rfl rfl rfl (by omega) (by omega) ?_
        intro u' w5 hG5 _
        go_wp2
        go_roundw
        case rel => exact ⟨k + 1, by omega, by go_num, by rw [HB2.out, HB.out, ints_append]; exact hG5⟩
        case measure => simp [intOf]; omega
    · have HB := hide (List.take_of_length_le (show o.length ≤ k by rw [HN.out]; omega))
      rw [HB.out] at hG
      have hTl := toldS_len l o
      rw [HN.out] at hTl
      have hfew := cm_few (l := l) HO.out
      have hmany := fun (k : Nat) (hk : k < (srtI (toldS l o)).length) (hq : ms.length / 2 + 1 + k = (srtI (toldS l o)).length) => cm_many (l := l) HO.out (zs := srtI (toldS l o)) rfl hk hq
      rw [Hn.out] at hfew hmany
      obtain ⟨ys, hys⟩ : ∃ y, toldS l o = y := ⟨_, rfl⟩
      rw [hys] at hG hTl hfew hmany
      obtain ⟨L, hL⟩ : ∃ y, ys.length = y := ⟨_, rfl⟩
      rw [hL] at hG hTl hfew
      obtain ⟨A5, c5, rfl, _⟩ := own_out hG.owns
      have hSO := sortI_any hG.owns hL (by omega)
      obtain ⟨zs, hzs⟩ : ∃ y, srtI ys = y := ⟨_, rfl⟩
      rw [hzs] at hSO hmany
      have HSO2 := hide hSO
      have Hfew := hide hfew
      have Hmany := hide hmany
      have Hbw := hide hbw
      clear hys hL hzs hSO hfew hmany hG hbw
      go_wp2_with fail
      refine HSO2.out.mono ?_
      rintro x w6 ⟨rfl, hS6, hbl6⟩
      have hb36 : Below w3.heap.size w3 w6 := hbl6 _ _ (Nat.le_refl _) (Nat.le_refl _) Hbw.out
      have F6 := F3.below hb36
      have g0 := F6.cell (j := 0) rfl
      have g1 := F6.cell (j := 1) rfl
      have HQ := hide (quorum_any e A n c w6 (by omega))
      obtain ⟨hzl, hLc, hcm, hrz, _⟩ := hS6
      unfold maxLen at hcm
      have HZ := hide hrz
      clear hbl6 hrz
      go_wp2_with fail
      go_fit HQ.out
      rintro x w7 ⟨rfl, hb7⟩
      have hb67 : Below w.heap.size w w7 := (hb3.trans (hb36.mono hz3)).trans (hb7.mono (by have := hb36.size; omega))
      obtain ⟨q, hq⟩ : ∃ q, n / 2 + 1 = q := ⟨_, rfl⟩
      rw [hq] at Hfew Hmany ⊢
      have Hq := hide hq
      have Hb67 := hide hb67
      have hzr := HZ.out.below hb7
      have hq1 : 1 ≤ q := by omega
      have hq2 : q ≤ 1000 := by omega
      clear hq hb7 hb67
      by_cases hlq : L < q
      · have q0 : decide ((L : Int) < (q : Int)) = true := decide_eq_true (by omega)
        go_wp2
        go_ret
        exact ⟨0, rfl, Hfew.out hlq, Hb67.out⟩
      · have q0 : decide ((L : Int) < (q : Int)) = false := decide_eq_false (by omega)
        obtain ⟨k', hk'⟩ : ∃ k', L = q + k' := ⟨L - q, by omega⟩
        have hkz : k' < zs.length := by omega
        have hzc := hzr k' _ (ints_get hkz)
        obtain ⟨a, rfl, hzc⟩ := hzc
        have hwz : IntKind.i64.wrap ((L : Int) - (q : Int)) = (k' : Int) := by rw [IntKind.wrap_i64]; omega
        have HM := hide (Hmany.out k' hkz (by omega))
        obtain ⟨z, hz⟩ : ∃ z, zs[k'] = z := ⟨_, rfl⟩
        rw [hz] at HM hzc
        have hkL : k' < L := by omega
        clear hz hk' hzr hkz hzl
        go_wp2
        go_ret
        exact ⟨max z 0, rfl, HM.out, Hb67.out⟩
end Go.Proofs.Ythejdacemcldgaa
