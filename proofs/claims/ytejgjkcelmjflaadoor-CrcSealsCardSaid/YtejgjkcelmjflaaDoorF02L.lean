/- The laws of crc, walked. -/
import Derived.Test.YtejgjkcelmjflaaDoorF02b
namespace Go.Proofs.YtejgjkcelmjflaaDoor
open Go.RowKit Go.Px
set_option linter.unusedVariables false

def lcut (n : Nat) : Nat := if n ≤ 16384 then n else 16384
theorem lcut_le (n : Nat) : lcut n ≤ n ∧ lcut n ≤ 16384 := by unfold lcut; split <;> omega
theorem lcut_len (bs : List UInt8) : (bs.take 16384).length = lcut bs.length := by unfold lcut; rw [List.length_take]; split <;> omega
theorem lcut_rd {w : World} {A : Option Addr} {bs : List UInt8} (h : Rd w A (bys bs)) : Rd w A (bys (bs.take 16384)) := by rw [bys_take]; exact h.take _
theorem cut_any (A : Option Addr) (n c : Nat) (w : World) (hnc : n ≤ c) (hc : c ≤ 9223372036854775807) : Calls Tryd.prog 8 #[.slice A n c] w fun e w' => e = .returned (.slice A (lcut n) c) ∧ w = w' := by
  by_cases h : n ≤ 16384
  · have HL := hide (show lcut n = n by unfold lcut; rw [if_pos h])
    go_enter Tryd.func8, Tryd.ntmps8
    go_wp2
    go_ret
    exact ⟨by rw [HL.out]; rfl, rfl⟩
  · have HL := hide (show lcut n = 16384 by unfold lcut; rw [if_neg h])
    go_enter Tryd.func8, Tryd.ntmps8
    go_wp2
    go_ret
    exact ⟨by rw [HL.out]; rfl, rfl⟩

set_option maxHeartbeats 800000 in
theorem awake02_any (w : World) (ht : Tab w) : Calls Tryd.prog 13 #[] w fun e w' => e = .returned (.bool true) ∧ Below w.heap.size w w' := by
  go_enter Tryd.func13, Tryd.ntmps13
  go_wp2_with fail
  have hr1 : Rd (w.alloc (.cells (bys [49, 50, 51, 52]).toArray 5 (4, 5))) (some ⟨w.heap.size, 0, none⟩) (bys [49, 50, 51, 52]) := Rd.newN _ _ _ _
  have hr2 : Rd ((w.alloc (.cells (bys [49, 50, 51, 52]).toArray 5 (4, 5))).alloc (.cells (bys [53, 54, 55, 56, 57]).toArray 5 (5, 6))) (some ⟨w.heap.size + 1, 0, none⟩) (bys [53, 54, 55, 56, 57]) := Rd.newG (by simp)
  refine (sum_any _ 2 2 [.slice (some ⟨w.heap.size, 0, none⟩) 4 4, .slice (some ⟨w.heap.size + 1, 0, none⟩) 5 5] [[49, 50, 51, 52], [53, 54, 55, 56, 57]] _ rfl (by decide) (Rd.newG (by simp))
    ((BRows.nil.snoc (c := 4) rfl (by decide) (by decide) (by decide) ((hr1.alloc _).alloc _)).snoc (c := 5) rfl (by decide) (by decide) (by decide) (hr2.alloc _)) (((ht.alloc _).alloc _).alloc _)).mono ?_
  rw [show sumN [[49, 50, 51, 52], [53, 54, 55, 56, 57]] = 3808858755 from by decide +kernel]
  rintro e w' ⟨rfl, rfl⟩
  go_wp2
  go_ret
  exact ⟨rfl, (((Below.refl _ _).alloc (Nat.le_refl _) _).alloc (by simp) _).alloc (by simp; omega) _⟩

set_option maxHeartbeats 800000 in
theorem crcSums_walk (A : Option Addr) (m c : Nat) (bs : List UInt8) (B : Option Addr) (k d : Nat) (s : List UInt8) (x : Nat) (w : World) (hm : bs.length = m) (hmc : m ≤ c) (hc : c ≤ 9223372036854775807) (hr : Rd w A (bys bs))
    (hk : s.length = k) (hkd : k ≤ d) (hd : d ≤ 9223372036854775807) (hs : Rd w B (bys s)) (hx : x < 4294967296) (ht : Tab w) :
    Calls Tryd.prog 3 #[.slice A m c, .slice B k d, .int .u32 x] w fun e w' => e = .returned (.bool true) ∧ Below w.heap.size w w' := by
  obtain ⟨hl1, hl2⟩ := lcut_le m
  have Hl := hide (show (bs.take 16384).length = lcut m by rw [lcut_len, hm])
  have hr' := lcut_rd hr
  obtain ⟨q, hq⟩ : ∃ q, lcut m = q := ⟨_, rfl⟩
  rw [hq] at hl1 hl2 Hl
  have Hq := hide hq
  clear hq hm hr
  obtain ⟨hj1, hj2⟩ := lcut_le k
  have Hj := hide (show (s.take 16384).length = lcut k by rw [lcut_len, hk])
  have hs' := lcut_rd hs
  obtain ⟨p, hp⟩ : ∃ p, lcut k = p := ⟨_, rfl⟩
  rw [hp] at hj1 hj2 Hj
  have Hp := hide hp
  clear hp hk hs
  generalize bs.take 16384 = bs' at *
  generalize s.take 16384 = s' at *
  go_enter Tryd.func3, Tryd.ntmps3
  go_wp2_with fail
  refine (cut_any _ _ _ _ hmc hc).mono ?_
  rw [Hq.out]
  rintro e w0 ⟨rfl, rfl⟩
  go_wp2_with fail
  refine (cut_any _ _ _ _ hkd hd).mono ?_
  rw [Hp.out]
  rintro e w0 ⟨rfl, rfl⟩
  go_wp2_with fail
  refine (sum_any _ 2 2 [.slice A q c, .slice B p d] [bs', s'] _ rfl (by decide) (Rd.newG rfl)
    ((BRows.nil.snoc (c := c) Hl.out (by omega) (by omega) hc (hr'.alloc _)).snoc (c := d) Hj.out (by omega) (by omega) hd (hs'.alloc _)) (ht.alloc _)).mono ?_
  rintro e w1 ⟨rfl, rfl⟩
  go_wp2_with fail
  refine (rsum_any _ 2 2 [.slice A q c, .slice B p d] [bs', s'] _ rfl (by decide) (Rd.newG (by simp))
    ((BRows.nil.snoc (c := c) Hl.out (by omega) (by omega) hc ((hr'.alloc _).alloc _)).snoc (c := d) Hj.out (by omega) (by omega) hd ((hs'.alloc _).alloc _))).mono ?_
  rintro e w1 ⟨rfl, rfl⟩
  go_wp2_with fail
  refine (more_any x _ _ _ s' _ hx Hj.out (by omega) ((hs'.alloc _).alloc _) ((ht.alloc _).alloc _)).mono ?_
  rintro e w1 ⟨rfl, rfl⟩
  go_wp2_with fail
  refine (rmore_any x _ _ _ s' _ hx Hj.out (by omega) ((hs'.alloc _).alloc _)).mono ?_
  rintro e w1 ⟨rfl, rfl⟩
  go_wp2_with fail
  refine (sum_any none 0 0 [] [] _ rfl (by decide) Rd.nil BRows.nil ((ht.alloc _).alloc _)).mono ?_
  rw [show sumN [] = 0 from rfl]
  rintro e w1 ⟨rfl, rfl⟩
  go_wp2_with fail
  refine (awake02_any _ ((ht.alloc _).alloc _)).mono ?_
  rintro e w2 ⟨rfl, hb2⟩
  go_wp2
  go_ret
  exact ⟨rfl, (((Below.refl _ _).alloc (Nat.le_refl _) _).alloc (by simp) _).trans (hb2.mono (by simp; omega))⟩

set_option maxHeartbeats 1600000 in
theorem crcCuts_walk (A : Option Addr) (m c : Nat) (bs : List UInt8) (B : Option Addr) (k d : Nat) (cs : List UInt8) (w : World) (hm : bs.length = m) (hmc : m ≤ c) (hc : c ≤ 9223372036854775807) (hr : Rd w A (bys bs))
    (hk : cs.length = k) (hk63 : k ≤ 9223372036854775807) (hs : Rd w B (bys cs)) (ht : Tab w) :
    Calls Tryd.prog 6 #[.slice A m c, .slice B k d] w fun e w' => e = .returned (.bool true) ∧ Below w.heap.size w w' := by
  obtain ⟨hl1, hl2⟩ := lcut_le m
  have Hl := hide (show (bs.take 16384).length = lcut m by rw [lcut_len, hm])
  have hr' := lcut_rd hr
  obtain ⟨q, hq⟩ : ∃ q, lcut m = q := ⟨_, rfl⟩
  rw [hq] at hl1 hl2 Hl
  have Hq := hide hq
  clear hq hm hr
  have Hk := hide hk
  clear hk
  generalize bs.take 16384 = bs' at *
  go_enter Tryd.func6, Tryd.ntmps6
  go_wp2_with fail
  refine (awake02_any _ ht).mono ?_
  rintro e w1 ⟨rfl, hb1⟩
  go_wp2_with fail
  refine (cut_any _ _ _ _ hmc hc).mono ?_
  rw [Hq.out]
  rintro e w0 ⟨rfl, rfl⟩
  go_wp2_with fail
  refine (rof_any _ _ _ bs' _ Hl.out (by omega) (hr'.below hb1)).mono ?_
  rintro e w0 ⟨rfl, rfl⟩
  have ht1 : Tab w1 := Rd.below ht hb1
  have hs1 := hs.below hb1
  have hr1 := hr'.below hb1
  go_wp2_with fail
  go_loopw [0, 6, 7, 8] (fun b u s i wr => ∃ (j : Nat) (A' : Option Addr) (n' c' : Nat) (rest : List UInt8) (bss : List (List UInt8)) (vs : List Value), j ≤ 100 ∧ j ≤ k ∧ i = .int .i64 j ∧ b = .slice A' n' c' ∧ Hid (rest.length = n') ∧ n' ≤ 16384 ∧ n' ≤ c' ∧ c' ≤ 9223372036854775807 ∧ Rd w1 A' (bys rest) ∧
      s = .int .u32 ((moreN 0 bss.flatten : Nat) : Int) ∧ Hid (bss.flatten ++ rest = bs') ∧ Hid (bss.length = j) ∧ BRows w1 vs bss ∧ Grow w1 (.slice none 0 0) w1.heap.size 22 1 wr u j vs) (fun _ _ _ i _ => 100 - (intOf i).toNat)
  case atStart => exact ⟨0, A, q, c, bs', [], [], by omega, by omega, rfl, rfl, hide Hl.out, hl2, by omega, hc, hr1, by simp [moreN_nil], hide rfl, hide rfl, BRows.nil, Grow.nil _ _ _⟩
  case round =>
    obtain ⟨j, A', n', c', rest, bss, vs, hj, hjk, rfl, rfl, hrest, hn1, hn2, hc', hrr, rfl, hall, hbl, hbr, hG⟩ := hrel
    have hbw := hG.all
    by_cases hlt : j < k ∧ j < 100
    · obtain ⟨hlt1, hlt2⟩ := hlt
      have hjl : j < cs.length := by rw [Hk.out]; exact hlt1
      obtain ⟨a, rfl, hcell⟩ := (hs1.below hbw) j _ (bys_get hjl)
      have hz := (cs[j]).toNat_lt
      obtain ⟨z, hzz⟩ : ∃ z, (cs[j]).toNat = z := ⟨_, rfl⟩
      rw [hzz] at hcell hz
      clear hzz
      have hp : ∃ p, p ≤ n' ∧ ((n' < z ∧ p = n') ∨ (¬ n' < z ∧ p = z)) := by
        by_cases h : n' < z
        · exact ⟨n', Nat.le_refl _, .inl ⟨h, rfl⟩⟩
        · exact ⟨z, by omega, .inr ⟨h, rfl⟩⟩
      obtain ⟨p, hpn, hp⟩ := hp
      have Hfl := hide (show (bss ++ [rest.take p]).flatten ++ rest.drop p = bs' by
        rw [List.flatten_append, List.append_assoc]; simpa using hall.out)
      have Hmo := hide (show moreN (moreN 0 bss.flatten) (rest.take p) = moreN 0 (bss ++ [rest.take p]).flatten by
        rw [List.flatten_append, moreN_append 0 _ _ (by decide)]; simp)
      have Hpl := hide (show (rest.take p).length = p by rw [List.length_take, hrest.out]; omega)
      have Hdl := hide (show (rest.drop p).length = n' - p by rw [List.length_drop, hrest.out])
      have hrp : Rd w1 A' (bys (rest.take p)) := by rw [bys_take]; exact hrr.take p
      have hrd : Rd w1 (cutA A' c' p 1) (bys (rest.drop p)) := by
        rw [bys_drop]; exact hrr.cutA (n := n') (k := p) (by rw [bys_length, hrest.out]; exact Nat.le_refl _) hpn hn2
      have hq := moreN_lt 0 bss.flatten
      clear hrest hall
      rcases hp with ⟨hp, rfl⟩ | ⟨hp, rfl⟩
      all_goals
        go_wp2_with (first | (with_reducible refine stop_append rfl ?_) | (with_reducible refine stop_copy rfl ?_) | (with_reducible refine stop_make rfl ?_))
        refine hG.push rfl rfl rfl tByteRows rfl rfl rfl (by omega) (by omega) ?_
        intro u2 w2 hG2 hle
        have hb2 := hG2.all
        go_wp2_with fail
        refine (more_any _ _ _ _ (rest.take p) _ hq Hpl.out (by omega) (hrp.below hb2) (Rd.below ht1 hb2)).mono ?_
        rw [Hmo.out]
        rintro e w3 ⟨rfl, rfl⟩
        go_wp2
        go_roundw
        case rel =>
          exact ⟨j + 1, _, _, _, rest.drop p, bss ++ [rest.take p], vs ++ [.slice A' p c'], by omega, by omega, by go_num, rfl, hide (by have := Hdl.out; omega), by omega, by omega, by omega, hrd, by simp, hide Hfl.out, hide (by rw [List.length_append, hbl.out]; rfl), hbr.snoc Hpl.out (by omega) (by omega) hc' hrp, hG2⟩
        case measure => simp [intOf]; omega
    · have Hfl := hide (show (bss ++ [rest]).flatten = bs' by rw [List.flatten_append]; simpa using hall.out)
      have Hmo := hide (show moreN (moreN 0 bss.flatten) rest = moreN 0 bs' by
        rw [← hall.out, moreN_append 0 _ _ (by decide)])
      have Hsu := hide (show sumN (bss ++ [rest]) = moreN 0 bs' by
        unfold sumN; rw [sumN_flat _ 0 (by decide), Hfl.out])
      have hq := moreN_lt 0 bss.flatten
      have Hbl := hide (show (bss ++ [rest]).length = j + 1 by rw [List.length_append, hbl.out]; rfl)
      by_cases hk1 : j < k
      all_goals
        go_wp2_with (first | (with_reducible refine stop_append rfl ?_) | (with_reducible refine stop_copy rfl ?_) | (with_reducible refine stop_make rfl ?_))
        refine hG.push rfl rfl rfl tByteRows rfl rfl rfl (by omega) (by omega) ?_
        intro u2 w2 hG2 hle
        have hb2 := hG2.all
        obtain ⟨L, cl, rfl, _, _, _, hL, _⟩ := own_out hG2.owns
        go_wp2_with fail
        refine (sum_any _ _ _ (vs ++ [.slice A' n' c']) (bss ++ [rest]) _ Hbl.out (by omega) hL ((hbr.snoc hrest.out hn2 (by omega) hc' hrr).below hb2) (Rd.below ht1 hb2)).mono ?_
        rw [Hsu.out]
        rintro e w3 ⟨rfl, rfl⟩
        go_wp2_with fail
        refine (more_any _ _ _ _ rest _ hq hrest.out (by omega) (hrr.below hb2) (Rd.below ht1 hb2)).mono ?_
        rw [Hmo.out]
        rintro e w3 ⟨rfl, rfl⟩
        go_wp2
        go_ret
        exact ⟨by simp, hb1.trans (hb2.mono hb1.size)⟩
end Go.Proofs.YtejgjkcelmjflaaDoor
