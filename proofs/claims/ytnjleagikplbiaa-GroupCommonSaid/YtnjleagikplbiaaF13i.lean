/- group.Reached of a group that may be. -/
import Derived.Test.YtnjleagikplbiaaF13h
import Derived.Test.YtnjleagikplbiaaF13s
import Derived.Test.YtnjleagikplbiaaF13n
import Derived.RegionTactic
namespace Go.Proofs.Ytnjleagikplbiaa
open Go.RowKit Go.Px Go.Shelf Go.Lib
open Go.Sort hiding Below
set_option linter.unusedVariables false

@[go_sem] theorem eqnil_ints (w : World) (A : Option Addr) (n c n' c' : Nat) : (binOp .eql 22 (.slice A n c) (.slice none n' c')).run Try.prog w = .ok (.bool A.isNone) w := Lib.run_eql_slice_nil w _ _ A n c n' c' Try.underlying22
theorem iclone_any (A : Option Addr) (n c : Nat) (ms : List Int) (w : World) (hn : ms.length = n) (h8 : n ≤ 1099511627776) (hc : Rd w A (ints ms)) :
    Calls Try.prog 36 #[.slice A n c] w fun e w' => ∃ v, e = .returned v ∧ w'.ownsRow w.heap.size 3 1 v n (ints ms) ∧ Below w.heap.size w w' := by
  have Hn := hide hn
  clear hn
  rcases A with _ | a
  · have hb : ms = [] := by
      rcases ms with _ | ⟨b, r⟩
      · rfl
      · obtain ⟨a, ha, _⟩ := hc 0 _ rfl; cases ha
    subst hb
    have h0 := Hn.out
    simp only [List.length_nil] at h0
    subst h0
    go_enter Try.func36, Try.ntmps36
    go_wp2_with fail
    go_ret
    exact ⟨_, rfl, World.ownsRow_nil _ _ _ _, Below.refl _ _⟩
  · go_enter Try.func36, Try.ntmps36
    go_wp2_with (first | (with_reducible refine stop_append rfl ?_) | (with_reducible refine stop_copy rfl ?_) | (with_reducible refine stop_make rfl ?_))
    refine (Grow.empty w 3 1).append rfl rfl tInts rfl rfl (by rw [ints_length, Hn.out]; omega) (hc.alloc _) (ints_one _) (by omega) (by omega) ?_
    intro v' w1 hG _
    go_wp2
    go_ret
    refine ⟨_, rfl, by simpa using hG.owns, hG.emptyAll⟩

theorem wrap_pow : ∀ i : Nat, i < 9 → IntKind.u64.wrap ((2 : Int) ^ i) = ((2 ^ i : Nat) : Int) := by decide
theorem pow_small : ∀ i : Nat, i < 9 → 2 ^ i < 512 := by decide
set_option maxHeartbeats 800000 in
theorem reached_any (e : Int) (A : Option Addr) (n c : Nat) (ms : List Int) (A1 : Option Addr) (n1 c1 : Nat) (l : List Int) (w : World) (hn : ms.length = n) (hg : grpOk e ms = true) (hr : Rd w A (ints ms)) (hn1 : l.length = n1) (h1 : n1 ≤ 100) (hr1 : Rd w A1 (ints l)) :
    Calls Try.prog 26 #[grp e A n c, .slice A1 n1 c1] w fun x w' => x = .returned (.bool (reachB ms l)) ∧ Below w.heap.size w w' := by
  have hasc := (asc_of_nodes (grpOk_nodes hg)).1
  have hlen := grpOk_len hg
  rw [hn] at hlen
  have Hasc := hide hasc
  have Hn := hide hn
  have Hn1 := hide hn1
  obtain ⟨g, hge⟩ : ∃ g, w.heap.size = g := ⟨_, rfl⟩
  obtain ⟨w0, hw0⟩ : ∃ w0, w.alloc (.cells #[.int .i64 e, .slice A n c] 24) = w0 := ⟨_, rfl⟩
  have hG : Blk w0 g [.int .i64 e, .slice A n c] 24 := by rw [← hw0, ← hge]; exact Blk.new _ _ _
  have hb0 : Below w.heap.size w w0 := by rw [← hw0]; exact (Below.refl _ _).alloc (Nat.le_refl _) _
  have k0 := hG.cell (j := 0) rfl
  have k1 := hG.cell (j := 1) rfl
  clear hg hasc hn hn1
  go_enter Try.func26, Try.ntmps26
  go_wp2_with fail
  go_fit (iclone_any A n c ms w0 Hn.out (by omega) (hr.below hb0))
  rintro x w1 ⟨v1, rfl, ho1, hb1⟩
  have hG1 := hG.below hb1
  have hb01 := hb0.trans (hb1.mono hb0.size)
  obtain ⟨A', cap, rfl, _, hcap, hcapm, _, _⟩ := own_out ho1
  unfold maxLen at hcapm
  obtain ⟨blk, rfl, hblk1, hblk2⟩ := own_form ho1 (by omega)
  have hSet := set_any blk 0 cap ms w1 w0.heap.size (own_holds ho1 Hn.out) hblk2 (by rw [Hn.out]; omega) (by rw [Hn.out]; omega) hblk1
  rw [Hn.out] at hSet
  have HSet := hide hSet
  clear hSet
  go_wp2_with fail
  refine HSet.out.mono ?_
  rintro x w2 ⟨s, rfl, hs1, hs2, _, hs4, hb2⟩
  obtain rfl : s = ms := asc_ext hs1 Hasc.out hs2
  clear hs1 hs2
  have hlt0 : g < w0.heap.size := hG.lt
  have hG2 : Blk w2 g [.int .i64 e, .slice A n c] 24 := (hb2.block g hlt0).trans hG1
  have hb02 : Below w.heap.size w w2 := hb01.trans (hb2.mono hb0.size)
  rw [Hn.out]
  have hdiv : (n : Int) / 64 = 0 := by omega
  go_wp2_with (first | (with_reducible refine stop_append rfl ?_) | (with_reducible refine stop_copy rfl ?_) | (with_reducible refine stop_make rfl ?_))
  refine go_make rfl rfl tU64s rfl rfl (n := 1) (m := 1) (by rfl) (by rfl) (by omega) (by omega) (by omega) (Nat.le_refl _) ?_
  intro z w3 hz _ hw3 _ hg3
  obtain rfl : z = .int .u64 0 := by
    obtain ⟨i, hi1, hi2⟩ := hz
    have h0 : (Try.prog.info? 51).map (·.zero) = some (some (.int .u64 0)) := by kernel_rfl
    rw [hi1, Option.map_some, hi2] at h0
    exact Option.some.inj (Option.some.inj h0)
  have hgs : Blk w3 w2.heap.size [.int .u64 ((bitsN (among s (l.take 0)) : Nat) : Int)] 51 := by
    have h0 : bitsN (among s (l.take 0)) = 0 := by
      have : ∀ q : List Int, bitsN (among q []) = 0 := fun q => by
        induction q with
        | nil => rfl
        | cons a q ih => show false.toNat + 2 * bitsN (among q []) = 0; rw [ih]; rfl
      rw [List.take_zero]; exact this s
    have hmc : madeCells (Value.int .u64 0).cells (1 * 1) = #[.int .u64 0] := by
      apply Array.toList_inj.1
      rw [show (Value.int .u64 0).cells = #[.int .u64 0] from rfl, toList_madeCells_one]; rfl
    rw [h0, hw3, hmc]
    exact heap_alloc_new w2 _
  have hb23 : Below w2.heap.size w2 w3 := grown_below (Below.refl _ _) hg3 (Nat.le_refl _) (fun g hg => by cases hg)
  clear hw3 hg3
  obtain ⟨gs, hgse⟩ : ∃ gs, w2.heap.size = gs := ⟨_, rfl⟩
  rw [hgse] at hgs
  have hG3 := hG2.below hb23
  have hs3 := hs4.below hb23
  have hb03 := hb02.trans (hb23.mono hb02.size)
  have hblkgs : blk ≠ gs := by
    have := hb2.size
    obtain ⟨a0, ha0, hc0⟩ := hs4 0 (.int .i64 (s[0]'(by rw [Hn.out]; omega))) (by rw [ints_get (by rw [Hn.out]; omega)])
    injection ha0 with ha0
    subst ha0
    have := World.block_lt_of_cell? w2 _ hc0
    rw [add_block] at this
    rw [← hgse]; exact Nat.ne_of_lt this
  have hggs : g ≠ gs := by have := hG2.lt; omega
  have hwgs : w.heap.size ≤ gs := by rw [← hgse]; exact hb02.size
  have hsn : s.length ≤ 9 := by rw [Hn.out]; omega
  rw [hgse]
  go_wp2
  go_loopw [25] (fun i wr => ∃ k : Nat, k ≤ n1 ∧ i = .int .i64 k ∧ Blk wr gs [.int .u64 ((bitsN (among s (l.take k)) : Nat) : Int)] 51 ∧ Blk wr g [.int .i64 e, .slice A n c] 24 ∧ Rd wr (some ⟨blk, 0, none⟩) (ints s) ∧ Below w.heap.size w wr) (fun i _ => n1 - (intOf i).toNat)
  case atStart => exact ⟨0, by omega, rfl, hgs, hG3, hs3, hb03⟩
  case round =>
    obtain ⟨k, hk, rfl, hS, hGr, hsr, hbw⟩ := hrel
    by_cases hkn : k < n1
    · have hkl : k < l.length := by rw [Hn1.out]; exact hkn
      obtain ⟨a, ha, hc⟩ := hr1.below hbw k _ (ints_get hkl)
      obtain ⟨y, hy⟩ : ∃ y, l[k] = y := ⟨_, rfl⟩
      rw [hy] at hc
      subst ha
      have hcs : ∀ j, j < s.length → wr.cell? ⟨blk, 0 + j, none⟩ = some (.int .i64 (s.getD j 0)) := fun j hj => by
        have := hsr.at_ (ints_get hj)
        rw [addr_add0] at this
        rw [Nat.zero_add, this, List.getD_eq_getElem?_getD, List.getElem?_eq_getElem hj]; rfl
      have hBS := Try.slices_BinarySearch_int blk 0 n cap s y wr (by rw [Hn.out]; exact Nat.le_refl _) (by omega) hcs (by rw [List.take_of_length_le (by rw [Hn.out]; exact Nat.le_refl _)]; exact Hasc.out.imp (fun h => Int.le_of_lt h))
      rw [List.take_of_length_le (by rw [Hn.out]; exact Nat.le_refl _)] at hBS
      have HBS := hide hBS
      clear hBS hcs
      rcases bool_two (s.contains y) with hcy | hcy
      · obtain ⟨i, hi, hiy⟩ := List.getElem_of_mem (show y ∈ s by simpa using hcy)
        have hcp := asc_place Hasc.out hi
        rw [hiy] at hcp
        have HSet2 := hide (congrArg bitsN (among_set Hasc.out hkl hi (by rw [hiy, hy])))
        have HOr := hide (bitsN_or (among s (l.take k)) i (by rw [among_length]; exact hi))
        have hbl := bitsN_lt (among s (l.take k))
        rw [among_length] at hbl
        have Hcp := hide hcp
        have Hcy := hide hcy
        clear hcp hcy hy hiy
        go_wp2_with fail
        refine HBS.out.mono ?_
        rw [Hcp.out, Hcy.out]
        rintro x w5 ⟨rfl, q5, rfl⟩
        obtain ⟨w5, hw5⟩ : ∃ w5, wr.drewN q5 = w5 := ⟨_, rfl⟩
        have hS5 : Blk w5 gs [.int .u64 ((bitsN (among s (l.take k)) : Nat) : Int)] 51 := by rw [← hw5]; exact hS
        have hG5 : Blk w5 g [.int .i64 e, .slice A n c] 24 := by rw [← hw5]; exact hGr
        have hr5 : Rd w5 (some ⟨blk, 0, none⟩) (ints s) := by rw [← hw5]; exact hsr.drewN _
        have hb5 : Below w.heap.size w w5 := by rw [← hw5]; exact below_drewN hbw _
        rw [hw5]
        clear hS hGr hsr hbw
        obtain ⟨bn, hbn⟩ : ∃ bn, bitsN (among s (l.take k)) = bn := ⟨_, rfl⟩
        rw [hbn] at hS5 hbl HOr
        have hbn512 : bn < 512 := Nat.lt_of_lt_of_le hbl (Nat.le_trans (Nat.pow_le_pow_right (by decide) hsn) (by decide))
        have r0 := hS5.cell (j := 0) rfl
        have r1 := hS5.frozen 0
        have r0' : w5.drew.cell? ⟨gs, 0, none⟩ = some (.int .u64 (bn : Int)) := r0
        have hi9 : i < 9 := by omega
        have rel : ∀ X, Blk X gs [.int .u64 ((bn ||| 2 ^ i : Nat) : Int)] 51 → Blk X gs [.int .u64 ((bitsN (among s (l.take (k + 1))) : Nat) : Int)] 51 := fun X h => by rw [HSet2.out, ← HOr.out]; exact h
        have Rel := hide rel
        have Hor := hide (fun t : Nat => fun (ht : t < 512) => u64_or_nat bn t (by omega) (by omega))
        clear rel HOr HSet2 hbl hbn
        have he : bits .or .u64 (bn : Int) (IntKind.u64.wrap (2 ^ i)) = ((bn ||| 2 ^ i : Nat) : Int) := by rw [wrap_pow i hi9]; exact Hor.out _ (pow_small i hi9)
        have He := hide he
        clear he
        have hdi : (i : Int) / 64 = 0 := by omega
        have hmi : (i : Int) % 64 = (i : Int) := by omega
        go_wp2_with fail
        go_region
        all_goals
          go_wp2
          go_roundw
          case rel =>
            refine ⟨k + 1, by omega, by go_num, Rel.out _ ?_, ?_, ?_, ?_⟩
            · have := hS5.set 0 (.int .u64 (bits .or .u64 (bn : Int) (IntKind.u64.wrap (2 ^ i))))
              rw [He.out] at this ⊢
              exact this.drew
            · exact (hG5.apart hggs 0 _).drew
            · exact (rd_apart hr5 (show (⟨blk, 0, none⟩ : Addr).block ≠ gs from hblkgs) 0 _).drew
            · exact (hb5.setCell hwgs _).drew
          case measure => simp [intOf]; omega
      · have HNo := hide (congrArg bitsN (among_none (ms := s) hkl (by rw [hy]; unfold inB; simpa using hcy)))
        have Hcy := hide hcy
        obtain ⟨cn, hcn⟩ : ∃ cn, s.countP (· < y) = cn := ⟨_, rfl⟩
        have Hcn := hide hcn
        clear hcy hy hcn
        go_wp2_with fail
        refine HBS.out.mono ?_
        rw [Hcn.out, Hcy.out]
        rintro x w5 ⟨rfl, q5, rfl⟩
        go_wp2
        go_roundw
        case rel => exact ⟨k + 1, by omega, by go_num, by rw [HNo.out]; exact hS, hGr, hsr.drewN _, below_drewN hbw _⟩
        case measure => simp [intOf]; omega
    · have hAll := hide (show among s (l.take k) = among s l by rw [List.take_of_length_le (by rw [Hn1.out]; omega)])
      rw [hAll.out] at hS
      have hbl := bitsN_lt (among s l)
      rw [among_length] at hbl
      have hb512 : bitsN (among s l) < 512 := Nat.lt_of_lt_of_le hbl (Nat.le_trans (Nat.pow_le_pow_right (by decide) hsn) (by decide))
      have hpop : popN 9 (bitsN (among s l)) = reachN s l := popN_bits 9 _ (by rw [among_length]; exact hsn)
      have hrn : reachN s l ≤ n := by
        unfold reachN
        refine Nat.le_trans List.count_le_length ?_
        rw [among_length, Hn.out]; exact Nat.le_refl _
      have hRB : reachB s l = decide (n / 2 + 1 ≤ reachN s l) := by unfold reachB; rw [Hn.out]
      obtain ⟨bn, hbn⟩ : ∃ bn, bitsN (among s l) = bn := ⟨_, rfl⟩
      obtain ⟨rn, hrne⟩ : ∃ rn, reachN s l = rn := ⟨_, rfl⟩
      rw [hbn] at hS hb512 hpop
      rw [hrne] at hpop hrn hRB
      have HRB := hide hRB
      have Hpop := hide hpop
      have s0 := hS.cell (j := 0) rfl
      clear hbl hbn hrne hpop hRB
      go_wp2
      go_loop [11, 49] (fun t i => ∃ j : Nat, j ≤ 1 ∧ i = .int .i64 j ∧ t = .int .i64 ((if j = 0 then 0 else rn : Nat) : Int)) (fun _ i => 1 - (intOf i).toNat)
      case atStart => exact ⟨0, by omega, rfl, rfl⟩
      case round =>
        obtain ⟨j, hj, rfl, rfl⟩ := hrel
        obtain rfl | rfl : j = 0 ∨ j = 1 := by omega
        · go_wp2_with fail
          go_fit (ones_any bn wr hb512)
          rw [Hpop.out]
          rintro x w5 ⟨rfl, rfl⟩
          go_wp2
          go_round
          case rel => exact ⟨1, by omega, rfl, by simp⟩
          case measure => simp [intOf]
        · rw [if_neg (by omega)]
          have g0 := hGr.cell (j := 0) rfl
          have g1 := hGr.cell (j := 1) rfl
          go_wp2_with fail
          go_fit (quorum_any e A n c _ (by omega))
          rintro x w6 ⟨rfl, hb6⟩
          go_wp2
          go_ret
          exact ⟨by rw [HRB.out]; simp; omega, hbw.trans (hb6.mono hbw.size)⟩
end Go.Proofs.Ytnjleagikplbiaa
