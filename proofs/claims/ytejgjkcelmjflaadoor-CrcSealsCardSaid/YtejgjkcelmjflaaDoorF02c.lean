/- Package crc: sealed rows. -/
import Derived.Test.YtejgjkcelmjflaaDoorF02b
import Derived.Test.YtejgjkcelmjflaaDoorClone
import Derived.Deep.RegionHeld3
namespace Go.Proofs.YtejgjkcelmjflaaDoor
open Go.RowKit Go.Px
set_option linter.unusedVariables false

theorem leB4 (s : Nat) (hs : s < 4294967296) : bys (leB 4 s) = [.int .u8 ((s : Int) % 256), .int .u8 ((s : Int) / 256 % 256), .int .u8 ((s : Int) / 65536 % 256), .int .u8 ((s : Int) / 16777216)] := by
  have e1 : s / 256 / 256 = s / 65536 := by omega
  have e2 : s / 65536 / 256 = s / 16777216 := by omega
  have e3 : s / 16777216 % 256 = s / 16777216 := by omega
  simp only [leB, bys, List.map_cons, List.map_nil, toNat_ofNat_mod, e1, e2, e3]
  simp
  omega

set_option maxHeartbeats 400000 in
theorem tail_any (s : Nat) (w : World) (hs : s < 4294967296) : Calls Tryd.prog 24 #[.int .u32 s] w fun e w' => ∃ t0 t1 t2 t3 : Int, e = .returned (.agg #[.int .u8 t0, .int .u8 t1, .int .u8 t2, .int .u8 t3]) ∧ Hid (bys (leB 4 s) = [.int .u8 t0, .int .u8 t1, .int .u8 t2, .int .u8 t3]) ∧ Below w.heap.size w w' := by
  have HB := hide (leB4 s hs)
  go_enter Tryd.func24, Tryd.ntmps24
  go_wp2
  refine bodyPost_ret (v := .agg #[.int .u8 ((s : Int) % 256), .int .u8 ((s : Int) / 256 % 256), .int .u8 ((s : Int) / 65536 % 256), .int .u8 ((s : Int) / 16777216)]) (by simp [results, Tryd.results24, go_sem]) rfl ⟨_, _, _, _, rfl, HB, (Below.refl _ _).alloc (Nat.le_refl _) _⟩

set_option maxHeartbeats 800000 in
theorem seal_any (A : Option Addr) (m c : Nat) (bs : List UInt8) (w : World) (hm : bs.length = m) (hm8 : m ≤ 549755813888) (hmc : m ≤ c) (hc : c ≤ 9223372036854775807) (hr : Rd w A (bys bs)) (ht : Tab w) :
    Calls Tryd.prog 15 #[.slice A m c] w fun e w' => ∃ v, e = .returned v ∧ w'.ownsRow w.heap.size 5 1 v (m + 4) (bys (bs ++ leB 4 (moreN 0 bs))) ∧ Below w.heap.size w w' := by
  have Hm := hide hm
  clear hm
  go_enter Tryd.func15, Tryd.ntmps15
  go_wp2_with (first | (with_reducible refine stop_append rfl ?_) | (with_reducible refine stop_copy rfl ?_) | (with_reducible refine stop_make rfl ?_))
  refine go_make rfl rfl tBytes rfl rfl (n := m) (m := m + 4) rfl (by omega) (by omega) (by omega) (by omega) (Nat.le_refl _) ?_
  intro z w1 _ _ hw1 ho1 hg1
  have Hw1 := hide hw1
  clear hw1
  have hb1 : Below w.heap.size w w1 := grown_below (Below.refl _ _) hg1 (Nat.le_refl _) (fun g hg => by cases hg)
  go_wp2_with (first | (with_reducible refine stop_append rfl ?_) | (with_reducible refine stop_copy rfl ?_) | (with_reducible refine stop_make rfl ?_))
  refine go_copy rfl rfl tBytes ho1 rfl (off := 0) (by omega) rfl (by rw [bys_length]; exact Hm.out) (hr.below hb1) (bys_one _) ?_
  intro w2 ho2 hg2
  have hb2 : Below w.heap.size w w2 := hb1.grown hg2 hg1.size (fun g hg => by injection hg with hg; omega)
  simp only [List.take_zero, List.nil_append, Nat.min_self, Nat.zero_add] at ho2
  rw [List.take_of_length_le (by rw [bys_length, Hm.out]; exact Nat.le_refl _), List.drop_eq_nil_of_le (by rw [List.length_take]; omega), List.append_nil] at ho2
  have hr2 := hr.below hb2
  have ht2 : Tab w2 := Rd.below ht hb2
  go_wp2_with fail
  refine (sum_any _ 1 1 [.slice A m c] [bs] _ rfl (by decide) (Rd.newG rfl) ?_ (Rd.alloc ht2 _)).mono ?_
  · exact BRows.nil.snoc (c := c) Hm.out hmc (by omega) hc (hr2.alloc _)
  rintro e w3 ⟨rfl, rfl⟩
  rw [show sumN [bs] = moreN 0 bs from rfl]
  have hq := moreN_lt 0 bs
  go_wp2_with fail
  refine (tail_any _ _ hq).mono ?_
  rintro e w4 ⟨t0, t1, t2, t3, rfl, HB, hb4⟩
  go_wp2_with (first | (with_reducible refine stop_append rfl ?_) | (with_reducible refine stop_copy rfl ?_) | (with_reducible refine stop_make rfl ?_))
  have hG := ((((Grow.start ho2 (Nat.le_trans hg1.size hg2.size)).alloc (.cells #[.slice A m c] 22)).below hb4).alloc (.cells #[.int .u8 t0, .int .u8 t1, .int .u8 t2, .int .u8 t3] 47))
  refine hG.append rfl rfl tBytes rfl rfl (m := 4) (news := [.int .u8 t0, .int .u8 t1, .int .u8 t2, .int .u8 t3]) rfl (Rd.newG rfl) (fun u hu => by simp at hu; rcases hu with h | h | h | h <;> subst h <;> rfl) (by omega) (by omega) ?_
  intro v5 w5 hG5 _
  go_wp2
  go_ret
  refine ⟨_, rfl, ?_, hG5.allOf hb2 (Nat.le_trans hg1.size hg2.size) (fun g hg => by simp [Value.ownBlock] at hg; omega)⟩
  have := hG5.owns
  rw [← HB.out, ← bys_append] at this
  exact this

theorem conv_app (bs : List UInt8) (s : Nat) (hs : s < 4294967296) : bys (bs ++ leB 4 s) = bys bs ++ [.int .u8 ((s : Int) % 256), .int .u8 ((s : Int) / 256 % 256), .int .u8 ((s : Int) / 65536 % 256), .int .u8 ((s : Int) / 16777216)] := by rw [bys_append, leB4 s hs]

set_option maxHeartbeats 800000 in
theorem rseal_any (A : Option Addr) (m c : Nat) (bs : List UInt8) (w : World) (hm : bs.length = m) (hm8 : m ≤ 549755813888) (hr : Rd w A (bys bs)) :
    Calls Tryd.prog 18 #[.slice A m c] w fun e w' => ∃ v, e = .returned v ∧ w'.ownsRow w.heap.size 5 1 v (m + 4) (bys (bs ++ leB 4 (moreN 0 bs))) ∧ Below w.heap.size w w' := by
  have Hm := hide hm
  clear hm
  have hq := moreN_lt 0 bs
  have HC := hide (conv_app bs _ hq)
  go_enter Tryd.func18, Tryd.ntmps18
  go_wp2_with fail
  refine (rof_any _ _ _ bs _ Hm.out (by omega) hr).mono ?_
  rintro e w1 ⟨rfl, rfl⟩
  obtain ⟨s, hs⟩ : ∃ s, moreN 0 bs = s := ⟨_, rfl⟩
  rw [hs] at hq HC ⊢
  have Hs := hide hs
  clear hs
  go_wp2_with (first | (with_reducible refine stop_append rfl ?_) | (with_reducible refine stop_copy rfl ?_) | (with_reducible refine stop_make rfl ?_))
  refine (Grow.empty w _ _).append rfl rfl tBytes rfl rfl (by rw [bys_length, Hm.out]; omega) (hr.alloc _) (bys_one _) (by omega) (by omega) ?_
  intro v1 w1 hG1 _
  go_wp2_with (first | (with_reducible refine stop_append rfl ?_) | (with_reducible refine stop_copy rfl ?_) | (with_reducible refine stop_make rfl ?_))
  refine (hG1.alloc _).append rfl rfl tBytes rfl rfl (m := 4) (news := [.int .u8 ((s : Int) % 256), .int .u8 ((s : Int) / 256 % 256), .int .u8 ((s : Int) / 65536 % 256), .int .u8 ((s : Int) / 16777216)]) rfl (Rd.newG rfl) (fun u hu => by simp at hu; rcases hu with h | h | h | h <;> subst h <;> rfl) (by omega) (by omega) ?_
  intro v5 w5 hG5 _
  go_wp2
  go_ret
  refine ⟨_, rfl, ?_, hG5.emptyAll⟩
  have := hG5.owns
  rw [Hs.out, HC.out]
  rw [Nat.zero_add] at this
  exact this

theorem run_part_u8 (w : World) (cs : Array Value) (j : Nat) (h : j < cs.size) : (part 5 cs j).run Tryd.prog w = .ok cs[j] w := by
  unfold part
  simp [h]
theorem equalIn_u8 (w : World) (a b : Int) : (Op.equalIn 9999 5 (.int .u8 a) (.int .u8 b)).run Tryd.prog w = .ok (a == b) w := run_equalIn_int (P := Tryd.prog) w 9998 5 .u8 .u8 a b Tryd.underlying5
def eq4b (a0 a1 a2 a3 b0 b1 b2 b3 : Int) : Bool := a0 == b0 && (a1 == b1 && (a2 == b2 && a3 == b3))
@[go_sem] theorem eqArr4 (w : World) (a0 a1 a2 a3 b0 b1 b2 b3 : Int) : (Op.equalIn 10000 47 (.agg #[.int .u8 a0, .int .u8 a1, .int .u8 a2, .int .u8 a3]) (.agg #[.int .u8 b0, .int .u8 b1, .int .u8 b2, .int .u8 b3])).run Tryd.prog w =
    .ok (eq4b a0 a1 a2 a3 b0 b1 b2 b3) w := by
  unfold Op.equalIn eq4b
  simp [run_underlying Tryd.underlying47]
  rw [show List.range' 0 4 = [0, 1, 2, 3] from rfl]
  simp only [List.forIn_cons, List.forIn_nil, Sem.run_bind]
  by_cases h0 : a0 = b0 <;> by_cases h1 : a1 = b1 <;> by_cases h2 : a2 = b2 <;> by_cases h3 : a3 = b3 <;>
  simp [run_part_u8, Result.andThen, equalIn_u8, h0, h1, h2, h3]

theorem bys_inj {a b : List UInt8} (h : bys a = bys b) : a = b := by
  induction a generalizing b with
  | nil => cases b with
    | nil => rfl
    | cons y m => simp [bys] at h
  | cons x l ih =>
    cases b with
    | nil => simp [bys] at h
    | cons y m =>
      simp only [bys, List.map_cons, List.cons.injEq, Value.int.injEq, true_and] at h
      have : x = y := UInt8.toNat_inj.1 (by omega)
      rw [this, ih h.2]
/-- What Open tells: the error, and the row. -/
def openE (bs : List UInt8) : Int := if bs.length < 4 then 10 else if numN (bs.drop (bs.length - 4)) = moreN 0 (bs.take (bs.length - 4)) then 0 else 31
def openB (bs : List UInt8) : List UInt8 := if openE bs = 0 then bs.take (bs.length - 4) else []

set_option maxHeartbeats 800000 in
theorem open_any (A : Option Addr) (m c : Nat) (bs : List UInt8) (w : World) (hm : bs.length = m) (hm8 : m ≤ 549755813888) (hmc : m ≤ c) (hc : c ≤ 9223372036854775807) (hr : Rd w A (bys bs)) (ht : Tab w) :
    Calls Tryd.prog 16 #[.slice A m c] w fun e w' => ∃ v, e = .returned (.tuple #[v, .int .i64 (openE bs)]) ∧ w'.ownsRow w.heap.size 5 1 v (openB bs).length (bys (openB bs)) ∧ Below w.heap.size w w' := by
  have Hm := hide hm
  clear hm
  by_cases h4 : m < 4
  · have HE := hide (show openE bs = 10 by unfold openE; rw [if_pos (by rw [Hm.out]; exact h4)])
    have HB := hide (show openB bs = [] by unfold openB; rw [if_neg (by rw [HE.out]; decide)])
    go_enter Tryd.func16, Tryd.ntmps16
    go_wp2
    go_ret2
    rw [HE.out, HB.out]
    exact ⟨_, rfl, World.ownsRow_nil _ _ _ _, Below.refl _ _⟩
  · obtain ⟨n, hn⟩ : ∃ n : Nat, m = n + 4 := ⟨m - 4, by omega⟩
    subst hn
    obtain ⟨a, hA, _⟩ := hr.some_of (by rw [bys_length, Hm.out]; omega)
    subst hA
    have hcut : cutA (some a) c n 1 = some (a.add n) := by unfold cutA; rw [if_neg (by omega), Nat.mul_one]; rfl
    have hrt : Rd w (some (a.add n)) (bys (bs.drop n)) := by rw [bys_drop]; exact hr.cut
    have hrp : Rd w (some a) (bys (bs.take n)) := by rw [bys_take]; exact hr.take n
    have Hp := hide (show (bs.take n).length = n by rw [List.length_take, Hm.out]; omega)
    have Hd := hide (show (bs.drop n).length = 4 by rw [List.length_drop, Hm.out]; omega)
    have HE := hide (show openE bs = if numN (bs.drop n) = moreN 0 (bs.take n) then 0 else 31 by unfold openE; rw [if_neg (by rw [Hm.out]; exact h4), Hm.out]; rfl)
    have HB := hide (show openB bs = if openE bs = 0 then bs.take n else [] by unfold openB; rw [Hm.out]; rfl)
    generalize bs.take n = pre at *
    generalize bs.drop n = suf at *
    obtain ⟨b0, b1, b2, b3, rfl⟩ : ∃ b0 b1 b2 b3, suf = [b0, b1, b2, b3] := by
      match suf, Hd.out with
      | [b0, b1, b2, b3], _ => exact ⟨b0, b1, b2, b3, rfl⟩
    generalize a.add n = p at *
    have g0 : w.cell? p = some (.int .u8 (b0.toNat : Int)) := hrt.at_ (j := 0) rfl
    have g1 : w.cell? ⟨p.block, p.off + 1, none⟩ = some (.int .u8 (b1.toNat : Int)) := hrt.atS (k := 0) rfl
    have g2 : w.cell? ⟨p.block, p.off + 2, none⟩ = some (.int .u8 (b2.toNat : Int)) := hrt.atS (k := 1) rfl
    have g3 : w.cell? ⟨p.block, p.off + 3, none⟩ = some (.int .u8 (b3.toNat : Int)) := hrt.atS (k := 2) rfl
    have hn4 := numN_lt [b0, b1, b2, b3]
    have Hq := hide (show bys [b0, b1, b2, b3] = [.int .u8 (b0.toNat : Int), .int .u8 (b1.toNat : Int), .int .u8 (b2.toNat : Int), .int .u8 (b3.toNat : Int)] from rfl)
    have hq := moreN_lt 0 pre
    have harr : ∀ (W : World) (cap : Nat), (Instr.arrayAt 47 (.slice (some p) 4 cap)).run Tryd.prog W = .ok (.pointer (some p)) W := fun W cap => by
      simp [Instr.arrayAt, run_underlying Tryd.underlying47]
    have k0 : (0 : Int) ≤ (n : Int) := Int.natCast_nonneg _
    have k1 : (n : Int) ≤ (n : Int) + 4 := by omega
    have k2 : (n : Int) ≤ (c : Int) := by omega
    go_enter Tryd.func16, Tryd.ntmps16
    go_wp2
    go_region_held3 (fun w' => w'.cell? p = some (.int .u8 (b0.toNat : Int)) ∧ w'.cell? ⟨p.block, p.off + 1, none⟩ = some (.int .u8 (b1.toNat : Int)) ∧ w'.cell? ⟨p.block, p.off + 2, none⟩ = some (.int .u8 (b2.toNat : Int)) ∧ w'.cell? ⟨p.block, p.off + 3, none⟩ = some (.int .u8 (b3.toNat : Int)))
      (first | go_keep | (go_split_ands; refine ⟨?_, ?_, ?_, ?_⟩ <;> (refine cell_later hb4 ?_; first | assumption | go_keep)))
      (first
        | (go_at_call 9; refine (sum_any _ 1 1 [.slice (some a) n c] [pre] _ rfl (by decide) (Rd.newG (by simp)) (BRows.nil.snoc (c := c) Hp.out (by omega) (by omega) hc (Rd.alloc (Rd.drew hrp) _)) (Rd.alloc (Rd.drew ht) _)).mono ?_; rw [show sumN [pre] = moreN 0 pre from rfl]; rintro e w3 ⟨rfl, rfl⟩)
        | (go_at_call 24; refine (tail_any _ _ hq).mono ?_; rintro e w4 ⟨t0, t1, t2, t3, rfl, HB4, hb4⟩))
    all_goals
      have hq4 : eq4b (b0.toNat : Int) (b1.toNat : Int) (b2.toNat : Int) (b3.toNat : Int) t0 t1 t2 t3 = decide (numN [b0, b1, b2, b3] = moreN 0 pre) := by
        unfold eq4b
        rw [Bool.eq_iff_iff]
        simp only [Bool.and_eq_true, beq_iff_eq, decide_eq_true_eq]
        constructor
        · rintro ⟨rfl, rfl, rfl, rfl⟩
          have : [b0, b1, b2, b3] = leB 4 (moreN 0 pre) := bys_inj (Hq.out.trans HB4.out.symm)
          rw [this]; exact numN_leB 4 _ hq
        · intro h
          have : leB 4 (moreN 0 pre) = [b0, b1, b2, b3] := by rw [← h]; exact leB_numN [b0, b1, b2, b3]
          have h2 := HB4.out
          rw [this, Hq.out] at h2
          simp only [List.cons.injEq, Value.int.injEq, true_and, and_true] at h2
          exact h2
      have hbw : Below w.heap.size w w4 := (((Below.refl _ _).drew).alloc (by simp) _).trans (hb4.mono (by simp))
      by_cases hx : numN [b0, b1, b2, b3] = moreN 0 pre
      · have HE2 := hide (show openE bs = 0 by rw [HE.out, if_pos hx])
        have HB2 := hide (show openB bs = pre by rw [HB.out, if_pos HE2.out])
        rw [decide_eq_true hx] at hq4
        clear hx
        simp only [hq4, Bool.not_true]
        go_wp2_with fail
        refine (clone_any _ _ _ pre _ Hp.out (by omega) (hrp.below hbw)).mono ?_
        rintro e w5 ⟨v5, rfl, ho5, hb5⟩
        go_wp2
        go_ret2
        rw [HE2.out, HB2.out, Hp.out]
        exact ⟨_, rfl, own_weak ho5 hbw.size, hbw.trans (hb5.mono hbw.size)⟩
      · have HE2 := hide (show openE bs = 31 by rw [HE.out, if_neg hx])
        have HB2 := hide (show openB bs = [] by rw [HB.out, if_neg (by rw [HE2.out]; decide)])
        rw [decide_eq_false hx] at hq4
        clear hx
        simp only [hq4, Bool.not_false]
        go_wp2
        go_ret2
        rw [HE2.out, HB2.out]
        exact ⟨_, rfl, World.ownsRow_nil _ _ _ _, hbw⟩

end Go.Proofs.YtejgjkcelmjflaaDoor
