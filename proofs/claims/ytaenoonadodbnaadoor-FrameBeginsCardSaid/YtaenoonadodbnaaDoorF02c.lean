/- Package crc: sealed rows. -/
import Derived.Test.YtaenoonadodbnaaDoorF02b
import Derived.Test.YtaenoonadodbnaaDoorClone
import Derived.Deep.RegionHeld3
namespace Go.Proofs.YtaenoonadodbnaaDoor
open Go.RowKit Go.Px
set_option linter.unusedVariables false

theorem leB4 (s : Nat) (hs : s < 4294967296) : bys (leB 4 s) = [.int .u8 ((s : Int) % 256), .int .u8 ((s : Int) / 256 % 256), .int .u8 ((s : Int) / 65536 % 256), .int .u8 ((s : Int) / 16777216)] := by
  have e1 : s / 256 / 256 = s / 65536 := by omega
  have e2 : s / 65536 / 256 = s / 16777216 := by omega
  have e3 : s / 16777216 % 256 = s / 16777216 := by omega
  simp only [leB, bys, List.map_cons, List.map_nil, toNat_ofNat_mod, e1, e2, e3]
  simp
  omega

theorem conv_app (bs : List UInt8) (s : Nat) (hs : s < 4294967296) : bys (bs ++ leB 4 s) = bys bs ++ [.int .u8 ((s : Int) % 256), .int .u8 ((s : Int) / 256 % 256), .int .u8 ((s : Int) / 65536 % 256), .int .u8 ((s : Int) / 16777216)] := by rw [bys_append, leB4 s hs]

set_option maxHeartbeats 800000 in
theorem rseal_any (A : Option Addr) (m c : Nat) (bs : List UInt8) (w : World) (hm : bs.length = m) (hm8 : m ≤ 549755813888) (hr : Rd w A (bys bs)) :
    Calls Tryd.prog 28 #[.slice A m c] w fun e w' => ∃ v, e = .returned v ∧ w'.ownsRow w.heap.size 5 1 v (m + 4) (bys (bs ++ leB 4 (moreN 0 bs))) ∧ Below w.heap.size w w' := by
  have Hm := hide hm
  clear hm
  have hq := moreN_lt 0 bs
  have HC := hide (conv_app bs _ hq)
  go_enter Tryd.func28, Tryd.ntmps28
  go_wp2_with fail
  refine (rof_any _ _ _ bs _ Hm.out (by omega) hr).mono ?_
  rintro e w1 ⟨rfl, rfl⟩
  obtain ⟨s, hs⟩ : ∃ s, moreN 0 bs = s := ⟨_, rfl⟩
  rw [hs] at hq HC ⊢
  have Hs := hide hs
  clear hs
  go_wp2_with (first | (with_reducible refine stop_append rfl ?_) | (with_reducible refine stop_copy rfl ?_) | (with_reducible refine stop_make rfl ?_))
  refine (Grow.empty w _ _).append rfl rfl tBytes rfl rfl (by rw [bys_length, Hm.out]; omega) (hr.alloc _) (bys_one _) (by omega) (by omega) ?_
  intro v1 w1 hG1 _
  go_wp2_with (first | (with_reducible refine stop_append rfl ?_) | (with_reducible refine stop_copy rfl ?_) | (with_reducible refine stop_make rfl ?_))
  refine (hG1.alloc _).append rfl rfl tBytes rfl rfl (m := 4) (news := [.int .u8 ((s : Int) % 256), .int .u8 ((s : Int) / 256 % 256), .int .u8 ((s : Int) / 65536 % 256), .int .u8 ((s : Int) / 16777216)]) rfl (Rd.newG rfl) (fun u hu => by simp at hu; rcases hu with h | h | h | h <;> subst h <;> rfl) (by omega) (by omega) ?_
  intro v5 w5 hG5 _
  go_wp2
  go_ret
  refine ⟨_, rfl, ?_, hG5.emptyAll⟩
  have := hG5.owns
  rw [Hs.out, HC.out]
  rw [Nat.zero_add] at this
  exact this

theorem run_part_u8 (w : World) (cs : Array Value) (j : Nat) (h : j < cs.size) : (part 5 cs j).run Tryd.prog w = .ok cs[j] w := by
  unfold part
  simp [h]
theorem equalIn_u8 (w : World) (a b : Int) : (Op.equalIn 9999 5 (.int .u8 a) (.int .u8 b)).run Tryd.prog w = .ok (a == b) w := run_equalIn_int (P := Tryd.prog) w 9998 5 .u8 .u8 a b Tryd.underlying5
def eq4b (a0 a1 a2 a3 b0 b1 b2 b3 : Int) : Bool := a0 == b0 && (a1 == b1 && (a2 == b2 && a3 == b3))
theorem bys_inj {a b : List UInt8} (h : bys a = bys b) : a = b := by
  induction a generalizing b with
  | nil => cases b with
    | nil => rfl
    | cons y m => simp [bys] at h
  | cons x l ih =>
    cases b with
    | nil => simp [bys] at h
    | cons y m =>
      simp only [bys, List.map_cons, List.cons.injEq, Value.int.injEq, true_and] at h
      have : x = y := UInt8.toNat_inj.1 (by omega)
      rw [this, ih h.2]
/-- What Open tells: the error, and the row. -/
def openE (bs : List UInt8) : Int := if bs.length < 4 then 10 else if numN (bs.drop (bs.length - 4)) = moreN 0 (bs.take (bs.length - 4)) then 0 else 31
def openB (bs : List UInt8) : List UInt8 := if openE bs = 0 then bs.take (bs.length - 4) else []

end Go.Proofs.YtaenoonadodbnaaDoor
