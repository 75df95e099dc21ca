/- plinthref05's volume in memory, exactly; read. -/
import Derived.Test.YtjilkaciopiabaaDoorF05s
namespace Go.Proofs.YtjilkaciopiabaaDoor
open Go.RowKit Go.Px
set_option linter.unusedVariables false
/-- A volume of plinthref05 at block rv: its rows' slices at block gb, its versions at block gv. -/
structure RVolIs (w : World) (lo rv gb gv cb cv b z N : Nat) (rows sv : List Value) (bs : List UInt8) (vs : List Int) (last : Int) : Prop where
  blk : Blk w rv [.int .i64 b, .int .i64 z, .slice (some ⟨gb, 0, none⟩) b cb, .slice (some ⟨gv, 0, none⟩) b cv, .int .i64 last] 70
  row : Blk w gb rows 36
  ver : Blk w gv (ints vs ++ sv) 3
  cells : ∀ i, i < b → ∃ A c, rows[i]? = some (.slice A z c) ∧ z ≤ c ∧ c ≤ 9223372036854775807 ∧ Rd w A (bys (segB bs i 1 z)) ∧ ∀ a, A = some a → lo ≤ a.block ∧ a.block ≠ rv ∧ a.block ≠ gb ∧ a.block ≠ gv
  hlo : lo ≤ rv ∧ lo ≤ gb ∧ lo ≤ gv
  lb : bs.length = N
  lv : vs.length = b
  hN : b * z = N
  rb : rv ≠ gb
  rg : rv ≠ gv
  bg : gb ≠ gv
  hb : 1 ≤ b ∧ b ≤ 4096
  hz : 1 ≤ z ∧ z ≤ 4096
  hcb : b ≤ cb ∧ cb ≤ 9223372036854775807
  hcv : b ≤ cv ∧ cv ≤ 9223372036854775807
section
variable {w w' : World} {lo rv gb gv cb cv b z N : Nat} {rows sv : List Value} {bs : List UInt8} {vs : List Int} {last : Int}
theorem RVolIs.upd {v r s : Nat} (h : RVolIs w lo rv gb gv cb cv b z N rows sv bs vs last) (hb : Upd v r s w w') (h1 : v < lo ∧ r < lo ∧ s < lo) : RVolIs w' lo rv gb gv cb cv b z N rows sv bs vs last := by
  obtain ⟨l1, l2, l3⟩ := h.hlo
  exact { h with
    blk := (hb.blk _ h.blk.lt (by omega) (by omega) (by omega)).trans h.blk
    row := (hb.blk _ h.row.lt (by omega) (by omega) (by omega)).trans h.row
    ver := (hb.blk _ h.ver.lt (by omega) (by omega) (by omega)).trans h.ver
    cells := fun i hi => by
      obtain ⟨A, c, k1, k2, k3, k4, k5⟩ := h.cells i hi
      exact ⟨A, c, k1, k2, k3, Rd.upd k4 hb (fun a ha => by have := (k5 a ha).1; omega), k5⟩ }
theorem RVolIs.below (h : RVolIs w lo rv gb gv cb cv b z N rows sv bs vs last) (hb : Below w.heap.size w w') : RVolIs w' lo rv gb gv cb cv b z N rows sv bs vs last :=
  { h with
    blk := h.blk.below hb
    row := h.row.below hb
    ver := h.ver.below hb
    cells := fun i hi => by
      obtain ⟨A, c, k1, k2, k3, k4, k5⟩ := h.cells i hi
      exact ⟨A, c, k1, k2, k3, k4.below hb, k5⟩ }
end
theorem segB_snoc (bs : List UInt8) (p k z : Nat) : segB bs p (k + 1) z = segB bs p k z ++ segB bs (p + k) 1 z := by
  unfold segB
  rw [Nat.add_mul, Nat.one_mul, List.take_add, List.drop_drop, ← Nat.add_mul]
theorem segB_zero (bs : List UInt8) (p z : Nat) : segB bs p 0 z = [] := by unfold segB; simp
set_option maxHeartbeats 1600000 in
theorem rread_any (w : World) (lo rv gb gv cb cv b z N : Nat) (rows sv : List Value) (bs : List UInt8) (vs : List Int) (last : Int) (p n : Nat) (h : RVolIs w lo rv gb gv cb cv b z N rows sv bs vs last) (hpn : p + n ≤ b) :
    Calls Tryd.prog 40 #[.pointer (some ⟨rv, 0, none⟩), .int .i64 p, .int .i64 n] w fun e w' => ∃ o, e = .returned o ∧ w'.ownsRow w.heap.size 5 1 o (n * z) (bys (segB bs p n z)) ∧ Below w.heap.size w w' := by
  obtain ⟨hb1, hb2⟩ := h.hb
  obtain ⟨hz1, hz2⟩ := h.hz
  go_enter Tryd.func40, Tryd.ntmps40
  go_wp2
  go_loopw [7, 8] (fun o i wr => ∃ (k : Nat), k ≤ n ∧ i = .int .i64 ((p + k : Nat) : Int) ∧ wr.ownsRow w.heap.size 5 1 o (k * z) (bys (segB bs p k z)) ∧ Below w.heap.size w wr) (fun _ i _ => p + n - (intOf i).toNat)
  case atStart => exact ⟨0, by omega, by simp, by rw [segB_zero, Nat.zero_mul]; exact World.ownsRow_nil _ _ _ _, Below.refl _ _⟩
  case round =>
    obtain ⟨k, hk, rfl, hown, hbw⟩ := hrel
    have hszw := hbw.size
    obtain ⟨q, hq⟩ : ∃ q, p + k = q := ⟨_, rfl⟩
    rw [hq]
    by_cases hlt : k < n
    · have hR := h.below hbw
      have hqb : q < b := by omega
      have hqn : q < p + n := by omega
      obtain ⟨A, c, k1, k2, k3, k4, k5⟩ := hR.cells q hqb
      have x1 := hR.blk.cell (j := 2) rfl
      have y1 := hR.row.cell (j := q) k1
      have hsl := segB_length (bs := bs) (p := q) (n := 1) h.lb h.hN (by omega)
      rw [Nat.one_mul] at hsl
      have hkz : k * z + z = (k + 1) * z := by rw [Nat.add_mul, Nat.one_mul]
      have hkz2 : k * z ≤ 4096 * 4096 := Nat.mul_le_mul (by omega) (by omega)
      have Hs := hide (segB_snoc bs p k z)
      have hlo := own_lt hown
      obtain ⟨M, hM⟩ : ∃ M, k * z = M := ⟨_, rfl⟩
      rw [hM] at hkz hkz2 hown
      have Hkz := hide hkz
      have Hsl := hide hsl
      have Hq := hide hq
      clear hM hkz hsl hq
      go_wp2_with (first | (with_reducible refine stop_append rfl ?_) | (with_reducible refine stop_copy rfl ?_) | (with_reducible refine stop_make rfl ?_))
      refine go_append (v := u7) rfl rfl tBytes rfl hown rfl (m := z) (news := bys (segB bs q 1 z)) (by simp [bys, Hsl.out]) k4 (bys_one _) (by omega) (by omega) (by omega) ?_
      intro v5 w5 hown5 hg5 hv5
      have hb5 : Below w.heap.size w w5 := hbw.grown hg5 (by omega) (fun x hx => (hlo x hx).1)
      go_wp2
      go_roundw
      case rel => exact ⟨k + 1, by omega, by have := Hq.out; go_num, by rw [Hs.out, Hq.out, bys_append, ← Hkz.out]; exact hown5, hb5⟩
      case measure => simp [intOf]; omega
    · obtain rfl : k = n := by omega
      have hqn : ¬ q < p + k := by omega
      go_wp2
      go_ret
      exact ⟨_, rfl, hown, hbw⟩
end Go.Proofs.YtjilkaciopiabaaDoor
