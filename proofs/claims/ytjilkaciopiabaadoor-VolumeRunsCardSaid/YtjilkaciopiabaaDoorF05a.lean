/- Volumes in memory; made, blocks. -/
import Derived.Test.YtjilkaciopiabaaDoorTypes
import Derived.Test.YtjilkaciopiabaaDoorMem
import Derived.Test.YtjilkaciopiabaaDoorF04g
import Derived.Test.YtjilkaciopiabaaDoorClone
import Derived.Deep.QuietTactic
import Derived.BigQuiet
import Derived.WalkSpells
import Derived.Outline
import Derived.Deep.DeepFit
namespace Go.Proofs.YtjilkaciopiabaaDoor
open Go.RowKit Go.Px
set_option linter.unusedVariables false

/-- A volume of b blocks of z bytes (N in all) at block v of memory: its row at block r, its versions at block s. -/
structure VolIs (w : World) (v r s b z N : Nat) (bs : List UInt8) (vs : List Int) (last : Int) : Prop where
  blk : Blk w v [.int .i64 b, .int .i64 z, .slice (some ⟨r, 0, none⟩) N N, .slice (some ⟨s, 0, none⟩) b b, .int .i64 last] 45
  row : Blk w r (bys bs) 5
  ver : Blk w s (ints vs) 3
  lb : bs.length = N
  lv : vs.length = b
  hN : b * z = N
  vr : v ≠ r
  vs_ : v ≠ s
  rs : r ≠ s
  hb : 1 ≤ b ∧ b ≤ 4096
  hz : 1 ≤ z ∧ z ≤ 4096
section
variable {w w' : World} {v r s b z N : Nat} {bs : List UInt8} {vs : List Int} {last : Int}
theorem VolIs.below (h : VolIs w v r s b z N bs vs last) (hb : Below w.heap.size w w') : VolIs w' v r s b z N bs vs last :=
  { h with blk := h.blk.below hb, row := h.row.below hb, ver := h.ver.below hb }
theorem VolIs.drewN (h : VolIs w v r s b z N bs vs last) (q : Nat) : VolIs (w.drewN q) v r s b z N bs vs last := { h with blk := h.blk, row := h.row, ver := h.ver }
end
@[go_sem] theorem neqnil_bytes (w : World) (A : Option Addr) (n c n' c' : Nat) : (binOp .neq 36 (.slice A n c) (.slice none n' c')).run Tryd.prog w = .ok (.bool (!A.isNone)) w := run_neq_slice_nil_any w _ _ A n c n' c' Tryd.underlying36
theorem made_any (w : World) (v r s b z N : Nat) (bs : List UInt8) (vs : List Int) (last : Int) (h : VolIs w v r s b z N bs vs last) :
    Calls Tryd.prog 26 #[.pointer (some ⟨v, 0, none⟩)] w fun e w' => e = .returned (.bool true) ∧ w = w' := by
  have x2 := h.blk.cell (j := 2) rfl
  go_enter Tryd.func26, Tryd.ntmps26
  go_wp2
  go_ret
  exact ⟨rfl, rfl⟩
theorem made_nil (w : World) : Calls Tryd.prog 26 #[.pointer none] w fun e w' => e = .returned (.bool false) ∧ w = w' := by
  go_enter Tryd.func26, Tryd.ntmps26
  go_wp2
  go_ret
  exact ⟨rfl, rfl⟩
def serB (n : Int) : Bool := decide (1 ≤ n ∧ n ≤ 4611686018427387904)
theorem serial_any (n : Int) (w : World) : Calls Tryd.prog 27 #[.int .i64 n] w fun e w' => e = .returned (.bool (serB n)) ∧ w = w' := by
  by_cases h1 : 1 ≤ n
  · by_cases h2 : n ≤ 4611686018427387904
    · have H := hide (show serB n = true from decide_eq_true ⟨h1, h2⟩)
      go_enter Tryd.func27, Tryd.ntmps27
      go_wp2
      go_ret
      exact ⟨by rw [H.out]; rfl, rfl⟩
    · have H := hide (show serB n = false from decide_eq_false (by omega))
      go_enter Tryd.func27, Tryd.ntmps27
      go_wp2
      go_ret
      exact ⟨by rw [H.out]; rfl, rfl⟩
  · have H := hide (show serB n = false from decide_eq_false (by omega))
    go_enter Tryd.func27, Tryd.ntmps27
    go_wp2
    go_ret
    exact ⟨by rw [H.out]; rfl, rfl⟩
theorem cutA_in {r F G : Nat} (h : F < G) : cutA (some ⟨r, 0, none⟩) G F 1 = some ⟨r, F, none⟩ := by
  unfold cutA
  rw [if_neg (by omega), Option.map_some, Nat.mul_one, addr_add0]
theorem mul_le {i b z N : Nat} (h : i ≤ b) (hN : b * z = N) : i * z ≤ N := by rw [← hN]; exact Nat.mul_le_mul_right _ h
set_option maxHeartbeats 1600000 in
theorem blocks_any (w : World) (v r s b z N : Nat) (bs : List UInt8) (vs : List Int) (last : Int) (i n : Nat) (h : VolIs w v r s b z N bs vs last) (hn : 1 ≤ n) (hin : i + n ≤ b) :
    Calls Tryd.prog 31 #[.pointer (some ⟨v, 0, none⟩), .int .i64 i, .int .i64 n] w fun e w' => e = .returned (.slice (some ⟨r, i * z, none⟩) (n * z) (n * z)) ∧ ∃ q, w' = w.drewN q := by
  have x0 := h.blk.cell (j := 0) rfl
  have x1 := h.blk.cell (j := 1) rfl
  have x2 := h.blk.cell (j := 2) rfl
  obtain ⟨hb1, hb2⟩ := h.hb
  obtain ⟨hz1, hz2⟩ := h.hz
  have hNb : N ≤ 16777216 := by rw [← h.hN]; exact Nat.mul_le_mul hb2 hz2
  obtain ⟨F, hF⟩ : ∃ F, i * z = F := ⟨_, rfl⟩
  obtain ⟨G, hG⟩ : ∃ G, (i + n) * z = G := ⟨_, rfl⟩
  have hFG : F + n * z = G := by rw [← hF, ← hG, Nat.add_mul]
  have hGN : G ≤ N := by rw [← hG]; exact mul_le hin h.hN
  have hnz : 1 ≤ n * z := Nat.mul_pos hn hz1
  have hFI : (i : Int) * (z : Int) = (F : Int) := by rw [← hF]; simp
  have hGI : ((i : Int) + (n : Int)) * (z : Int) = (G : Int) := by rw [← hG]; simp
  have hFlt : F < G := by omega
  have hFle : F ≤ N := by omega
  have HFG := hide hFG
  have hF0 := hide hF
  clear hF hG hFG hnz
  go_enter Tryd.func31, Tryd.ntmps31
  go_wp2
  go_quiet (fail)
  go_wp2
  go_ret
  refine ⟨?_, _, rfl⟩
  rw [hF0.out, ← show G - F = n * z by have := HFG.out; omega, ← cutA_in hFlt]
  rfl
theorem gset {a b : World} {g : Nat} (h : a.grownBy b (some g)) (j : Nat) (u : Value) : a.grownBy (b.setCell ⟨g, j, none⟩ u) (some g) :=
  grown_chain h ⟨rfl, rfl, rfl, by simp, fun k hk hne => heap_setCell_other b ⟨g, j, none⟩ k u (by intro e; exact hne (by rw [e]))⟩ (.inl rfl)
def stampL (vs : List Int) (i : Nat) (num : Int) : Nat → List Int
  | 0 => vs
  | k + 1 => (stampL vs i num k).set (i + k) num
theorem stampL_length (vs : List Int) (i : Nat) (num : Int) : ∀ k, (stampL vs i num k).length = vs.length
  | 0 => rfl
  | k + 1 => by simp [stampL, stampL_length vs i num k]
theorem ints_set (l : List Int) (j : Nat) (x : Int) : ints (l.set j x) = (ints l).set j (.int .i64 x) := by simp [ints, List.map_set]
theorem VolIs.setVer {w : World} {v r s b z N : Nat} {bs : List UInt8} {vs : List Int} {last : Int} (h : VolIs w v r s b z N bs vs last) (j : Nat) (x : Int) : VolIs (w.setCell ⟨s, j, none⟩ (.int .i64 x)) v r s b z N bs (vs.set j x) last :=
  { h with blk := h.blk.apart h.vs_ j _, row := h.row.apart h.rs j _, ver := by rw [ints_set]; exact h.ver.set j _, lv := by simp [h.lv] }
set_option maxHeartbeats 3200000 in
theorem stamp_any (w : World) (v r s b z N : Nat) (bs : List UInt8) (vs : List Int) (last : Int) (i0 n : Nat) (num : Int) (h : VolIs w v r s b z N bs vs last) (hin : i0 + n ≤ b) :
    Calls Tryd.prog 44 #[.pointer (some ⟨v, 0, none⟩), .int .i64 i0, .int .i64 n, .int .i64 num] w fun e w' => e = .returned (.tuple #[]) ∧ VolIs w' v r s b z N bs (stampL vs i0 num n) last ∧ w.grownBy w' (some s) := by
  obtain ⟨hb1, hb2⟩ := h.hb
  go_enter Tryd.func44, Tryd.ntmps44
  go_wp2
  go_loopw [10] (fun i wr => ∃ (k : Nat), k ≤ n ∧ i = .int .i64 k ∧ VolIs wr v r s b z N bs (stampL vs i0 num k) last ∧ w.grownBy wr (some s)) (fun i _ => n - (intOf i).toNat)
  case atStart => exact ⟨0, by omega, rfl, h, grown_refl _ _⟩
  case round =>
    obtain ⟨k, hk, rfl, hV, hG⟩ := hrel
    have x3 := hV.blk.cell (j := 3) rfl
    by_cases hlt : k < n
    · have hlv : i0 + k < (ints (stampL vs i0 num k)).length := by rw [ints_length, stampL_length, h.lv]; omega
      have y0 := hV.ver.cell (List.getElem?_eq_getElem hlv)
      have z0 := hV.ver.frozen (i0 + k)
      have hlb : i0 + k < b := by omega
      go_wp2
      go_roundw
      case rel => exact ⟨k + 1, by omega, by go_num, hV.setVer (i0 + k) num, gset hG _ _⟩
      case measure => simp [intOf]; omega
    · obtain rfl : k = n := by omega
      go_wp2
      go_end0
      exact ⟨rfl, hV, hG⟩
end Go.Proofs.YtjilkaciopiabaaDoor
