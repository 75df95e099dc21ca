/- plinthref03.SameAll of two rows of the same frames. -/
import Derived.Test.YtaenoonadodbnaaDoorF03x
import Derived.Test.YtaenoonadodbnaaDoorF03d
import Derived.Deep.RegionWith
namespace Go.Proofs.YtaenoonadodbnaaDoor
open Go.RowKit Go.Px
set_option linter.unusedVariables false
theorem fr3_0 {w : World} {a : Addr} {cs : List Value} (hat : ∀ j u, cs[j]? = some u → w.cell? (a.add j) = some u) {k : Nat} {u : Value} (h : cs[3 * k]? = some u) : w.cell? (a.add (k * 3)) = some u := by
  rw [Nat.mul_comm]; exact hat _ _ h
theorem fr3_S {w : World} {a : Addr} {cs : List Value} (hat : ∀ j u, cs[j]? = some u → w.cell? (a.add j) = some u) {k i : Nat} {u : Value} (h : cs[3 * k + (i + 1)]? = some u) : w.cell? ⟨(a.add (k * 3)).block, (a.add (k * 3)).off + (i + 1), none⟩ = some u := by
  have := hat _ _ h
  have e : a.add (3 * k + (i + 1)) = ⟨(a.add (k * 3)).block, (a.add (k * 3)).off + (i + 1), none⟩ := by
    unfold Addr.add
    rw [if_neg (by omega)]
    split
    · rename_i h0
      rw [show 3 * k + (i + 1) = i + 1 by omega]
    · show (⟨a.block, a.off + (3 * k + (i + 1)), none⟩ : Addr) = ⟨a.block, a.off + k * 3 + (i + 1), none⟩
      rw [show a.off + (3 * k + (i + 1)) = a.off + k * 3 + (i + 1) by omega]
  rw [← e]; exact this
set_option maxHeartbeats 3200000 in
theorem sameAll_eq (A : Option Addr) (n c : Nat) (cs : List Value) (B : Option Addr) (d : Nat) (ds : List Value) (ps : List (Nat × Nat × List UInt8)) (Q Q' : Nat → Prop) (w : World) (hn : ps.length = n) (hnc : n ≤ c) (hc : c ≤ 9223372036854775807) (hr : Rd w A cs) (hr' : Rd w B ds) (hP : FrRows w Q cs ps) (hP' : FrRows w Q' ds ps) :
    Calls Tryd.prog 20 #[.slice A n c, .slice B n d] w fun e w' => e = .returned (.bool true) ∧ Below w.heap.size w w' := by
  have hl := hP.1
  have hl' := hP'.1
  have Hn := hide hn
  go_enter Tryd.func20, Tryd.ntmps20
  go_wp2
  go_loopw [5] (fun i wr => ∃ (k : Nat), k ≤ n ∧ i = .int .i64 k ∧ Below w.heap.size w wr) (fun i _ => n - (intOf i).toNat)
  case atStart => exact ⟨0, by omega, rfl, Below.refl _ _⟩
  case round =>
    obtain ⟨k, hk, rfl, hbw⟩ := hrel
    by_cases hlt : k < n
    · obtain ⟨p, hp⟩ : ∃ p, ps[k]? = some p := ⟨_, List.getElem?_eq_getElem (by omega)⟩
      obtain ⟨A', m, c', h1, h2, h3, h4, h5, h6, h7, h8⟩ := (hP.below hbw).2 k p hp
      obtain ⟨B', m', d', i1, i2, i3, i4, i5, i6, i7, i8⟩ := (hP'.below hbw).2 k p hp
      obtain ⟨a, rfl, hat⟩ := (hr.below hbw).some_of (xs := cs) (by omega)
      obtain ⟨a', rfl, hat'⟩ := (hr'.below hbw).some_of (xs := ds) (by omega)
      obtain ⟨p1, p2, pd⟩ := p
      simp only at h1 h2 h4 h7 i1 i2 i4 i7
      have hmm : m' = m := by omega
      subst hmm
      have y0 := fr3_0 hat h1
      have y1 := fr3_S (i := 0) hat h2
      have y2 := fr3_S (i := 1) hat h3
      have z0 := fr3_0 hat' i1
      have z1 := fr3_S (i := 0) hat' i2
      have z2 := fr3_S (i := 1) hat' i3
      have H4 := hide h4
      clear h4 i4
      go_wp2_with fail
      go_region_with (first
        | (go_at_call 14; refine (rsame_true p1 p2 A' m' c' B' d' pd _ H4.out (h7.drewN 1) (i7.drewN 1)).mono ?_; rintro x w2 ⟨rfl, hb2⟩))
      all_goals
        have hb3 : Below w.heap.size w w2 := hbw.trans (show Below w.heap.size wr w2 from ⟨hb2.os, hb2.tape, hb2.output, hb2.size, fun q hq => hb2.block q (show q < wr.heap.size from Nat.lt_of_lt_of_le hq hbw.size)⟩)
        go_wp2
        go_roundw
        case rel => exact ⟨k + 1, by omega, by go_num, hb3⟩
        case measure => simp [intOf]; omega
    · obtain rfl : k = n := by omega
      go_wp2
      go_ret
      exact ⟨rfl, hbw⟩
end Go.Proofs.YtaenoonadodbnaaDoor
