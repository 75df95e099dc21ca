/- few, of the laws of layer 3. -/
import Derived.Test.YtaenoonadodbnaaDoorF03v
namespace Go.Proofs.YtaenoonadodbnaaDoor
open Go.RowKit Go.Px
set_option linter.unusedVariables false
/-- Frames in memory, of three cells each. -/
def FrArg (w : World) (A : Option Addr) (fs : List (Nat × Nat × List UInt8)) : Prop := ∀ (j : Nat) (f : Nat × Nat × List UInt8), fs[j]? = some f → ∃ a A' m c', A = some a ∧ f.1 < 256 ∧ f.2.1 < 18446744073709551616 ∧
  w.cell? (a.add (j * 3)) = some (.int .u8 (f.1 : Nat)) ∧ w.cell? ⟨(a.add (j * 3)).block, (a.add (j * 3)).off + 1, none⟩ = some (.int .u64 (f.2.1 : Nat)) ∧ w.cell? ⟨(a.add (j * 3)).block, (a.add (j * 3)).off + 2, none⟩ = some (.slice A' m c') ∧
  f.2.2.length = m ∧ m ≤ c' ∧ c' ≤ 9223372036854775807 ∧ Rd w A' (bys f.2.2)
def cut5 (f : Nat × Nat × List UInt8) : Nat × Nat × List UInt8 := (f.1, f.2.1, f.2.2.take 500)
theorem cell_below3 {w w' : World} (hb : Below w.heap.size w w') {a : Addr} {u : Value} (h : w.cell? a = some u) : w'.cell? a = some u := (hb.cell (p := a) (World.block_lt_of_cell? w _ h)).trans h
set_option maxRecDepth 20000 in
set_option maxHeartbeats 3200000 in
theorem few_any (A : Option Addr) (n c : Nat) (fs : List (Nat × Nat × List UInt8)) (w : World) (hn : fs.length = n) (hnc : n ≤ c) (hc : c ≤ 9223372036854775807) (hr : FrArg w A fs) :
    Calls Tryd.prog 23 #[.slice A n c] w fun e w' => ∃ o cs, e = .returned o ∧ w'.ownsRow w.heap.size 25 3 o ((fs.take 20).map cut5).length cs ∧ FrRows w (fun _ => True) cs ((fs.take 20).map cut5) ∧ Below w.heap.size w w' := by
  have Hn := hide hn
  go_enter Tryd.func23, Tryd.ntmps23
  go_wp2
  go_loopw [3, 4] (fun o i wr => ∃ (j : Nat) (cs : List Value), j ≤ n ∧ j ≤ 20 ∧ i = .int .i64 j ∧ wr.ownsRow w.heap.size 25 3 o j cs ∧ FrRows w (fun _ => True) cs ((fs.take j).map cut5) ∧ Below w.heap.size w wr) (fun _ i _ => n - (intOf i).toNat)
  case atStart => exact ⟨0, [], by omega, by omega, rfl, World.ownsRow_nil _ _ _ _, FrRows.nil, Below.refl _ _⟩
  case round =>
    obtain ⟨j, cs, hj1, hj2, rfl, hown, hF, hbw⟩ := hrel
    by_cases hlt : j < n ∧ j < 20
    · obtain ⟨hlt1, hlt2⟩ := hlt
      obtain ⟨p, hp⟩ : ∃ p, fs[j]? = some p := ⟨_, List.getElem?_eq_getElem (by omega)⟩
      obtain ⟨a, A', m, c', rfl, hk, hs, k0, k1, k2, h4, h5, h6, h7⟩ := hr j p hp
      have y0 := cell_below3 hbw k0
      have y1 := cell_below3 hbw k1
      have y2 := cell_below3 hbw k2
      have ht : (fs.take (j + 1)).map cut5 = (fs.take j).map cut5 ++ [cut5 p] := by
        rw [List.take_add_one, hp, List.map_append]; rfl
      obtain ⟨p1, p2, pd⟩ := p
      simp only at k0 k1 k2 h4 h7 y0 y1 hk hs
      have hlo := own_lt3 hown
      have hszw := hbw.size
      have HT := hide ht
      have H4 := hide h4
      clear ht h4
      by_cases hm : 500 < m
      · have hcut : (pd.take 500).length = 500 := by rw [List.length_take, H4.out]; omega
        have hF' := hF.snoc (i := p1) (v := p2) (A := A') (n := 500) (c := c') (d := pd.take 500) hcut (by omega) h6 (by rw [bys_take]; exact h7.take 500) (fun _ _ => trivial)
        have HF := hide hF'
        obtain ⟨w3, hw3⟩ : ∃ x, (wr.alloc (.cells #[.int .u8 (p1 : Nat), .int .u64 (p2 : Nat), .slice A' 500 c'] 25)).alloc (.cells #[.int .u8 (p1 : Nat), .int .u64 (p2 : Nat), .slice A' 500 c'] 25) = x := ⟨_, rfl⟩
        have hb3 : Below wr.heap.size wr w3 := by rw [← hw3]; exact ((Below.refl _ _).alloc (Nat.le_refl _) _).alloc (by simp) _
        have hnew : Rd w3 (some ⟨wr.heap.size + 1, 0, none⟩) [.int .u8 (p1 : Nat), .int .u64 (p2 : Nat), .slice A' 500 c'] := by
          rw [← hw3]
          have := Rd.newN (wr.alloc (.cells #[.int .u8 (p1 : Nat), .int .u64 (p2 : Nat), .slice A' 500 c'] 25)) [.int .u8 (p1 : Nat), .int .u64 (p2 : Nat), .slice A' 500 c'] 25 (0, 0)
          rwa [World.size_alloc] at this
        have hsz3 := hb3.size
        have Hw3 := hide hw3
        clear hw3 hcut hF' hF
        go_wp2_with (first | (with_reducible refine stop_append rfl ?_) | (with_reducible refine stop_copy rfl ?_) | (with_reducible refine stop_make rfl ?_))
        rw [Hw3.out]
        refine go_append (v := u3) rfl rfl tFrames rfl (own_below hown hb3) rfl (m := 1) (news := [.int .u8 (p1 : Nat), .int .u64 (p2 : Nat), .slice A' 500 c']) rfl hnew (by intro u hu; simp at hu; rcases hu with rfl | rfl | rfl <;> rfl) (by omega) (by omega) (by omega) ?_
        intro v5 w5 hown5 hg5 hv5
        have hb5 : Below w.heap.size w w5 := (hbw.trans (hb3.mono hszw)).grown hg5 (by omega) (fun q hq => (hlo q hq).1)
        go_wp2
        go_roundw
        case rel => exact ⟨j + 1, _, by omega, by omega, by go_num, hown5, by rw [HT.out]; exact HF.out, hb5⟩
        case measure => simp [intOf]; omega
      · have hcut : pd.take 500 = pd := List.take_of_length_le (by rw [H4.out]; omega)
        have hF' := hF.snoc (i := p1) (v := p2) (A := A') (n := m) (c := c') (d := pd) H4.out h5 h6 h7 (fun _ _ => trivial)
        have HF := hide (show FrRows w (fun _ => True) (cs ++ [.int .u8 (p1 : Nat), .int .u64 (p2 : Nat), .slice A' m c']) ((fs.take j).map cut5 ++ [cut5 (p1, p2, pd)]) by unfold cut5 at hF' ⊢; simp only [hcut]; exact hF')
        obtain ⟨w3, hw3⟩ : ∃ x, (wr.alloc (.cells #[.int .u8 (p1 : Nat), .int .u64 (p2 : Nat), .slice A' m c'] 25)).alloc (.cells #[.int .u8 (p1 : Nat), .int .u64 (p2 : Nat), .slice A' m c'] 25) = x := ⟨_, rfl⟩
        have hb3 : Below wr.heap.size wr w3 := by rw [← hw3]; exact ((Below.refl _ _).alloc (Nat.le_refl _) _).alloc (by simp) _
        have hnew : Rd w3 (some ⟨wr.heap.size + 1, 0, none⟩) [.int .u8 (p1 : Nat), .int .u64 (p2 : Nat), .slice A' m c'] := by
          rw [← hw3]
          have := Rd.newN (wr.alloc (.cells #[.int .u8 (p1 : Nat), .int .u64 (p2 : Nat), .slice A' m c'] 25)) [.int .u8 (p1 : Nat), .int .u64 (p2 : Nat), .slice A' m c'] 25 (0, 0)
          rwa [World.size_alloc] at this
        have hsz3 := hb3.size
        have Hw3 := hide hw3
        clear hw3 hcut hF' hF
        go_wp2_with (first | (with_reducible refine stop_append rfl ?_) | (with_reducible refine stop_copy rfl ?_) | (with_reducible refine stop_make rfl ?_))
        rw [Hw3.out]
        refine go_append (v := u3) rfl rfl tFrames rfl (own_below hown hb3) rfl (m := 1) (news := [.int .u8 (p1 : Nat), .int .u64 (p2 : Nat), .slice A' m c']) rfl hnew (by intro u hu; simp at hu; rcases hu with rfl | rfl | rfl <;> rfl) (by omega) (by omega) (by omega) ?_
        intro v5 w5 hown5 hg5 hv5
        have hb5 : Below w.heap.size w w5 := (hbw.trans (hb3.mono hszw)).grown hg5 (by omega) (fun q hq => (hlo q hq).1)
        go_wp2
        go_roundw
        case rel => exact ⟨j + 1, _, by omega, by omega, by go_num, hown5, by rw [HT.out]; exact HF.out, hb5⟩
        case measure => simp [intOf]; omega
    · have hje : fs.take j = fs.take 20 := by
        rcases (show j = n ∨ j = 20 by omega) with h | h
        · rw [h, List.take_of_length_le (by rw [Hn.out]; exact Nat.le_refl _), List.take_of_length_le (by rw [Hn.out]; omega)]
        · rw [h]
      have hlen : ((fs.take 20).map cut5).length = j := by rw [List.length_map, ← hje, List.length_take, Hn.out]; omega
      have HL := hide hlen
      have HJ := hide hje
      clear hlen hje
      obtain ⟨A4, c4, rfl, _, _, _, _, _⟩ := own_out hown
      rcases (show j = n ∨ (j < n ∧ j = 20) by omega) with rfl | ⟨hl, rfl⟩
      all_goals
        go_wp2
        go_ret
        first
          | exact ⟨_, cs, rfl, by rw [HL.out]; exact hown, by rw [← HJ.out]; exact hF, hbw⟩
          | exact ⟨_, rfl, cs, hown, by rw [← List.map_take]; exact hF, hbw⟩
end Go.Proofs.YtaenoonadodbnaaDoor
