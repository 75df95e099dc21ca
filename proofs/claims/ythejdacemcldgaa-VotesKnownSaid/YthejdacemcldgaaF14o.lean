/- Stage 14: votes.Behind, where another one is there. -/
import Derived.Test.YthejdacemcldgaaF14n
import Derived.Test.YthejdacemcldgaaF13o
namespace Go.Proofs.Ythejdacemcldgaa
set_option maxRecDepth 20000
open Go.RowKit Go.Px
set_option linter.unusedVariables false
theorem others_len (ms : List Int) (v : Int) : (oth ms v).length ≤ ms.length := List.length_filter_le _ _
set_option maxHeartbeats 1600000 in
theorem mbehind_any (e : Int) (A : Option Addr) (n c : Nat) (ms : List Int) (me num : Int) (B : Option Addr) (m d : Nat) (l : List (Int × Int)) (w : World) (hn : ms.length = n) (h63 : n ≤ 100000) (hm : l.length = m) (h64 : m ≤ 100000) (hr : Rd w A (ints ms)) (hs : Rd w B (acs l)) (hne : 0 < (oth ms me).length) :
    Calls Try.prog 29 #[grp e A n c, .int .i64 me, .int .i64 num, .slice B m d] w fun x w' => ∃ (C : Option Addr) (k : Nat), x = .returned (.slice C ((oth ms me).filter fun v => !toldB l num v).length k) ∧ Below w.heap.size w w' := by
  obtain ⟨w0, hw0⟩ : ∃ y, ((w.alloc (.cells #[.int .i64 e, .slice A n c] 34)).alloc (.cells #[.int .i64 num] 3)).alloc (.cells #[.slice B m d] 23) = y := ⟨_, rfl⟩
  have hb0 : Below w.heap.size w w0 := by rw [← hw0]; exact (((Below.refl _ _).alloc (Nat.le_refl _) _).alloc (by simp) _).alloc (by simp; omega) _
  have B0 : Blk w0 w.heap.size [.int .i64 e, .slice A n c] 34 := by rw [← hw0]; exact ((Blk.new w [.int .i64 e, .slice A n c] _).alloc _).alloc _
  have B1 : Blk w0 (w.heap.size + 1) [.int .i64 num] 3 := by
    rw [← hw0]
    have h0 := (Blk.new (w.alloc (.cells #[.int .i64 e, .slice A n c] 34)) [.int .i64 num] 3).alloc (.cells #[.slice B m d] 23)
    rwa [World.size_alloc] at h0
  have B2 : Blk w0 (w.heap.size + 2) [.slice B m d] 23 := by
    rw [← hw0]
    have h0 := Blk.new ((w.alloc (.cells #[.int .i64 e, .slice A n c] 34)).alloc (.cells #[.int .i64 num] 3)) [.slice B m d] 23
    rwa [World.size_alloc, World.size_alloc] at h0
  have hz0 : w0.heap.size = w.heap.size + 3 := by rw [← hw0, World.size_alloc, World.size_alloc, World.size_alloc]
  have Hw0 := hide hw0
  have z0 := B0.cell (j := 0) rfl
  have z1 := B0.cell (j := 1) rfl
  have HO := hide (others_any e A n c ms me w0 hn (by omega) (hr.below hb0))
  have Hm := hide hm
  have Hn := hide hn
  have hs0 := hs.below hb0
  clear hw0 hn hm
  go_enter Try.func29, Try.ntmps29
  go_wp2_with fail
  try rw [Hw0.out]
  go_fit HO.out
  rintro x w1 ⟨u, rfl, hO1, hb1⟩
  have hol : (oth ms me).length ≤ n := by
    have := others_len ms me
    have h2 := Hn.out
    omega
  obtain ⟨g, c2, L, rfl, hwg, BL, hLt, hLe, hc2, hcm2⟩ : ∃ (g c2 : Nat) (L : List Value), u = .slice (some ⟨g, 0, none⟩) (oth ms me).length c2 ∧ w0.heap.size ≤ g ∧ Blk w1 g L 3 ∧ L.take (oth ms me).length = ints (oth ms me) ∧ (oth ms me).length ≤ L.length ∧ (oth ms me).length ≤ c2 ∧ c2 ≤ maxLen := by
    rcases hO1.2 with ⟨_, h2⟩ | ⟨g, cap, cur, rfl, hb, hg, h1, h2, h3, h4⟩
    · omega
    · exact ⟨g, cap, cur.toList, rfl, hb, by unfold Blk; simpa using hg, by simpa using h4, (by show (oth ms me).length ≤ cur.toList.length; have e1 : cur.toList.length = cap * 1 := (Array.length_toList).trans h3; omega), h1, h2⟩
  have hcl : ∀ X, Fr (fun b => b = g) w1 X → ∀ v : Int, Calls Try.prog 40 #[.int .i64 v, .pointer (some ⟨w.heap.size + 2, 0, none⟩), .pointer (some ⟨w.heap.size + 1, 0, none⟩)] X fun e w' => e = .returned (.bool (toldB l num v)) ∧ Below X.heap.size X w' := fun X hX v => by
    have h0 : Fr (fun b => b = g) w0 X := (Fr.of_below hb1).trans hX
    have hX0 : Below w0.heap.size w0 X := h0.below (Below.refl _ _) (Nat.le_refl _) (fun b hb => by omega)
    exact behind1_any B m d l v num _ _ X Hm.out (by omega) (hs0.below hX0) ((B2.below hX0).cell (j := 0) rfl) ((B1.below hX0).cell (j := 0) rfl)
  have HD := hide (del14_any (c := c2) (p := toldB l num) BL hLt hLe rfl (by omega) hc2 (by unfold maxLen at hcm2; omega) hcl)
  obtain ⟨os, hos⟩ : ∃ y, (oth ms me).length = y := ⟨_, rfl⟩
  rw [hos] at HD ⊢
  have hbw1 := hb0.trans (hb1.mono hb0.size)
  clear hO1 BL hLt hLe hcl hos B0 B1 B2 z0 z1 hol hne
  go_wp2_with fail
  go_fit HD.out
  rintro x w2 ⟨rfl, _, hF⟩
  have hb2 := hF.below hbw1 hbw1.size (fun b hb => by have := hb0.size; omega)
  go_wp2
  go_ret
  exact ⟨_, _, rfl, hb2⟩
end Go.Proofs.Ythejdacemcldgaa
