/- Stage 14: laws 14: VotesGrows, VotesKnown, VotesSets: the walks. -/
import Derived.Test.YthejdacemcldgaaF14s
import Derived.Test.YthejdacemcldgaaF14i
import Derived.Test.YthejdacemcldgaaTys
import Derived.Deep.RegionHeldLaw
import Derived.Deep.RegionHeld
import Derived.Test.YthejdacemcldgaaRnd
namespace Go.Proofs.Ythejdacemcldgaa
set_option maxRecDepth 20000
open Go.RowKit Go.Px
set_option linter.unusedVariables false
theorem acs_of_rows {w : World} {Q : Nat → Prop} : ∀ {xs : List AckD} {vs : List Value}, tyAck.Rows w Q xs vs → vs = acs xs
  | [], vs, h => List.eq_nil_of_length_eq_zero (by rw [h.1]; rfl)
  | x :: xs, vs, h => by
    obtain ⟨c, d, h1, h2, _⟩ := Ack_out (h.2 0 x rfl)
    subst h1
    have hd := acs_of_rows (h.drop 1)
    have e : vs = vs.take 2 ++ vs.drop 2 := (List.take_append_drop 2 vs).symm
    have h2' : vs.take 2 = [.int .i64 c, .int .i64 d] := by simpa [Ty.n] using h2
    have hd' : vs.drop 2 = acs xs := by simpa [Ty.n] using hd
    rw [e, h2', hd']; rfl
set_option maxHeartbeats 1600000 in
theorem votesGrows_walk (e : Int) (A : Option Addr) (n c : Nat) (ms0 : List Int) (B : Option Addr) (m d : Nat) (l0 : List (Int × Int)) (v u : Int) (w : World) (hn : ms0.length = n) (hnc : n ≤ c) (hc : c ≤ 9223372036854775807) (hr : Rd w A (ints ms0)) (hm : l0.length = m) (hmd : m ≤ d) (hd : d ≤ 9223372036854775807) (hs : Rd w B (acs l0)) :
    Calls Try.prog 4 #[grp e A n c, .slice B m d, .int .i64 v, .int .i64 u] w fun x w' => x = .returned (.bool true) ∧ Below w.heap.size w w' := by
  obtain ⟨hk1, hk2⟩ := cut60_le n
  have Hl := hide (show (ms0.take 60).length = cut60 n by rw [cut60_len, hn])
  have hr' := nodes_cut hr
  obtain ⟨q, hq⟩ : ∃ q, cut60 n = q := ⟨_, rfl⟩
  rw [hq] at hk1 hk2 Hl
  obtain ⟨hj1, hj2⟩ := cut60_le m
  have Hj := hide (show (l0.take 60).length = cut60 m by rw [cut60_len, hm])
  have hs' := acks_cut hs
  obtain ⟨q1, hq1⟩ : ∃ q, cut60 m = q := ⟨_, rfl⟩
  rw [hq1] at hj1 hj2 Hj
  have Hq := hide hq
  have Hq1 := hide hq1
  clear hq hq1 hn hm hr hs
  generalize ms0.take 60 = ms at *
  generalize l0.take 60 = l at *
  obtain ⟨g, hg⟩ : ∃ g, w.heap.size = g := ⟨_, rfl⟩
  obtain ⟨w00, hw00⟩ : ∃ w0, w.alloc (.cells #[.int .i64 e, .slice A n c] 34) = w0 := ⟨_, rfl⟩
  have hG00 : Blk w00 g [.int .i64 e, .slice A n c] 34 := by rw [← hw00, ← hg]; exact Blk.new _ _ _
  have hb00 : Below w.heap.size w w00 := by rw [← hw00]; exact (Below.refl _ _).alloc (Nat.le_refl _) _
  have HAW := hide (awake14_any w00)
  go_enter Try.func4, Try.ntmps4
  go_wp2_with fail
  go_fit HAW.out
  rintro x w0 ⟨rfl, hbx⟩
  have hG := hG00.below hbx
  have hb0 := hb00.trans (hbx.mono hb00.size)
  have k0 := hG.cell (j := 0) rfl
  have k1 := hG.cell (j := 1) rfl
  clear HAW
  go_wp2_with fail
  go_fit (cut14_any e A n c w0 hnc hc)
  rw [Hq.out]
  rintro x w1 ⟨rfl, hb1⟩
  have hG1 := hG.below hb1
  have t0 := hG1.frozen 0
  have t1 := hG1.frozen 1
  have u0 := hG1.cell (j := 0) rfl
  have u1 := hG1.cell (j := 1) rfl
  have hG2 := (hG1.set 0 (.int .i64 e)).set 1 (.slice A q c)
  have hb01 : Below w.heap.size w w1 := hb0.trans (hb1.mono hb0.size)
  have hb02 : Below w.heap.size w ((w1.setCell ⟨g, 0, none⟩ (.int .i64 e)).setCell ⟨g, 1, none⟩ (.slice A q c)) := (hb01.setCell (by show w.heap.size ≤ g; omega) _).setCell (by show w.heap.size ≤ g; omega) _
  obtain ⟨w2, hw2⟩ : ∃ w2, (w1.setCell ⟨g, 0, none⟩ (.int .i64 e)).setCell ⟨g, 1, none⟩ (.slice A q c) = w2 := ⟨_, rfl⟩
  rw [hw2] at hG2 hb02
  have v0 := hG2.cell (j := 0) rfl
  have v1 := hG2.cell (j := 1) rfl
  go_wp2_with fail
  go_fit (few14_any B m d _ hmd hd)
  rw [Hq1.out]
  rintro x wz ⟨rfl, rfl⟩
  have hr2 := hr'.below hb02
  have hs2 := hs'.below hb02
  have mk : ∀ X, Below w2.heap.size w2 X → (Below w2.heap.size w2 X ∧ X.cell? ⟨g, 0, none⟩ = some (.int .i64 e) ∧ X.cell? ⟨g, 1, none⟩ = some (.slice A q c)) := fun X hX =>
    ⟨hX, (hG2.below hX).cell (j := 0) rfl, (hG2.below hX).cell (j := 1) rfl⟩
  have hbX : ∀ X, Below w2.heap.size w2 X → Below w.heap.size w X := fun X h => hb02.trans (h.mono hb02.size)
  have hrX : ∀ X, Below w2.heap.size w2 X → Rd X A (ints ms) := fun X h => hr2.below h
  have hsX : ∀ X, Below w2.heap.size w2 X → Rd X B (acs l) := fun X h => hs2.below h
  have S0 := mk w2.drew (Below.refl _ _).drew
  have Mk := hide mk
  have HX := hide hbX
  have HrX := hide hrX
  have HsX := hide hsX
  go_wp2_with fail
  clear mk hbX hrX hsX hr2 hs2 v0 v1 u0 u1 t0 t1 k0 k1 hr' hs' hG hG1 hG2 hb00 hb0 hb01 hb1 hbx hG00
  have hS0 := S0.2
  refine wp_region_held_drew (S := fun Z => Z.cell? ⟨g, 0, none⟩ = some (.int .i64 e) ∧ Z.cell? ⟨g, 1, none⟩ = some (.slice A q c)) (by kernel_rfl) hS0 (fun _ => ?_)
  refine wpAnyH_take (fuel := 10) (i := 0) (v := grp e A q c) rfl (by kernel_rfl) (by kernel_rfl) (by kernel_rfl) (fun _ _ _ h => h) (Or.inl ⟨by rfl, fun Z hZ => ?_⟩) hS0 ?_
  · obtain ⟨z1, z2⟩ := hZ
    go_simp
  refine wpAnyH_take (i := 1) (v := .slice B q1 d) rfl (by kernel_rfl) (by kernel_rfl) (by kernel_rfl) (fun _ _ _ h => h) (Or.inl ⟨by rfl, fun Z hZ => ?_⟩) hS0 ?_
  · obtain ⟨z1, z2⟩ := hZ
    go_simp
  refine wpAnyH_take (i := 2) (v := .int .i64 v) rfl (by kernel_rfl) (by kernel_rfl) (by kernel_rfl) (fun _ _ _ h => h) (Or.inl ⟨by rfl, fun Z hZ => ?_⟩) hS0 ?_
  · obtain ⟨z1, z2⟩ := hZ
    go_simp
  refine wpAnyH_take (i := 3) (v := .int .i64 u) rfl (by kernel_rfl) (by kernel_rfl) (by kernel_rfl) (fun _ _ _ h => h) (Or.inl ⟨by rfl, fun Z hZ => ?_⟩) hS0 ?_
  · obtain ⟨z1, z2⟩ := hZ
    go_simp
  refine wpAnyH_take (i := 6) (v := grp e A q c) rfl (by kernel_rfl) (by kernel_rfl) (by kernel_rfl) (fun _ _ _ h => h) (Or.inl ⟨by rfl, fun Z hZ => ?_⟩) hS0 ?_
  · obtain ⟨z1, z2⟩ := hZ
    go_simp
  refine wpAnyH_take (i := 7) (v := .slice B q1 d) rfl (by kernel_rfl) (by kernel_rfl) (by kernel_rfl) (fun _ _ _ h => h) (Or.inl ⟨by rfl, fun Z hZ => ?_⟩) hS0 ?_
  · obtain ⟨z1, z2⟩ := hZ
    go_simp
  have HK := hide (mack_any B q1 d l v u w2.drew Hj.out (by omega) (HsX.out _ S0.1))
  refine all_one (fuel := 4) (i := 4) (by kernel_rfl) rfl rfl (fun Kk hK => ?_)
  go_simp
  refine HK.out.mono ?_
  rintro x w3 ⟨o, B3, d3, rfl, hr3, ha3, hl3, _, _, hb3⟩
  have hs3 := Mk.out _ ((Below.refl _ _).drew.trans hb3)
  have HA3 := hide ha3
  clear ha3
  refine hK _ _ ⟨hs3.2, ?_⟩
  clear hK Kk
  have HC4 := hide (commit_any e A q c ms B3 o.length d3 o _ Hl.out (by omega) rfl (by omega) (HrX.out _ hs3.1) hr3)
  refine all_one (fuel := 3) (i := 5) (by kernel_rfl) rfl rfl (fun Kk hK => ?_)
  go_simp
  refine HC4.out.mono ?_
  rintro x w4 ⟨b4, rfl, hc4, hb4⟩
  have hs4 := Mk.out _ (hs3.1.trans (hb4.mono hs3.1.size))
  have HM4 := hide hc4
  clear hc4
  refine hK _ _ ⟨hs4.2, ?_⟩
  clear hK Kk
  have HC5 := hide (commit_any e A q c ms B q1 d l _ Hl.out (by omega) Hj.out (by omega) (HrX.out _ hs4.1) (HsX.out _ hs4.1))
  refine all_one (fuel := 2) (i := 8) (by kernel_rfl) rfl rfl (fun Kk hK => ?_)
  go_simp
  refine HC5.out.mono ?_
  rintro x w5 ⟨b5, rfl, hc5, hb5⟩
  have hs5 := Mk.out _ (hs4.1.trans (hb5.mono hs4.1.size))
  have hge : decide (b4 ≥ b5) = true := decide_eq_true (CmIs.grows hc5 HM4.out (ack_more HA3.out))
  clear hc5
  refine hK _ _ ⟨hs5.2, ?_⟩
  clear hK Kk
  refine all_one (fuel := 1) (i := 9) (by kernel_rfl) rfl rfl (fun Kk hK => ?_)
  go_simp
  refine hK _ _ ⟨hs5.2, ?_⟩
  clear hK Kk
  refine all_one (fuel := 0) (i := 10) (by kernel_rfl) rfl rfl (fun Kk hK => ?_)
  go_simp
  refine hK _ _ ⟨hs5.2, ?_⟩
  clear hK Kk
  refine wpAnyH_done (by kernel_rfl) ?_ _
  go_wp2
  go_ret
  exact ⟨by simp, HX.out _ hs5.1⟩
end Go.Proofs.Ythejdacemcldgaa
