/- Texts joined (shake.py). -/
import Derived.Test.YtkknkdjdneldlaaGreatK62
import Derived.Test.YtkknkdjdneldlaaGreatK67
namespace Go.Proofs.YtkknkdjdneldlaaGreat
set_option maxRecDepth 20000
open Go.RowKit Go.Px
set_option linter.unusedVariables false
set_option linter.unusedSimpArgs false
/-- A number as the document takes it. -/
def rI7 (v : Nat) : Int := if 4611686018427387904 < v then -1 else (v : Int)
theorem rI7_in {v : Nat} (h : v ≤ 4611686018427387904) : rI7 v = (v : Int) := by unfold rI7; rw [if_neg (by omega)]
theorem rI7_bd (v : Nat) : -9223372036854775808 ≤ rI7 v ∧ rI7 v ≤ 9223372036854775807 := by unfold rI7; split <;> omega
section
variable (b : Nat) (A : Option Addr) (m c : Nat) (bs : List UInt8) (a n : Nat) (w : World)
theorem rnumber_off (E : Int) (hB : Blk w b [.slice A m c, .int .i64 (a : Int), .int .i64 E] 131) (hE : E ≠ 0) :
    Calls Tryz.prog 77 #[.pointer (some ⟨b, 0, none⟩), .int .i64 (n : Int)] w fun e w' => e = .returned (.int .i64 0) ∧ Blk w' b [.slice A m c, .int .i64 (a : Int), .int .i64 E] 131 ∧ Fr (fun k => k = b) w w' := by
  have x2 := hB.cell (j := 2) rfl
  have q : (E != 0) = true := by simpa using hE
  have HB := hide hB
  clear hB hE
  go_enter Tryz.func77, Tryz.ntmps77
  go_wp2
  go_ret
  exact ⟨rfl, HB.out, Fr.refl _ _⟩
set_option maxHeartbeats 1600000 in
theorem rnumber_any (hB : Blk w b [.slice A m c, .int .i64 (a : Int), .int .i64 0] 131) (hm : bs.length = m) (hmc : m ≤ c) (hm8 : m ≤ 140737488355328) (hc : c ≤ 9223372036854775807) (hr : Rd w A (bys bs)) (ha : a ≤ m) (hn : 1 ≤ n ∧ n ≤ 8) (hle : a + n ≤ m) :
    Calls Tryz.prog 77 #[.pointer (some ⟨b, 0, none⟩), .int .i64 (n : Int)] w fun e w' => e = .returned (.int .i64 (rI7 (getV bs (a : Int) (n : Int)))) ∧ Blk w' b [.slice A m c, .int .i64 ((a + n : Nat) : Int), .int .i64 0] 131 ∧ Fr (fun k => k = b) w w' := by
  have hE : getE bs (a : Int) (n : Int) = 0 := long_get bs _ _ (by omega) (by omega) (by omega) (by omega)
  have hI : getI bs (a : Int) (n : Int) = (a : Int) + (n : Int) := getI_of hE
  obtain ⟨v, hv⟩ : ∃ y, getV bs (a : Int) (n : Int) = y := ⟨_, rfl⟩
  have HQ : ∀ q, Calls Tryz.prog 137 #[.slice A m c, .int .i64 (a : Int), .int .i64 (n : Int)] (w.drewN q) fun e w' => e = .returned (.tuple #[.int .u64 (v : Int), .int .i64 ((a : Int) + (n : Int)), .int .i64 0]) ∧ w' = w.drewN q := fun q => by
    refine (rget_any A m c bs (a : Int) (n : Int) _ hm hmc hc (hr.drewN q) (by omega) (by omega)).mono ?_
    rw [hE, hI, hv]
    rintro e w' ⟨rfl, rfl⟩
    exact ⟨rfl, rfl⟩
  have x0 := hB.cell (j := 0) rfl
  have x1 := hB.cell (j := 1) rfl
  have x2 := hB.cell (j := 2) rfl
  have f1 := hB.frozen 1
  have HB := hide (fun q => (show Blk (w.drewN q) b _ _ from hB).set 1 (.int .i64 ((a : Int) + (n : Int))))
  have HF := hide (fun q => Fr.of_grown (X := fun k => k = b) (gset4 (grown_drewN w (some b) q) 1 (.int .i64 ((a : Int) + (n : Int)))) (fun k e => by injection e with e; exact e.symm))
  have Hsum := hide (show ((a + n : Nat) : Int) = (a : Int) + (n : Int) by omega)
  rw [hv]
  clear hE hI hm hv hB
  by_cases hbig : 4611686018427387904 < v
  · have hres : rI7 v = -1 := if_pos hbig
    have q1 : decide ((4611686018427387904 : Int) < (v : Int)) = true := decide_eq_true (by omega)
    rw [hres]
    clear hres
    go_enter Tryz.func77, Tryz.ntmps77
    go_wp2
    go_quiet ((go_at_call 137; exact Calls.quiet_of_same (HQ _)))
    go_wp2
    go_ret
    exact ⟨rfl, by rw [Hsum.out]; exact HB.out _, HF.out _⟩
  · have hres : rI7 v = (v : Int) := rI7_in (by omega)
    have q1 : decide ((4611686018427387904 : Int) < (v : Int)) = false := decide_eq_false (by omega)
    have hw : IntKind.i64.wrap (v : Int) = (v : Int) := by rw [IntKind.wrap_i64]; omega
    rw [hres]
    clear hres
    go_enter Tryz.func77, Tryz.ntmps77
    go_wp2
    go_quiet ((go_at_call 137; exact Calls.quiet_of_same (HQ _)))
    go_wp2
    go_ret
    exact ⟨rfl, by rw [Hsum.out]; exact HB.out _, HF.out _⟩
set_option maxHeartbeats 1600000 in
theorem rnumber_bad (hB : Blk w b [.slice A m c, .int .i64 (a : Int), .int .i64 0] 131) (hm : bs.length = m) (hmc : m ≤ c) (hm8 : m ≤ 140737488355328) (hc : c ≤ 9223372036854775807) (hr : Rd w A (bys bs)) (ha : a ≤ m) (hn : 1 ≤ n ∧ n ≤ 8) (hle : m < a + n) :
    Calls Tryz.prog 77 #[.pointer (some ⟨b, 0, none⟩), .int .i64 (n : Int)] w fun e w' => e = .returned (.int .i64 0) ∧ Blk w' b [.slice A m c, .int .i64 (a : Int), .int .i64 10] 131 ∧ Fr (fun k => k = b) w w' := by
  have hE : getE bs (a : Int) (n : Int) = 10 := short_get bs _ _ (by omega) (by omega) (by omega) (by omega) (by omega)
  have HQ : ∀ q, Calls Tryz.prog 137 #[.slice A m c, .int .i64 (a : Int), .int .i64 (n : Int)] (w.drewN q) fun e w' => e = .returned (.tuple #[.int .u64 (getV bs (a : Int) (n : Int)), .int .i64 (getI bs (a : Int) (n : Int)), .int .i64 10]) ∧ w' = w.drewN q := fun q => by
    refine (rget_any A m c bs (a : Int) (n : Int) _ hm hmc hc (hr.drewN q) (by omega) (by omega)).mono ?_
    rw [hE]
    rintro e w' ⟨rfl, rfl⟩
    exact ⟨rfl, rfl⟩
  generalize getV bs (a : Int) (n : Int) = v at HQ
  generalize getI bs (a : Int) (n : Int) = i at HQ
  have x0 := hB.cell (j := 0) rfl
  have x1 := hB.cell (j := 1) rfl
  have x2 := hB.cell (j := 2) rfl
  have f2 := hB.frozen 2
  have HB := hide (fun q => (show Blk (w.drewN q) b _ _ from hB).set 2 (.int .i64 10))
  have HF := hide (fun q => Fr.of_grown (X := fun k => k = b) (gset4 (grown_drewN w (some b) q) 2 (.int .i64 10)) (fun k e => by injection e with e; exact e.symm))
  clear hE hm hB
  go_enter Tryz.func77, Tryz.ntmps77
  go_wp2
  go_quiet ((go_at_call 137; exact Calls.quiet_of_same (HQ _)))
  go_wp2
  go_ret
  exact ⟨rfl, HB.out _, HF.out _⟩
end

/-- What reading a group says, where all was well so far. -/
def RGrp (b : Nat) (A : Option Addr) (m c : Nat) (bs : List UInt8) (a : Nat) (w : World) (e : Ending) (w' : World) : Prop :=
  Fr (fun k => k = b) w w' ∧ ((grpFits bs a ∧ ∃ M mc, e = .returned (grp (rI7 (getV bs (a : Int) 8)) M (getV bs ((a + 8 : Nat) : Int) 1) mc) ∧ w'.ownsRow w.heap.size 3 1 (.slice M (getV bs ((a + 8 : Nat) : Int) 1) mc) (getV bs ((a + 8 : Nat) : Int) 1) (ints (memB bs (a + 9) (getV bs ((a + 8 : Nat) : Int) 1))) ∧ Blk w' b [.slice A m c, .int .i64 ((a + 9 + getV bs ((a + 8 : Nat) : Int) 1 : Nat) : Int), .int .i64 0] 131) ∨
    (¬ grpFits bs a ∧ ∃ (ep : Int) (M : Option Addr) (k mc : Nat) (at_ : Int), e = .returned (grp ep M k mc) ∧ Blk w' b [.slice A m c, .int .i64 at_, .int .i64 10] 131))
set_option maxRecDepth 20000 in
set_option maxHeartbeats 3200000 in
theorem rgroupD_any (b : Nat) (A : Option Addr) (m c : Nat) (bs : List UInt8) (a : Nat) (w : World) (hB : Blk w b [.slice A m c, .int .i64 (a : Int), .int .i64 0] 131) (hm : bs.length = m) (hmc : m ≤ c) (hm8 : m ≤ 140737488355328) (hc : c ≤ 9223372036854775807) (hr : Rd w A (bys bs)) (hlo : ∀ p, A = some p → p.block ≠ b ∧ p.block < w.heap.size) (ha : a ≤ m) :
    Calls Tryz.prog 79 #[.pointer (some ⟨b, 0, none⟩)] w (RGrp b A m c bs a w) := by
  have hbl := hB.lt
  obtain ⟨g, hg⟩ : ∃ g, w.heap.size = g := ⟨_, rfl⟩
  obtain ⟨w0, hw0⟩ : ∃ y, w.alloc (.cells #[.int .i64 0, .slice none 0 0] 28) = y := ⟨_, rfl⟩
  have hR0 : Blk w0 g [.int .i64 0, .slice none 0 0] 28 := by rw [← hw0, ← hg]; exact Blk.new w _ _
  have hb0 : Below w.heap.size w w0 := by rw [← hw0]; exact (Below.refl _ _).alloc (Nat.le_refl _) _
  have hz0 : w0.heap.size = g + 1 := by rw [← hw0, ← hg]; simp
  have hB0 := hB.below hb0
  have hr0 := hr.below hb0
  have hF0 : Fr (fun k => k = b) w w0 := Fr.of_below hb0
  rw [hg] at hlo hbl
  have hAb : bys bs ≠ [] → ∀ p, A = some p → ¬ (fun k => k = b) p.block := fun _ p hp => (hlo p hp).1
  have HAb := hide hAb
  have HLo := hide hlo
  have Hw0 := hide hw0
  have Hg := hide hg
  have Hm := hide hm
  have hFits : grpFits bs a ↔ a + 9 + getV bs ((a + 8 : Nat) : Int) 1 ≤ m := by unfold grpFits; rw [hm]
  obtain ⟨E, hE⟩ : ∃ y, rI7 (getV bs (a : Int) 8) = y := ⟨_, rfl⟩
  obtain ⟨n, hn⟩ : ∃ y, getV bs ((a + 8 : Nat) : Int) 1 = y := ⟨_, rfl⟩
  have hn256 : n < 256 := by rw [← hn]; exact getV_1 bs _
  have hri : rI7 n = (n : Int) := rI7_in (by omega)
  have HE : Hid (rI7 (getV bs (a : Int) ((8 : Nat) : Int)) = E) := hide hE
  have hGR : ∀ e w', RGrp b A m c bs a w e w' ↔ (Fr (fun k => k = b) w w' ∧ ((grpFits bs a ∧ ∃ M mc, e = .returned (grp E M n mc) ∧ w'.ownsRow w.heap.size 3 1 (.slice M n mc) n (ints (memB bs (a + 9) n)) ∧ Blk w' b [.slice A m c, .int .i64 ((a + 9 + n : Nat) : Int), .int .i64 0] 131) ∨ (¬ grpFits bs a ∧ ∃ (ep : Int) (M : Option Addr) (k mc : Nat) (at_ : Int), e = .returned (grp ep M k mc) ∧ Blk w' b [.slice A m c, .int .i64 at_, .int .i64 10] 131))) := fun e w' => by unfold RGrp; rw [hE, hn]
  rw [hn] at hFits
  have HFits := hide hFits
  have HN : Hid (getV bs ((a + 8 : Nat) : Int) ((1 : Nat) : Int) = n) := hide hn
  have HRI := hide hri
  rw [show RGrp b A m c bs a w = fun e w' => (Fr (fun k => k = b) w w' ∧ ((grpFits bs a ∧ ∃ M mc, e = .returned (grp E M n mc) ∧ w'.ownsRow w.heap.size 3 1 (.slice M n mc) n (ints (memB bs (a + 9) n)) ∧ Blk w' b [.slice A m c, .int .i64 ((a + 9 + n : Nat) : Int), .int .i64 0] 131) ∨ (¬ grpFits bs a ∧ ∃ (ep : Int) (M : Option Addr) (k mc : Nat) (at_ : Int), e = .returned (grp ep M k mc) ∧ Blk w' b [.slice A m c, .int .i64 at_, .int .i64 10] 131))) from funext fun e => funext fun w' => propext (hGR e w')]
  clear hw0 hg hm hB hr hb0 hAb hFits hE hn hri hGR hlo
  by_cases h8 : m < a + 8
  · have HI := hide (rnumber_bad b A m c bs a 8 w0 hB0 Hm.out hmc hm8 hc hr0 ha (by omega) h8)
    have HX := hide (And.intro hR0 hF0)
    clear hB0 hr0 hR0 hF0
    go_enter Tryz.func79, Tryz.ntmps79
    go_wp2_with fail
    rw [Hw0.out]
    try rw [Hg.out]
    go_fit HI.out
    rintro e w1 ⟨rfl, hB1, hF1⟩
    have hz1 := hF1.size
    obtain ⟨g3, hg3⟩ : ∃ y, w1.heap.size = y := ⟨_, rfl⟩
    obtain ⟨w2, hw2⟩ : ∃ y, w1.alloc (.cells #[.int .i64 0, .slice none 0 0] 28) = y := ⟨_, rfl⟩
    have hG2 : Blk w2 g3 [.int .i64 0, .slice none 0 0] 28 := by rw [← hw2, ← hg3]; exact Blk.new w1 _ _
    have hb12 : Below w1.heap.size w1 w2 := by rw [← hw2]; exact (Below.refl _ _).alloc (Nat.le_refl _) _
    have hgg3 : g < g3 := by omega
    have hR2 := (HX.out.1.fr hF1 (fun h => by have h : g = b := h; omega)).below hb12
    have hF2 := (HX.out.2.trans hF1).trans (Fr.of_below hb12)
    have HI2 := hide (rnumber_off b A m c a 1 w2 10 (hB1.below hb12) (by decide))
    have Hw2 := hide hw2
    have Hg3 := hide hg3
    clear HX HI hB1 hF1 hw2 hg3 hb12
    go_wp2_with fail
    rw [Hw2.out]
    try rw [Hg3.out]
    go_fit HI2.out
    rintro e w3 ⟨rfl, hB3, hF3⟩
    have hR3 := hR2.fr hF3 (fun h => by have h : g = b := h; omega)
    have hG3 := hG2.fr hF3 (fun h => by have h : g3 = b := h; omega)
    have hF03 := hF2.trans hF3
    clear HI2 hF3 hR2 hG2 hF2
    go_wp2_with fail
    go_loopw [5] (fun v W => ∃ (k : Nat) (M : Option Addr) (mc : Nat), v = .int .i64 (k : Int) ∧ k = 0 ∧ M = none ∧ mc = 0 ∧ W.ownsRow (g3 + 1) 3 1 (.slice M k mc) k [] ∧ Blk W g [.int .i64 0, .slice none 0 0] 28 ∧ Blk W g3 [.int .i64 0, .slice M k mc] 28 ∧ Blk W b [.slice A m c, .int .i64 (a : Int), .int .i64 10] 131 ∧ Fr (fun k => k = b) w W) (fun _ _ => 0)
    case atStart => exact ⟨0, none, 0, rfl, rfl, rfl, rfl, World.ownsRow_nil _ _ _ _, hR3, hG3, hB3, hF03⟩
    case round =>
      clear hR3 hG3 hF03 hB3
      obtain ⟨k, M, mc, rfl, hk0, hM0, hmc0, hO, hRw, hGw, hBw, hFw⟩ := hrel
      have hMb : ∀ x, (Value.slice M k mc).ownBlock = some x → g3 + 1 ≤ x ∧ x < wr.heap.size := fun x hx => by
        obtain ⟨_, _, hv, _, _, _, _, hlo⟩ := own_out hO
        injection hv with h1 h2 h3
        subst h1
        cases M with
        | none => simp [Value.ownBlock] at hx
        | some p => simp only [Value.ownBlock, Option.some.injEq] at hx; have := hlo p rfl; omega
      subst hk0 hM0 hmc0
      have hq : decide ((0 : Int) < 0) = false := by decide
      have x0 := hGw.cell (j := 0) rfl
      have x1 := hGw.cell (j := 1) rfl
      have z0 := hRw.frozen 0
      have z1 := hRw.frozen 1
      have y0 := hRw.cell (j := 0) rfl
      have y1 := hRw.cell (j := 1) rfl
      have y2 := hBw.cell (j := 2) rfl
      have hR := (hRw.set 0 (.int .i64 0)).set 1 (.slice none 0 0)
      have hFz : Fr (fun k => k = b) w ((wr.setCell ⟨g, 0, none⟩ (.int .i64 0)).setCell ⟨g, 1, none⟩ (.slice none 0 0)) := (hFw.trans' (Fr.set (X := fun k => k = g) wr ⟨g, 0, none⟩ _ rfl) (fun k hk => .inr (by have hk : k = g := hk; have := Hg.out; omega))).trans' (Fr.set (X := fun k => k = g) _ ⟨g, 1, none⟩ _ rfl) (fun k hk => .inr (by have hk : k = g := hk; have := Hg.out; omega))
      have hOz := own_frX (own_frX hO (Fr.set (X := fun k => k = g) wr ⟨g, 0, none⟩ (.int .i64 0) rfl) (fun x hx h => by have h : x = g := h; have := hMb x hx; omega)) (Fr.set (X := fun k => k = g) _ ⟨g, 1, none⟩ (.slice none 0 0) rfl) (fun x hx h => by have h : x = g := h; have := hMb x hx; omega)
      have hBz := (hBw.apart (k := g) (by omega) 0 (.int .i64 0)).apart (k := g) (by omega) 1 (.slice none 0 0)
      have HZ := hide (And.intro hR (And.intro hFz (And.intro (own_weak hOz (show g ≤ g3 + 1 by omega)) hBz)))
      clear hR hFz hOz hBz hO hGw hRw hBw hFw hMb
      go_wp2
      refine bodyPost_ret (results_cell rfl rfl HZ.out.1 Tryz.underlying28 rfl (by kernel_rfl)) rfl ?_
      exact ⟨HZ.out.2.1, .inr ⟨fun h => by have := HFits.out.1 h; omega, _, _, _, _, _, rfl, HZ.out.2.2.2⟩⟩
  have HI := hide (rnumber_any b A m c bs a 8 w0 hB0 Hm.out hmc hm8 hc hr0 ha (by omega) (by omega))
  have HI := HI.out
  rw [HE.out] at HI
  have HI := hide HI
  have HX := hide (And.intro hR0 (And.intro hr0 hF0))
  clear hB0 hr0 hR0 hF0
  go_enter Tryz.func79, Tryz.ntmps79
  go_wp2_with fail
  rw [Hw0.out]
  try rw [Hg.out]
  go_fit HI.out
  rintro e w1 ⟨rfl, hB1, hF1⟩
  have hz1 := hF1.size
  obtain ⟨g3, hg3⟩ : ∃ y, w1.heap.size = y := ⟨_, rfl⟩
  obtain ⟨w2, hw2⟩ : ∃ y, w1.alloc (.cells #[.int .i64 E, .slice none 0 0] 28) = y := ⟨_, rfl⟩
  have hG2 : Blk w2 g3 [.int .i64 E, .slice none 0 0] 28 := by rw [← hw2, ← hg3]; exact Blk.new w1 _ _
  have hb12 : Below w1.heap.size w1 w2 := by rw [← hw2]; exact (Below.refl _ _).alloc (Nat.le_refl _) _
  have hz2 : w2.heap.size = g3 + 1 := by rw [← hw2, ← hg3]; simp
  have hgg3 : g < g3 := by omega
  have hR2 := (HX.out.1.fr hF1 (fun h => by have h : g = b := h; omega)).below hb12
  have hr2 := (HX.out.2.1.fr hF1 HAb.out).below hb12
  have hF2 := (HX.out.2.2.trans hF1).trans (Fr.of_below hb12)
  have hB2 := hB1.below hb12
  have Hw2 := hide hw2
  have Hg3 := hide hg3
  clear HX HI hB1 hF1 hw2 hg3 hb12
  by_cases h9 : m < a + 9
  · have HI := hide (rnumber_bad b A m c bs (a + 8) 1 w2 hB2 Hm.out hmc hm8 hc hr2 (by omega) (by omega) (by omega))
    have HX := hide (And.intro hR2 (And.intro hF2 hG2))
    clear hB2 hr2 hR2 hG2 hF2
    go_wp2_with fail
    rw [Hw2.out]
    try rw [Hg3.out]
    go_fit HI.out
    rintro e w3 ⟨rfl, hB3, hF3⟩
    have hR3 := HX.out.1.fr hF3 (fun h => by have h : g = b := h; omega)
    have hG3 := HX.out.2.2.fr hF3 (fun h => by have h : g3 = b := h; omega)
    have hF03 := HX.out.2.1.trans hF3
    clear HI hF3 HX
    go_wp2_with fail
    go_loopw [5] (fun v W => ∃ (k : Nat) (M : Option Addr) (mc : Nat), v = .int .i64 (k : Int) ∧ k = 0 ∧ M = none ∧ mc = 0 ∧ W.ownsRow (g3 + 1) 3 1 (.slice M k mc) k [] ∧ Blk W g [.int .i64 0, .slice none 0 0] 28 ∧ Blk W g3 [.int .i64 E, .slice M k mc] 28 ∧ Blk W b [.slice A m c, .int .i64 ((a + 8 : Nat) : Int), .int .i64 10] 131 ∧ Fr (fun k => k = b) w W) (fun _ _ => 0)
    case atStart => exact ⟨0, none, 0, rfl, rfl, rfl, rfl, World.ownsRow_nil _ _ _ _, hR3, hG3, hB3, hF03⟩
    case round =>
      clear hR3 hG3 hF03 hB3
      obtain ⟨k, M, mc, rfl, hk0, hM0, hmc0, hO, hRw, hGw, hBw, hFw⟩ := hrel
      have hMb : ∀ x, (Value.slice M k mc).ownBlock = some x → g3 + 1 ≤ x ∧ x < wr.heap.size := fun x hx => by
        obtain ⟨_, _, hv, _, _, _, _, hlo⟩ := own_out hO
        injection hv with h1 h2 h3
        subst h1
        cases M with
        | none => simp [Value.ownBlock] at hx
        | some p => simp only [Value.ownBlock, Option.some.injEq] at hx; have := hlo p rfl; omega
      subst hk0 hM0 hmc0
      have hq : decide ((0 : Int) < 0) = false := by decide
      have x0 := hGw.cell (j := 0) rfl
      have x1 := hGw.cell (j := 1) rfl
      have z0 := hRw.frozen 0
      have z1 := hRw.frozen 1
      have y0 := hRw.cell (j := 0) rfl
      have y1 := hRw.cell (j := 1) rfl
      have y2 := hBw.cell (j := 2) rfl
      have hR := (hRw.set 0 (.int .i64 E)).set 1 (.slice none 0 0)
      have hFz : Fr (fun k => k = b) w ((wr.setCell ⟨g, 0, none⟩ (.int .i64 E)).setCell ⟨g, 1, none⟩ (.slice none 0 0)) := (hFw.trans' (Fr.set (X := fun k => k = g) wr ⟨g, 0, none⟩ _ rfl) (fun k hk => .inr (by have hk : k = g := hk; have := Hg.out; omega))).trans' (Fr.set (X := fun k => k = g) _ ⟨g, 1, none⟩ _ rfl) (fun k hk => .inr (by have hk : k = g := hk; have := Hg.out; omega))
      have hOz := own_frX (own_frX hO (Fr.set (X := fun k => k = g) wr ⟨g, 0, none⟩ (.int .i64 E) rfl) (fun x hx h => by have h : x = g := h; have := hMb x hx; omega)) (Fr.set (X := fun k => k = g) _ ⟨g, 1, none⟩ (.slice none 0 0) rfl) (fun x hx h => by have h : x = g := h; have := hMb x hx; omega)
      have hBz := (hBw.apart (k := g) (by omega) 0 (.int .i64 E)).apart (k := g) (by omega) 1 (.slice none 0 0)
      have HZ := hide (And.intro hR (And.intro hFz (And.intro (own_weak hOz (show g ≤ g3 + 1 by omega)) hBz)))
      clear hR hFz hOz hBz hO hGw hRw hBw hFw hMb
      go_wp2
      refine bodyPost_ret (results_cell rfl rfl HZ.out.1 Tryz.underlying28 rfl (by kernel_rfl)) rfl ?_
      exact ⟨HZ.out.2.1, .inr ⟨fun h => by have := HFits.out.1 h; omega, _, _, _, _, _, rfl, HZ.out.2.2.2⟩⟩
  have HI := rnumber_any b A m c bs (a + 8) 1 w2 hB2 Hm.out hmc hm8 hc hr2 (by omega) (by omega) (by omega)
  rw [HN.out, HRI.out] at HI
  have HI := hide HI
  have HX := hide (And.intro hR2 (And.intro hr2 (And.intro hF2 hG2)))
  clear hB2 hr2 hR2 hF2 hG2
  go_wp2_with fail
  rw [Hw2.out]
  try rw [Hg3.out]
  go_fit HI.out
  rintro e w3 ⟨rfl, hB3, hF3⟩
  have hz3 := hF3.size
  have hR3 := HX.out.1.fr hF3 (fun h => by have h : g = b := h; omega)
  have hr3 := HX.out.2.1.fr hF3 HAb.out
  have hG3 := HX.out.2.2.2.fr hF3 (fun h => by have h : g3 = b := h; omega)
  have hF03 := HX.out.2.2.1.trans hF3
  clear HX HI hF3
  go_wp2_with fail
  go_loopw [5] (fun v W => ∃ (k : Nat) (M : Option Addr) (mc : Nat) (xs : List Value) (at_ ev : Int), v = .int .i64 (k : Int) ∧ k ≤ n ∧ W.ownsRow (g3 + 1) 3 1 (.slice M k mc) k xs ∧ Blk W g [.int .i64 0, .slice none 0 0] 28 ∧ Blk W g3 [.int .i64 E, .slice M k mc] 28 ∧ Blk W b [.slice A m c, .int .i64 at_, .int .i64 ev] 131 ∧ Rd W A (bys bs) ∧ Fr (fun k => k = b) w W ∧ g3 + 1 ≤ W.heap.size ∧ Hid ((ev = 0 ∧ a + 9 + k ≤ m ∧ at_ = ((a + 9 + k : Nat) : Int) ∧ xs = ints (memB bs (a + 9) k)) ∨ (ev = 10 ∧ m < a + 9 + n))) (fun v _ => n - (intOf v).toNat)
  case atStart => exact ⟨0, none, 0, [], _, _, rfl, by omega, World.ownsRow_nil _ _ _ _, hR3, hG3, hB3, hr3, hF03, by omega, hide (.inl ⟨rfl, by omega, rfl, rfl⟩)⟩
  case round =>
    clear hR3 hr3 hG3 hF03 hB3 hz3
    obtain ⟨k, M, mc, xs, at_, ev, rfl, hkn, hO, hRw, hGw, hBw, hrw, hFw, hgw, HST⟩ := hrel
    have hMb : ∀ x, (Value.slice M k mc).ownBlock = some x → g3 + 1 ≤ x ∧ x < wr.heap.size := fun x hx => by
      obtain ⟨_, _, hv, _, _, _, _, hlo⟩ := own_out hO
      injection hv with h1 h2 h3
      subst h1
      cases M with
      | none => simp [Value.ownBlock] at hx
      | some p => simp only [Value.ownBlock, Option.some.injEq] at hx; have := hlo p rfl; omega
    rcases HST.out with ⟨rfl, hkm, rfl, rfl⟩ | ⟨rfl, hbad⟩
    · by_cases hlt : k < n
      · have hq : decide ((k : Int) < (n : Int)) = true := decide_eq_true (by omega)
        have HMb := hide hMb
        have HW := hide (And.intro hO (And.intro hRw (And.intro hFw hBw)))
        have Hrw := hide hrw
        have HGw := hide hGw
        have y2 := hBw.cell (j := 2) rfl
        clear hO hRw hFw hBw hrw hGw hMb HST
        by_cases hfit : m < a + 9 + k + 1
        · go_wp2_with fail
          refine wp_region_any (by kernel_rfl) ?_
          show wpAny _ _ _ _ _ _ _ wr.drew
          refine wpAny_take (fuel := 7) (i := 0) (v := .pointer (some ⟨g3, 1, none⟩)) rfl (by kernel_rfl) (by kernel_rfl) (by kernel_rfl) (fun _ _ _ h => h) (Or.inl ⟨by rfl, fun Z => ?_⟩) ?_
          · go_simp
          refine wpAny_take (fuel := 6) (i := 2) (v := .pointer (some ⟨b, 0, none⟩)) rfl (by kernel_rfl) (by kernel_rfl) (by kernel_rfl) (fun _ _ _ h => h) (Or.inl ⟨by rfl, fun Z => ?_⟩) ?_
          · go_simp
          obtain ⟨X0, hX0⟩ : ∃ y, wr.drew = y := ⟨_, rfl⟩
          have hF0 : Fr (fun k => k = b) wr X0 := by rw [← hX0]; exact (Fr.refl _ _).drew
          have hG := HGw.out.fr hF0 (fun h => by have h : g3 = b := h; omega)
          have hBx : Blk X0 b [.slice A m c, .int .i64 ((a + 9 + k : Nat) : Int), .int .i64 0] 131 := by rw [← hX0]; exact HW.out.2.2.2
          have hrx := Hrw.out.fr hF0 HAb.out
          have hOx := own_frX HW.out.1 hF0 (fun x hx h => by have h : x = b := h; have := HMb.out x hx; omega)
          rw [hX0]
          have HX0 := hide hX0
          clear hX0
          refine any_two (fuel := 5) (i := 1) (j := 3) (by kernel_rfl) rfl rfl rfl rfl (fun Kk hK => ?_) (fun Kk hK => ?_)
          · have x1 := hG.cell (j := 1) rfl
            go_simp
            clear x1
            refine hK _ _ ?_
            clear hK Kk
            refine any_one (fuel := 4) (i := 3) (by kernel_rfl) rfl rfl (fun Kk hK => ?_)
            have HC := rnumber_bad b A m c bs (a + 9 + k) 1 X0 hBx Hm.out hmc hm8 hc hrx (by omega) (by omega) (by omega)
            go_simp
            refine HC.mono ?_
            rintro e' X1 ⟨rfl, hBy, hFy⟩
            replace hG := hG.fr hFy (fun h => by have h : g3 = b := h; omega)
            replace hrx := hrx.fr hFy HAb.out
            have hOy := own_frX hOx hFy (fun x hx h => by have h : x = b := h; have := HMb.out x hx; omega)
            have hFz := hF0.trans hFy
            have hzY := hFy.size
            clear HC hFy hBx
            refine hK _ _ ?_
            clear hK Kk
            refine any_one (fuel := 3) (i := 4) (by kernel_rfl) rfl rfl (fun Kk hK => ?_)
            obtain ⟨X2, hY⟩ : ∃ y, X1.alloc (.cells #[.int .i64 0] 3) = y := ⟨_, rfl⟩
            obtain ⟨g15, hg15⟩ : ∃ y, X1.heap.size = y := ⟨_, rfl⟩
            have hr15 : Rd X2 (some ⟨g15, 0, none⟩) [.int .i64 0] := by rw [← hY, ← hg15]; exact Rd.new1 X1 _ _
            have hst : Below X1.heap.size X1 X2 := by rw [← hY]; exact (Below.refl _ _).alloc (Nat.le_refl _) _
            replace hG := hG.below hst
            replace hrx := hrx.below hst
            replace hOy := own_below hOy hst
            replace hBy := hBy.below hst
            replace hFz := hFz.trans (Fr.of_below hst)
            have hzB := hst.size
            have HY := hide hY
            have Hg15 := hide hg15
            clear hY hg15 hst
            go_simp
            rw [HY.out, Hg15.out]
            refine hK _ _ ?_
            clear hK Kk
            refine any_one (fuel := 2) (i := 5) (by kernel_rfl) rfl rfl (fun Kk hK => ?_)
            have hz0 := hFz.size
            refine oper_own rfl tInts (base := g3 + 1) (e := 3) (by rfl) hOy (A := some ⟨g15, 0, none⟩) (m := 1) (c := 1) (by rfl) (by rfl) hr15 (by intro u hu; simp at hu; subst hu; rfl) (by omega) (by omega) (by omega) ?_
            intro v16 X3 ho16 hgr hkr
            obtain ⟨M', mc', rfl, _⟩ := own_out ho16
            have hfA : Fr (fun x => g3 < x ∧ x ≠ b) X2 X3 := Fr.of_grown hgr (fun x hx => by have := HMb.out x hx; omega)
            replace hG := hG.fr hfA (fun h => by have := h.1; omega)
            have hBz := hBy.fr hfA (fun h => h.2 rfl)
            have hRz := (HW.out.2.1.fr hFz (fun h => by have h : g = b := h; omega)).fr hfA (fun h => by have := h.1; omega)
            have hrz := hrx.fr hfA (fun _ p hp h => by have := HLo.out p hp; have := h.1; omega)
            have hFw' := (HW.out.2.2.1.trans hFz).trans' hfA (fun x hx => .inr (by have := hx.1; have := Hg.out; omega))
            have hzA := hfA.size
            have x1 := hG.cell (j := 1) rfl
            have f1 := hG.frozen 1
            clear hfA hBy hrx hOy hgr hkr
            refine hK _ _ ?_
            clear hK Kk
            refine wpAny_take (fuel := 1) (i := 6) (v := .pointer (some ⟨g3, 1, none⟩)) rfl (by kernel_rfl) (by kernel_rfl) (by kernel_rfl) (fun _ _ _ h => h) (Or.inl ⟨by rfl, fun Z => ?_⟩) ?_
            · go_simp
            refine any_one (fuel := 0) (i := 7) (by kernel_rfl) rfl rfl (fun Kk hK => ?_)
            obtain ⟨X4, hY⟩ : ∃ y, X3.setCell ⟨g3, 1, none⟩ (.slice M' (k + 1) mc') = y := ⟨_, rfl⟩
            have hfS : Fr (fun x => x = g3) X3 X4 := by rw [← hY]; exact Fr.set (X := fun x => x = g3) X3 ⟨g3, 1, none⟩ _ rfl
            have hGy : Blk X4 g3 [.int .i64 E, .slice M' (k + 1) mc'] 28 := by rw [← hY]; exact hG.set 1 _
            have hBy := hBz.fr hfS (fun h => by have h : b = g3 := h; omega)
            have hRy := hRz.fr hfS (fun h => by have h : g = g3 := h; omega)
            have hry := hrz.fr hfS (fun _ p hp h => by have h : p.block = g3 := h; have := HLo.out p hp; omega)
            have hOy := own_frX ho16 hfS (fun x hx h => by
              have h : x = g3 := h
              obtain ⟨_, _, hv, _, _, _, _, hlo⟩ := own_out ho16
              injection hv with h1 h2 h3
              subst h1
              cases M' with
              | none => simp [Value.ownBlock] at hx
              | some p => simp only [Value.ownBlock, Option.some.injEq] at hx; have := hlo p rfl; omega)
            have hFy := hFw'.trans' hfS (fun x hx => .inr (by have hx : x = g3 := hx; have := Hg.out; omega))
            have hzS := hfS.size
            have HY := hide hY
            clear hY hfS
            go_simp
            rw [HY.out]
            clear x1 f1 hG hBz hRz hrz ho16 hFw' 
            refine hK _ _ ?_
            clear hK Kk
            refine wpAny_done (by kernel_rfl) ?_ _
            try simp only [Act.put, List.setIfInBounds_toArray, List.set_cons_zero, List.set_cons_succ, List.getElem_toArray, List.getElem_cons_zero, List.getElem_cons_succ]
            have hxs := trivial
            have HE2 := hide (And.intro hOy (And.intro hRy (And.intro hGy (And.intro hBy (And.intro hry (And.intro hFy hxs))))))
            clear hRy hGy hry hFy hOy hBy HW Hrw HGw hxs y2
            go_wp2
            go_roundw
            case rel => exact ⟨k + 1, M', mc', _, _, _, by go_num, by omega, HE2.out.1, HE2.out.2.1, HE2.out.2.2.1, HE2.out.2.2.2.1, HE2.out.2.2.2.2.1, HE2.out.2.2.2.2.2.1, by omega, hide (.inr ⟨rfl, by omega⟩)⟩
            case measure => simp [intOf]; omega
          · have HC := rnumber_bad b A m c bs (a + 9 + k) 1 X0 hBx Hm.out hmc hm8 hc hrx (by omega) (by omega) (by omega)
            go_simp
            refine HC.mono ?_
            rintro e' X1 ⟨rfl, hBy, hFy⟩
            replace hG := hG.fr hFy (fun h => by have h : g3 = b := h; omega)
            replace hrx := hrx.fr hFy HAb.out
            have hOy := own_frX hOx hFy (fun x hx h => by have h : x = b := h; have := HMb.out x hx; omega)
            have hFz := hF0.trans hFy
            have hzY := hFy.size
            clear HC hFy hBx
            refine hK _ _ ?_
            clear hK Kk
            refine any_two (fuel := 4) (i := 1) (j := 4) (by kernel_rfl) rfl rfl rfl rfl (fun Kk hK => ?_) (fun Kk hK => ?_)
            · have x1 := hG.cell (j := 1) rfl
              go_simp
              clear x1
              refine hK _ _ ?_
              clear hK Kk
              refine any_one (fuel := 3) (i := 4) (by kernel_rfl) rfl rfl (fun Kk hK => ?_)
              obtain ⟨X2, hY⟩ : ∃ y, X1.alloc (.cells #[.int .i64 0] 3) = y := ⟨_, rfl⟩
              obtain ⟨g15, hg15⟩ : ∃ y, X1.heap.size = y := ⟨_, rfl⟩
              have hr15 : Rd X2 (some ⟨g15, 0, none⟩) [.int .i64 0] := by rw [← hY, ← hg15]; exact Rd.new1 X1 _ _
              have hst : Below X1.heap.size X1 X2 := by rw [← hY]; exact (Below.refl _ _).alloc (Nat.le_refl _) _
              replace hG := hG.below hst
              replace hrx := hrx.below hst
              replace hOy := own_below hOy hst
              replace hBy := hBy.below hst
              replace hFz := hFz.trans (Fr.of_below hst)
              have hzB := hst.size
              have HY := hide hY
              have Hg15 := hide hg15
              clear hY hg15 hst
              go_simp
              rw [HY.out, Hg15.out]
              refine hK _ _ ?_
              clear hK Kk
              refine any_one (fuel := 2) (i := 5) (by kernel_rfl) rfl rfl (fun Kk hK => ?_)
              have hz0 := hFz.size
              refine oper_own rfl tInts (base := g3 + 1) (e := 3) (by rfl) hOy (A := some ⟨g15, 0, none⟩) (m := 1) (c := 1) (by rfl) (by rfl) hr15 (by intro u hu; simp at hu; subst hu; rfl) (by omega) (by omega) (by omega) ?_
              intro v16 X3 ho16 hgr hkr
              obtain ⟨M', mc', rfl, _⟩ := own_out ho16
              have hfA : Fr (fun x => g3 < x ∧ x ≠ b) X2 X3 := Fr.of_grown hgr (fun x hx => by have := HMb.out x hx; omega)
              replace hG := hG.fr hfA (fun h => by have := h.1; omega)
              have hBz := hBy.fr hfA (fun h => h.2 rfl)
              have hRz := (HW.out.2.1.fr hFz (fun h => by have h : g = b := h; omega)).fr hfA (fun h => by have := h.1; omega)
              have hrz := hrx.fr hfA (fun _ p hp h => by have := HLo.out p hp; have := h.1; omega)
              have hFw' := (HW.out.2.2.1.trans hFz).trans' hfA (fun x hx => .inr (by have := hx.1; have := Hg.out; omega))
              have hzA := hfA.size
              have x1 := hG.cell (j := 1) rfl
              have f1 := hG.frozen 1
              clear hfA hBy hrx hOy hgr hkr
              refine hK _ _ ?_
              clear hK Kk
              refine wpAny_take (fuel := 1) (i := 6) (v := .pointer (some ⟨g3, 1, none⟩)) rfl (by kernel_rfl) (by kernel_rfl) (by kernel_rfl) (fun _ _ _ h => h) (Or.inl ⟨by rfl, fun Z => ?_⟩) ?_
              · go_simp
              refine any_one (fuel := 0) (i := 7) (by kernel_rfl) rfl rfl (fun Kk hK => ?_)
              obtain ⟨X4, hY⟩ : ∃ y, X3.setCell ⟨g3, 1, none⟩ (.slice M' (k + 1) mc') = y := ⟨_, rfl⟩
              have hfS : Fr (fun x => x = g3) X3 X4 := by rw [← hY]; exact Fr.set (X := fun x => x = g3) X3 ⟨g3, 1, none⟩ _ rfl
              have hGy : Blk X4 g3 [.int .i64 E, .slice M' (k + 1) mc'] 28 := by rw [← hY]; exact hG.set 1 _
              have hBy := hBz.fr hfS (fun h => by have h : b = g3 := h; omega)
              have hRy := hRz.fr hfS (fun h => by have h : g = g3 := h; omega)
              have hry := hrz.fr hfS (fun _ p hp h => by have h : p.block = g3 := h; have := HLo.out p hp; omega)
              have hOy := own_frX ho16 hfS (fun x hx h => by
                have h : x = g3 := h
                obtain ⟨_, _, hv, _, _, _, _, hlo⟩ := own_out ho16
                injection hv with h1 h2 h3
                subst h1
                cases M' with
                | none => simp [Value.ownBlock] at hx
                | some p => simp only [Value.ownBlock, Option.some.injEq] at hx; have := hlo p rfl; omega)
              have hFy := hFw'.trans' hfS (fun x hx => .inr (by have hx : x = g3 := hx; have := Hg.out; omega))
              have hzS := hfS.size
              have HY := hide hY
              clear hY hfS
              go_simp
              rw [HY.out]
              clear x1 f1 hG hBz hRz hrz ho16 hFw' 
              refine hK _ _ ?_
              clear hK Kk
              refine wpAny_done (by kernel_rfl) ?_ _
              try simp only [Act.put, List.setIfInBounds_toArray, List.set_cons_zero, List.set_cons_succ, List.getElem_toArray, List.getElem_cons_zero, List.getElem_cons_succ]
              have hxs := trivial
              have HE2 := hide (And.intro hOy (And.intro hRy (And.intro hGy (And.intro hBy (And.intro hry (And.intro hFy hxs))))))
              clear hRy hGy hry hFy hOy hBy HW Hrw HGw hxs y2
              go_wp2
              go_roundw
              case rel => exact ⟨k + 1, M', mc', _, _, _, by go_num, by omega, HE2.out.1, HE2.out.2.1, HE2.out.2.2.1, HE2.out.2.2.2.1, HE2.out.2.2.2.2.1, HE2.out.2.2.2.2.2.1, by omega, hide (.inr ⟨rfl, by omega⟩)⟩
              case measure => simp [intOf]; omega
            · obtain ⟨X2, hY⟩ : ∃ y, X1.alloc (.cells #[.int .i64 0] 3) = y := ⟨_, rfl⟩
              obtain ⟨g15, hg15⟩ : ∃ y, X1.heap.size = y := ⟨_, rfl⟩
              have hr15 : Rd X2 (some ⟨g15, 0, none⟩) [.int .i64 0] := by rw [← hY, ← hg15]; exact Rd.new1 X1 _ _
              have hst : Below X1.heap.size X1 X2 := by rw [← hY]; exact (Below.refl _ _).alloc (Nat.le_refl _) _
              replace hG := hG.below hst
              replace hrx := hrx.below hst
              replace hOy := own_below hOy hst
              replace hBy := hBy.below hst
              replace hFz := hFz.trans (Fr.of_below hst)
              have hzB := hst.size
              have HY := hide hY
              have Hg15 := hide hg15
              clear hY hg15 hst
              go_simp
              rw [HY.out, Hg15.out]
              refine hK _ _ ?_
              clear hK Kk
              refine any_one (fuel := 3) (i := 1) (by kernel_rfl) rfl rfl (fun Kk hK => ?_)
              have x1 := hG.cell (j := 1) rfl
              go_simp
              clear x1
              refine hK _ _ ?_
              clear hK Kk
              refine any_one (fuel := 2) (i := 5) (by kernel_rfl) rfl rfl (fun Kk hK => ?_)
              have hz0 := hFz.size
              refine oper_own rfl tInts (base := g3 + 1) (e := 3) (by rfl) hOy (A := some ⟨g15, 0, none⟩) (m := 1) (c := 1) (by rfl) (by rfl) hr15 (by intro u hu; simp at hu; subst hu; rfl) (by omega) (by omega) (by omega) ?_
              intro v16 X3 ho16 hgr hkr
              obtain ⟨M', mc', rfl, _⟩ := own_out ho16
              have hfA : Fr (fun x => g3 < x ∧ x ≠ b) X2 X3 := Fr.of_grown hgr (fun x hx => by have := HMb.out x hx; omega)
              replace hG := hG.fr hfA (fun h => by have := h.1; omega)
              have hBz := hBy.fr hfA (fun h => h.2 rfl)
              have hRz := (HW.out.2.1.fr hFz (fun h => by have h : g = b := h; omega)).fr hfA (fun h => by have := h.1; omega)
              have hrz := hrx.fr hfA (fun _ p hp h => by have := HLo.out p hp; have := h.1; omega)
              have hFw' := (HW.out.2.2.1.trans hFz).trans' hfA (fun x hx => .inr (by have := hx.1; have := Hg.out; omega))
              have hzA := hfA.size
              have x1 := hG.cell (j := 1) rfl
              have f1 := hG.frozen 1
              clear hfA hBy hrx hOy hgr hkr
              refine hK _ _ ?_
              clear hK Kk
              refine wpAny_take (fuel := 1) (i := 6) (v := .pointer (some ⟨g3, 1, none⟩)) rfl (by kernel_rfl) (by kernel_rfl) (by kernel_rfl) (fun _ _ _ h => h) (Or.inl ⟨by rfl, fun Z => ?_⟩) ?_
              · go_simp
              refine any_one (fuel := 0) (i := 7) (by kernel_rfl) rfl rfl (fun Kk hK => ?_)
              obtain ⟨X4, hY⟩ : ∃ y, X3.setCell ⟨g3, 1, none⟩ (.slice M' (k + 1) mc') = y := ⟨_, rfl⟩
              have hfS : Fr (fun x => x = g3) X3 X4 := by rw [← hY]; exact Fr.set (X := fun x => x = g3) X3 ⟨g3, 1, none⟩ _ rfl
              have hGy : Blk X4 g3 [.int .i64 E, .slice M' (k + 1) mc'] 28 := by rw [← hY]; exact hG.set 1 _
              have hBy := hBz.fr hfS (fun h => by have h : b = g3 := h; omega)
              have hRy := hRz.fr hfS (fun h => by have h : g = g3 := h; omega)
              have hry := hrz.fr hfS (fun _ p hp h => by have h : p.block = g3 := h; have := HLo.out p hp; omega)
              have hOy := own_frX ho16 hfS (fun x hx h => by
                have h : x = g3 := h
                obtain ⟨_, _, hv, _, _, _, _, hlo⟩ := own_out ho16
                injection hv with h1 h2 h3
                subst h1
                cases M' with
                | none => simp [Value.ownBlock] at hx
                | some p => simp only [Value.ownBlock, Option.some.injEq] at hx; have := hlo p rfl; omega)
              have hFy := hFw'.trans' hfS (fun x hx => .inr (by have hx : x = g3 := hx; have := Hg.out; omega))
              have hzS := hfS.size
              have HY := hide hY
              clear hY hfS
              go_simp
              rw [HY.out]
              clear x1 f1 hG hBz hRz hrz ho16 hFw' 
              refine hK _ _ ?_
              clear hK Kk
              refine wpAny_done (by kernel_rfl) ?_ _
              try simp only [Act.put, List.setIfInBounds_toArray, List.set_cons_zero, List.set_cons_succ, List.getElem_toArray, List.getElem_cons_zero, List.getElem_cons_succ]
              have hxs := trivial
              have HE2 := hide (And.intro hOy (And.intro hRy (And.intro hGy (And.intro hBy (And.intro hry (And.intro hFy hxs))))))
              clear hRy hGy hry hFy hOy hBy HW Hrw HGw hxs y2
              go_wp2
              go_roundw
              case rel => exact ⟨k + 1, M', mc', _, _, _, by go_num, by omega, HE2.out.1, HE2.out.2.1, HE2.out.2.2.1, HE2.out.2.2.2.1, HE2.out.2.2.2.2.1, HE2.out.2.2.2.2.2.1, by omega, hide (.inr ⟨rfl, by omega⟩)⟩
              case measure => simp [intOf]; omega
        · obtain ⟨v, hv⟩ : ∃ y, getV bs ((a + 9 + k : Nat) : Int) 1 = y := ⟨_, rfl⟩
          have hv256 : v < 256 := by rw [← hv]; exact getV_1 bs _
          have hiw : rI7 v = (v : Int) := rI7_in (by omega)
          have hmem : memB bs (a + 9) (k + 1) = memB bs (a + 9) k ++ [(v : Int)] := by rw [memB_succ, hv]
          have HV : Hid (getV bs ((a + 9 + k : Nat) : Int) ((1 : Nat) : Int) = v) := hide hv
          have Hmem := hide hmem
          have Hiw := hide hiw
          clear hv hiw hmem
          go_wp2_with fail
          refine wp_region_any (by kernel_rfl) ?_
          show wpAny _ _ _ _ _ _ _ wr.drew
          refine wpAny_take (fuel := 7) (i := 0) (v := .pointer (some ⟨g3, 1, none⟩)) rfl (by kernel_rfl) (by kernel_rfl) (by kernel_rfl) (fun _ _ _ h => h) (Or.inl ⟨by rfl, fun Z => ?_⟩) ?_
          · go_simp
          refine wpAny_take (fuel := 6) (i := 2) (v := .pointer (some ⟨b, 0, none⟩)) rfl (by kernel_rfl) (by kernel_rfl) (by kernel_rfl) (fun _ _ _ h => h) (Or.inl ⟨by rfl, fun Z => ?_⟩) ?_
          · go_simp
          obtain ⟨X0, hX0⟩ : ∃ y, wr.drew = y := ⟨_, rfl⟩
          have hF0 : Fr (fun k => k = b) wr X0 := by rw [← hX0]; exact (Fr.refl _ _).drew
          have hG := HGw.out.fr hF0 (fun h => by have h : g3 = b := h; omega)
          have hBx : Blk X0 b [.slice A m c, .int .i64 ((a + 9 + k : Nat) : Int), .int .i64 0] 131 := by rw [← hX0]; exact HW.out.2.2.2
          have hrx := Hrw.out.fr hF0 HAb.out
          have hOx := own_frX HW.out.1 hF0 (fun x hx h => by have h : x = b := h; have := HMb.out x hx; omega)
          rw [hX0]
          have HX0 := hide hX0
          clear hX0
          refine any_two (fuel := 5) (i := 1) (j := 3) (by kernel_rfl) rfl rfl rfl rfl (fun Kk hK => ?_) (fun Kk hK => ?_)
          · have x1 := hG.cell (j := 1) rfl
            go_simp
            clear x1
            refine hK _ _ ?_
            clear hK Kk
            refine any_one (fuel := 4) (i := 3) (by kernel_rfl) rfl rfl (fun Kk hK => ?_)
            have HC := rnumber_any b A m c bs (a + 9 + k) 1 X0 hBx Hm.out hmc hm8 hc hrx (by omega) (by omega) (by omega)
            rw [HV.out, Hiw.out] at HC
            go_simp
            refine HC.mono ?_
            rintro e' X1 ⟨rfl, hBy, hFy⟩
            replace hG := hG.fr hFy (fun h => by have h : g3 = b := h; omega)
            replace hrx := hrx.fr hFy HAb.out
            have hOy := own_frX hOx hFy (fun x hx h => by have h : x = b := h; have := HMb.out x hx; omega)
            have hFz := hF0.trans hFy
            have hzY := hFy.size
            clear HC hFy hBx
            refine hK _ _ ?_
            clear hK Kk
            refine any_one (fuel := 3) (i := 4) (by kernel_rfl) rfl rfl (fun Kk hK => ?_)
            obtain ⟨X2, hY⟩ : ∃ y, X1.alloc (.cells #[.int .i64 (v : Int)] 3) = y := ⟨_, rfl⟩
            obtain ⟨g15, hg15⟩ : ∃ y, X1.heap.size = y := ⟨_, rfl⟩
            have hr15 : Rd X2 (some ⟨g15, 0, none⟩) [.int .i64 (v : Int)] := by rw [← hY, ← hg15]; exact Rd.new1 X1 _ _
            have hst : Below X1.heap.size X1 X2 := by rw [← hY]; exact (Below.refl _ _).alloc (Nat.le_refl _) _
            replace hG := hG.below hst
            replace hrx := hrx.below hst
            replace hOy := own_below hOy hst
            replace hBy := hBy.below hst
            replace hFz := hFz.trans (Fr.of_below hst)
            have hzB := hst.size
            have HY := hide hY
            have Hg15 := hide hg15
            clear hY hg15 hst
            go_simp
            rw [HY.out, Hg15.out]
            refine hK _ _ ?_
            clear hK Kk
            refine any_one (fuel := 2) (i := 5) (by kernel_rfl) rfl rfl (fun Kk hK => ?_)
            have hz0 := hFz.size
            refine oper_own rfl tInts (base := g3 + 1) (e := 3) (by rfl) hOy (A := some ⟨g15, 0, none⟩) (m := 1) (c := 1) (by rfl) (by rfl) hr15 (by intro u hu; simp at hu; subst hu; rfl) (by omega) (by omega) (by omega) ?_
            intro v16 X3 ho16 hgr hkr
            obtain ⟨M', mc', rfl, _⟩ := own_out ho16
            have hfA : Fr (fun x => g3 < x ∧ x ≠ b) X2 X3 := Fr.of_grown hgr (fun x hx => by have := HMb.out x hx; omega)
            replace hG := hG.fr hfA (fun h => by have := h.1; omega)
            have hBz := hBy.fr hfA (fun h => h.2 rfl)
            have hRz := (HW.out.2.1.fr hFz (fun h => by have h : g = b := h; omega)).fr hfA (fun h => by have := h.1; omega)
            have hrz := hrx.fr hfA (fun _ p hp h => by have := HLo.out p hp; have := h.1; omega)
            have hFw' := (HW.out.2.2.1.trans hFz).trans' hfA (fun x hx => .inr (by have := hx.1; have := Hg.out; omega))
            have hzA := hfA.size
            have x1 := hG.cell (j := 1) rfl
            have f1 := hG.frozen 1
            clear hfA hBy hrx hOy hgr hkr
            refine hK _ _ ?_
            clear hK Kk
            refine wpAny_take (fuel := 1) (i := 6) (v := .pointer (some ⟨g3, 1, none⟩)) rfl (by kernel_rfl) (by kernel_rfl) (by kernel_rfl) (fun _ _ _ h => h) (Or.inl ⟨by rfl, fun Z => ?_⟩) ?_
            · go_simp
            refine any_one (fuel := 0) (i := 7) (by kernel_rfl) rfl rfl (fun Kk hK => ?_)
            obtain ⟨X4, hY⟩ : ∃ y, X3.setCell ⟨g3, 1, none⟩ (.slice M' (k + 1) mc') = y := ⟨_, rfl⟩
            have hfS : Fr (fun x => x = g3) X3 X4 := by rw [← hY]; exact Fr.set (X := fun x => x = g3) X3 ⟨g3, 1, none⟩ _ rfl
            have hGy : Blk X4 g3 [.int .i64 E, .slice M' (k + 1) mc'] 28 := by rw [← hY]; exact hG.set 1 _
            have hBy := hBz.fr hfS (fun h => by have h : b = g3 := h; omega)
            have hRy := hRz.fr hfS (fun h => by have h : g = g3 := h; omega)
            have hry := hrz.fr hfS (fun _ p hp h => by have h : p.block = g3 := h; have := HLo.out p hp; omega)
            have hOy := own_frX ho16 hfS (fun x hx h => by
              have h : x = g3 := h
              obtain ⟨_, _, hv, _, _, _, _, hlo⟩ := own_out ho16
              injection hv with h1 h2 h3
              subst h1
              cases M' with
              | none => simp [Value.ownBlock] at hx
              | some p => simp only [Value.ownBlock, Option.some.injEq] at hx; have := hlo p rfl; omega)
            have hFy := hFw'.trans' hfS (fun x hx => .inr (by have hx : x = g3 := hx; have := Hg.out; omega))
            have hzS := hfS.size
            have HY := hide hY
            clear hY hfS
            go_simp
            rw [HY.out]
            clear x1 f1 hG hBz hRz hrz ho16 hFw' 
            refine hK _ _ ?_
            clear hK Kk
            refine wpAny_done (by kernel_rfl) ?_ _
            try simp only [Act.put, List.setIfInBounds_toArray, List.set_cons_zero, List.set_cons_succ, List.getElem_toArray, List.getElem_cons_zero, List.getElem_cons_succ]
            have hxs : ints (memB bs (a + 9) k) ++ [.int .i64 (v : Int)] = ints (memB bs (a + 9) (k + 1)) := by rw [Hmem.out]; simp [ints]
            have HE2 := hide (And.intro hOy (And.intro hRy (And.intro hGy (And.intro hBy (And.intro hry (And.intro hFy hxs))))))
            clear hRy hGy hry hFy hOy hBy HW Hrw HGw hxs y2
            go_wp2
            go_roundw
            case rel => exact ⟨k + 1, M', mc', _, _, _, by go_num, by omega, HE2.out.1, HE2.out.2.1, HE2.out.2.2.1, HE2.out.2.2.2.1, HE2.out.2.2.2.2.1, HE2.out.2.2.2.2.2.1, by omega, hide (.inl ⟨rfl, by omega, rfl, HE2.out.2.2.2.2.2.2⟩)⟩
            case measure => simp [intOf]; omega
          · have HC := rnumber_any b A m c bs (a + 9 + k) 1 X0 hBx Hm.out hmc hm8 hc hrx (by omega) (by omega) (by omega)
            rw [HV.out, Hiw.out] at HC
            go_simp
            refine HC.mono ?_
            rintro e' X1 ⟨rfl, hBy, hFy⟩
            replace hG := hG.fr hFy (fun h => by have h : g3 = b := h; omega)
            replace hrx := hrx.fr hFy HAb.out
            have hOy := own_frX hOx hFy (fun x hx h => by have h : x = b := h; have := HMb.out x hx; omega)
            have hFz := hF0.trans hFy
            have hzY := hFy.size
            clear HC hFy hBx
            refine hK _ _ ?_
            clear hK Kk
            refine any_two (fuel := 4) (i := 1) (j := 4) (by kernel_rfl) rfl rfl rfl rfl (fun Kk hK => ?_) (fun Kk hK => ?_)
            · have x1 := hG.cell (j := 1) rfl
              go_simp
              clear x1
              refine hK _ _ ?_
              clear hK Kk
              refine any_one (fuel := 3) (i := 4) (by kernel_rfl) rfl rfl (fun Kk hK => ?_)
              obtain ⟨X2, hY⟩ : ∃ y, X1.alloc (.cells #[.int .i64 (v : Int)] 3) = y := ⟨_, rfl⟩
              obtain ⟨g15, hg15⟩ : ∃ y, X1.heap.size = y := ⟨_, rfl⟩
              have hr15 : Rd X2 (some ⟨g15, 0, none⟩) [.int .i64 (v : Int)] := by rw [← hY, ← hg15]; exact Rd.new1 X1 _ _
              have hst : Below X1.heap.size X1 X2 := by rw [← hY]; exact (Below.refl _ _).alloc (Nat.le_refl _) _
              replace hG := hG.below hst
              replace hrx := hrx.below hst
              replace hOy := own_below hOy hst
              replace hBy := hBy.below hst
              replace hFz := hFz.trans (Fr.of_below hst)
              have hzB := hst.size
              have HY := hide hY
              have Hg15 := hide hg15
              clear hY hg15 hst
              go_simp
              rw [HY.out, Hg15.out]
              refine hK _ _ ?_
              clear hK Kk
              refine any_one (fuel := 2) (i := 5) (by kernel_rfl) rfl rfl (fun Kk hK => ?_)
              have hz0 := hFz.size
              refine oper_own rfl tInts (base := g3 + 1) (e := 3) (by rfl) hOy (A := some ⟨g15, 0, none⟩) (m := 1) (c := 1) (by rfl) (by rfl) hr15 (by intro u hu; simp at hu; subst hu; rfl) (by omega) (by omega) (by omega) ?_
              intro v16 X3 ho16 hgr hkr
              obtain ⟨M', mc', rfl, _⟩ := own_out ho16
              have hfA : Fr (fun x => g3 < x ∧ x ≠ b) X2 X3 := Fr.of_grown hgr (fun x hx => by have := HMb.out x hx; omega)
              replace hG := hG.fr hfA (fun h => by have := h.1; omega)
              have hBz := hBy.fr hfA (fun h => h.2 rfl)
              have hRz := (HW.out.2.1.fr hFz (fun h => by have h : g = b := h; omega)).fr hfA (fun h => by have := h.1; omega)
              have hrz := hrx.fr hfA (fun _ p hp h => by have := HLo.out p hp; have := h.1; omega)
              have hFw' := (HW.out.2.2.1.trans hFz).trans' hfA (fun x hx => .inr (by have := hx.1; have := Hg.out; omega))
              have hzA := hfA.size
              have x1 := hG.cell (j := 1) rfl
              have f1 := hG.frozen 1
              clear hfA hBy hrx hOy hgr hkr
              refine hK _ _ ?_
              clear hK Kk
              refine wpAny_take (fuel := 1) (i := 6) (v := .pointer (some ⟨g3, 1, none⟩)) rfl (by kernel_rfl) (by kernel_rfl) (by kernel_rfl) (fun _ _ _ h => h) (Or.inl ⟨by rfl, fun Z => ?_⟩) ?_
              · go_simp
              refine any_one (fuel := 0) (i := 7) (by kernel_rfl) rfl rfl (fun Kk hK => ?_)
              obtain ⟨X4, hY⟩ : ∃ y, X3.setCell ⟨g3, 1, none⟩ (.slice M' (k + 1) mc') = y := ⟨_, rfl⟩
              have hfS : Fr (fun x => x = g3) X3 X4 := by rw [← hY]; exact Fr.set (X := fun x => x = g3) X3 ⟨g3, 1, none⟩ _ rfl
              have hGy : Blk X4 g3 [.int .i64 E, .slice M' (k + 1) mc'] 28 := by rw [← hY]; exact hG.set 1 _
              have hBy := hBz.fr hfS (fun h => by have h : b = g3 := h; omega)
              have hRy := hRz.fr hfS (fun h => by have h : g = g3 := h; omega)
              have hry := hrz.fr hfS (fun _ p hp h => by have h : p.block = g3 := h; have := HLo.out p hp; omega)
              have hOy := own_frX ho16 hfS (fun x hx h => by
                have h : x = g3 := h
                obtain ⟨_, _, hv, _, _, _, _, hlo⟩ := own_out ho16
                injection hv with h1 h2 h3
                subst h1
                cases M' with
                | none => simp [Value.ownBlock] at hx
                | some p => simp only [Value.ownBlock, Option.some.injEq] at hx; have := hlo p rfl; omega)
              have hFy := hFw'.trans' hfS (fun x hx => .inr (by have hx : x = g3 := hx; have := Hg.out; omega))
              have hzS := hfS.size
              have HY := hide hY
              clear hY hfS
              go_simp
              rw [HY.out]
              clear x1 f1 hG hBz hRz hrz ho16 hFw' 
              refine hK _ _ ?_
              clear hK Kk
              refine wpAny_done (by kernel_rfl) ?_ _
              try simp only [Act.put, List.setIfInBounds_toArray, List.set_cons_zero, List.set_cons_succ, List.getElem_toArray, List.getElem_cons_zero, List.getElem_cons_succ]
              have hxs : ints (memB bs (a + 9) k) ++ [.int .i64 (v : Int)] = ints (memB bs (a + 9) (k + 1)) := by rw [Hmem.out]; simp [ints]
              have HE2 := hide (And.intro hOy (And.intro hRy (And.intro hGy (And.intro hBy (And.intro hry (And.intro hFy hxs))))))
              clear hRy hGy hry hFy hOy hBy HW Hrw HGw hxs y2
              go_wp2
              go_roundw
              case rel => exact ⟨k + 1, M', mc', _, _, _, by go_num, by omega, HE2.out.1, HE2.out.2.1, HE2.out.2.2.1, HE2.out.2.2.2.1, HE2.out.2.2.2.2.1, HE2.out.2.2.2.2.2.1, by omega, hide (.inl ⟨rfl, by omega, rfl, HE2.out.2.2.2.2.2.2⟩)⟩
              case measure => simp [intOf]; omega
            · obtain ⟨X2, hY⟩ : ∃ y, X1.alloc (.cells #[.int .i64 (v : Int)] 3) = y := ⟨_, rfl⟩
              obtain ⟨g15, hg15⟩ : ∃ y, X1.heap.size = y := ⟨_, rfl⟩
              have hr15 : Rd X2 (some ⟨g15, 0, none⟩) [.int .i64 (v : Int)] := by rw [← hY, ← hg15]; exact Rd.new1 X1 _ _
              have hst : Below X1.heap.size X1 X2 := by rw [← hY]; exact (Below.refl _ _).alloc (Nat.le_refl _) _
              replace hG := hG.below hst
              replace hrx := hrx.below hst
              replace hOy := own_below hOy hst
              replace hBy := hBy.below hst
              replace hFz := hFz.trans (Fr.of_below hst)
              have hzB := hst.size
              have HY := hide hY
              have Hg15 := hide hg15
              clear hY hg15 hst
              go_simp
              rw [HY.out, Hg15.out]
              refine hK _ _ ?_
              clear hK Kk
              refine any_one (fuel := 3) (i := 1) (by kernel_rfl) rfl rfl (fun Kk hK => ?_)
              have x1 := hG.cell (j := 1) rfl
              go_simp
              clear x1
              refine hK _ _ ?_
              clear hK Kk
              refine any_one (fuel := 2) (i := 5) (by kernel_rfl) rfl rfl (fun Kk hK => ?_)
              have hz0 := hFz.size
              refine oper_own rfl tInts (base := g3 + 1) (e := 3) (by rfl) hOy (A := some ⟨g15, 0, none⟩) (m := 1) (c := 1) (by rfl) (by rfl) hr15 (by intro u hu; simp at hu; subst hu; rfl) (by omega) (by omega) (by omega) ?_
              intro v16 X3 ho16 hgr hkr
              obtain ⟨M', mc', rfl, _⟩ := own_out ho16
              have hfA : Fr (fun x => g3 < x ∧ x ≠ b) X2 X3 := Fr.of_grown hgr (fun x hx => by have := HMb.out x hx; omega)
              replace hG := hG.fr hfA (fun h => by have := h.1; omega)
              have hBz := hBy.fr hfA (fun h => h.2 rfl)
              have hRz := (HW.out.2.1.fr hFz (fun h => by have h : g = b := h; omega)).fr hfA (fun h => by have := h.1; omega)
              have hrz := hrx.fr hfA (fun _ p hp h => by have := HLo.out p hp; have := h.1; omega)
              have hFw' := (HW.out.2.2.1.trans hFz).trans' hfA (fun x hx => .inr (by have := hx.1; have := Hg.out; omega))
              have hzA := hfA.size
              have x1 := hG.cell (j := 1) rfl
              have f1 := hG.frozen 1
              clear hfA hBy hrx hOy hgr hkr
              refine hK _ _ ?_
              clear hK Kk
              refine wpAny_take (fuel := 1) (i := 6) (v := .pointer (some ⟨g3, 1, none⟩)) rfl (by kernel_rfl) (by kernel_rfl) (by kernel_rfl) (fun _ _ _ h => h) (Or.inl ⟨by rfl, fun Z => ?_⟩) ?_
              · go_simp
              refine any_one (fuel := 0) (i := 7) (by kernel_rfl) rfl rfl (fun Kk hK => ?_)
              obtain ⟨X4, hY⟩ : ∃ y, X3.setCell ⟨g3, 1, none⟩ (.slice M' (k + 1) mc') = y := ⟨_, rfl⟩
              have hfS : Fr (fun x => x = g3) X3 X4 := by rw [← hY]; exact Fr.set (X := fun x => x = g3) X3 ⟨g3, 1, none⟩ _ rfl
              have hGy : Blk X4 g3 [.int .i64 E, .slice M' (k + 1) mc'] 28 := by rw [← hY]; exact hG.set 1 _
              have hBy := hBz.fr hfS (fun h => by have h : b = g3 := h; omega)
              have hRy := hRz.fr hfS (fun h => by have h : g = g3 := h; omega)
              have hry := hrz.fr hfS (fun _ p hp h => by have h : p.block = g3 := h; have := HLo.out p hp; omega)
              have hOy := own_frX ho16 hfS (fun x hx h => by
                have h : x = g3 := h
                obtain ⟨_, _, hv, _, _, _, _, hlo⟩ := own_out ho16
                injection hv with h1 h2 h3
                subst h1
                cases M' with
                | none => simp [Value.ownBlock] at hx
                | some p => simp only [Value.ownBlock, Option.some.injEq] at hx; have := hlo p rfl; omega)
              have hFy := hFw'.trans' hfS (fun x hx => .inr (by have hx : x = g3 := hx; have := Hg.out; omega))
              have hzS := hfS.size
              have HY := hide hY
              clear hY hfS
              go_simp
              rw [HY.out]
              clear x1 f1 hG hBz hRz hrz ho16 hFw' 
              refine hK _ _ ?_
              clear hK Kk
              refine wpAny_done (by kernel_rfl) ?_ _
              try simp only [Act.put, List.setIfInBounds_toArray, List.set_cons_zero, List.set_cons_succ, List.getElem_toArray, List.getElem_cons_zero, List.getElem_cons_succ]
              have hxs : ints (memB bs (a + 9) k) ++ [.int .i64 (v : Int)] = ints (memB bs (a + 9) (k + 1)) := by rw [Hmem.out]; simp [ints]
              have HE2 := hide (And.intro hOy (And.intro hRy (And.intro hGy (And.intro hBy (And.intro hry (And.intro hFy hxs))))))
              clear hRy hGy hry hFy hOy hBy HW Hrw HGw hxs y2
              go_wp2
              go_roundw
              case rel => exact ⟨k + 1, M', mc', _, _, _, by go_num, by omega, HE2.out.1, HE2.out.2.1, HE2.out.2.2.1, HE2.out.2.2.2.1, HE2.out.2.2.2.2.1, HE2.out.2.2.2.2.2.1, by omega, hide (.inl ⟨rfl, by omega, rfl, HE2.out.2.2.2.2.2.2⟩)⟩
              case measure => simp [intOf]; omega
      · obtain rfl : k = n := by omega
        have hq : decide ((k : Int) < (k : Int)) = false := decide_eq_false (by omega)
        have hff := hide (HFits.out.2 (by omega))
        clear HST
        have x0 := hGw.cell (j := 0) rfl
        have x1 := hGw.cell (j := 1) rfl
        have z0 := hRw.frozen 0
        have z1 := hRw.frozen 1
        have y0 := hRw.cell (j := 0) rfl
        have y1 := hRw.cell (j := 1) rfl
        have y2 := hBw.cell (j := 2) rfl
        have hR := (hRw.set 0 (.int .i64 E)).set 1 (.slice M k mc)
        have hFz : Fr (fun k => k = b) w ((wr.setCell ⟨g, 0, none⟩ (.int .i64 E)).setCell ⟨g, 1, none⟩ (.slice M k mc)) := (hFw.trans' (Fr.set (X := fun k => k = g) wr ⟨g, 0, none⟩ _ rfl) (fun k hk => .inr (by have hk : k = g := hk; have := Hg.out; omega))).trans' (Fr.set (X := fun k => k = g) _ ⟨g, 1, none⟩ _ rfl) (fun k hk => .inr (by have hk : k = g := hk; have := Hg.out; omega))
        have hOz := own_frX (own_frX hO (Fr.set (X := fun k => k = g) wr ⟨g, 0, none⟩ (.int .i64 E) rfl) (fun x hx h => by have h : x = g := h; have := hMb x hx; omega)) (Fr.set (X := fun k => k = g) _ ⟨g, 1, none⟩ (.slice M k mc) rfl) (fun x hx h => by have h : x = g := h; have := hMb x hx; omega)
        have hBz := (hBw.apart (k := g) (by omega) 0 (.int .i64 E)).apart (k := g) (by omega) 1 (.slice M k mc)
        have HZ := hide (And.intro hR (And.intro hFz (And.intro (own_weak hOz (show g ≤ g3 + 1 by omega)) hBz)))
        clear hR hFz hOz hBz hO hGw hRw hBw hFw hMb
        go_wp2
        refine bodyPost_ret (results_cell rfl rfl HZ.out.1 Tryz.underlying28 rfl (by kernel_rfl)) rfl ?_
        exact ⟨HZ.out.2.1, .inl ⟨hff.out, M, mc, rfl, by rw [Hg.out]; exact HZ.out.2.2.1, HZ.out.2.2.2⟩⟩
    · have hff := hide (show ¬ grpFits bs a from fun h => by have := HFits.out.1 h; omega)
      clear HST
      by_cases hlt : k < n
      · have hq : decide ((k : Int) < (n : Int)) = true := decide_eq_true (by omega)
        have x0 := hGw.cell (j := 0) rfl
        have x1 := hGw.cell (j := 1) rfl
        have z0 := hRw.frozen 0
        have z1 := hRw.frozen 1
        have y0 := hRw.cell (j := 0) rfl
        have y1 := hRw.cell (j := 1) rfl
        have y2 := hBw.cell (j := 2) rfl
        have hR := (hRw.set 0 (.int .i64 E)).set 1 (.slice M k mc)
        have hFz : Fr (fun k => k = b) w ((wr.setCell ⟨g, 0, none⟩ (.int .i64 E)).setCell ⟨g, 1, none⟩ (.slice M k mc)) := (hFw.trans' (Fr.set (X := fun k => k = g) wr ⟨g, 0, none⟩ _ rfl) (fun k hk => .inr (by have hk : k = g := hk; have := Hg.out; omega))).trans' (Fr.set (X := fun k => k = g) _ ⟨g, 1, none⟩ _ rfl) (fun k hk => .inr (by have hk : k = g := hk; have := Hg.out; omega))
        have hOz := own_frX (own_frX hO (Fr.set (X := fun k => k = g) wr ⟨g, 0, none⟩ (.int .i64 E) rfl) (fun x hx h => by have h : x = g := h; have := hMb x hx; omega)) (Fr.set (X := fun k => k = g) _ ⟨g, 1, none⟩ (.slice M k mc) rfl) (fun x hx h => by have h : x = g := h; have := hMb x hx; omega)
        have hBz := (hBw.apart (k := g) (by omega) 0 (.int .i64 E)).apart (k := g) (by omega) 1 (.slice M k mc)
        have HZ := hide (And.intro hR (And.intro hFz (And.intro (own_weak hOz (show g ≤ g3 + 1 by omega)) hBz)))
        clear hR hFz hOz hBz hO hGw hRw hBw hFw hMb
        go_wp2
        refine bodyPost_ret (results_cell rfl rfl HZ.out.1 Tryz.underlying28 rfl (by kernel_rfl)) rfl ?_
        exact ⟨HZ.out.2.1, .inr ⟨hff.out, _, _, _, _, _, rfl, HZ.out.2.2.2⟩⟩
      · have hq : decide ((k : Int) < (n : Int)) = false := decide_eq_false (by omega)
        have x0 := hGw.cell (j := 0) rfl
        have x1 := hGw.cell (j := 1) rfl
        have z0 := hRw.frozen 0
        have z1 := hRw.frozen 1
        have y0 := hRw.cell (j := 0) rfl
        have y1 := hRw.cell (j := 1) rfl
        have y2 := hBw.cell (j := 2) rfl
        have hR := (hRw.set 0 (.int .i64 E)).set 1 (.slice M k mc)
        have hFz : Fr (fun k => k = b) w ((wr.setCell ⟨g, 0, none⟩ (.int .i64 E)).setCell ⟨g, 1, none⟩ (.slice M k mc)) := (hFw.trans' (Fr.set (X := fun k => k = g) wr ⟨g, 0, none⟩ _ rfl) (fun k hk => .inr (by have hk : k = g := hk; have := Hg.out; omega))).trans' (Fr.set (X := fun k => k = g) _ ⟨g, 1, none⟩ _ rfl) (fun k hk => .inr (by have hk : k = g := hk; have := Hg.out; omega))
        have hOz := own_frX (own_frX hO (Fr.set (X := fun k => k = g) wr ⟨g, 0, none⟩ (.int .i64 E) rfl) (fun x hx h => by have h : x = g := h; have := hMb x hx; omega)) (Fr.set (X := fun k => k = g) _ ⟨g, 1, none⟩ (.slice M k mc) rfl) (fun x hx h => by have h : x = g := h; have := hMb x hx; omega)
        have hBz := (hBw.apart (k := g) (by omega) 0 (.int .i64 E)).apart (k := g) (by omega) 1 (.slice M k mc)
        have HZ := hide (And.intro hR (And.intro hFz (And.intro (own_weak hOz (show g ≤ g3 + 1 by omega)) hBz)))
        clear hR hFz hOz hBz hO hGw hRw hBw hFw hMb
        go_wp2
        refine bodyPost_ret (results_cell rfl rfl HZ.out.1 Tryz.underlying28 rfl (by kernel_rfl)) rfl ?_
        exact ⟨HZ.out.2.1, .inr ⟨hff.out, _, _, _, _, _, rfl, HZ.out.2.2.2⟩⟩
end Go.Proofs.YtkknkdjdneldlaaGreat
