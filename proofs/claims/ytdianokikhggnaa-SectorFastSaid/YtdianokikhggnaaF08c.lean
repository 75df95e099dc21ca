/- Package sector: New, made, Shape, burn, Fuse, fasten. -/
import Derived.Test.YtdianokikhggnaaF08b
import Derived.Deep.RegionWith
namespace Go.Proofs.Ytdianokikhggnaa
set_option maxRecDepth 20000
open Go.RowKit Go.Px Go.Maps
set_option linter.unusedVariables false
@[go_sem] theorem neqnil_rows (w : World) (A : Option Addr) (n c n' c' : Nat) : (binOp .neq 55 (.slice A n c) (.slice none n' c')).run Try.prog w = .ok (.bool A.isSome) w := by
  cases A <;> kernel_rfl
section
variable {w : World} {Q : Nat → Prop} {t f lm bm : Nat} {d : Dk}
theorem made08_any (h : DIs w Q t f lm bm d) : Calls Try.prog 35 #[.pointer (some ⟨t, 0, none⟩)] w fun e w' => e = .returned (.bool true) ∧ w = w' := by
  obtain ⟨c, b1, _⟩ := h.blk
  have x1 := b1.cell (j := 1) rfl
  go_enter Try.func35, Try.ntmps35
  go_wp2
  go_ret
  exact ⟨rfl, rfl⟩
theorem made08_nil (w : World) : Calls Try.prog 35 #[.pointer none] w fun e w' => e = .returned (.bool false) ∧ w = w' := by
  go_enter Try.func35, Try.ntmps35
  go_wp2
  go_ret
  exact ⟨rfl, rfl⟩
theorem made08_zero {z : Nat} {v0 v2 v3 v4 : Value} (hB : Blk w z [v0, .slice none 0 0, v2, v3, v4] 59) : Calls Try.prog 35 #[.pointer (some ⟨z, 0, none⟩)] w fun e w' => e = .returned (.bool false) ∧ w = w' := by
  have x1 := hB.cell (j := 1) rfl
  go_enter Try.func35, Try.ntmps35
  go_wp2
  go_ret
  exact ⟨rfl, rfl⟩
theorem shape08_any (h : DIs w Q t f lm bm d) : Calls Try.prog 21 #[.pointer (some ⟨t, 0, none⟩)] w fun e w' => e = .returned (.tuple #[.int .i64 (d.fast.length : Int), .int .i64 (d.size : Int)]) ∧ Below w.heap.size w w' := by
  obtain ⟨c, b1, _⟩ := h.blk
  have x0 := b1.cell (j := 0) rfl
  have x1 := b1.cell (j := 1) rfl
  go_enter Try.func21, Try.ntmps21
  go_wp2_with fail
  go_fit (made08_any h)
  rintro x w1 ⟨rfl, rfl⟩
  go_wp2_with fail
  go_quiet (fail)
  go_wp2
  refine bodyPost_ret (results_tmp2 rfl _ _ _) rfl ?_
  exact ⟨rfl, rfl, rfl, rfl, Nat.le_refl _, fun _ _ => rfl⟩
/-- What burn answers, and what it leaves. -/
def Dk.burnE (d : Dk) : Int := if d.fuse = 0 then 82 else 0
def Dk.burnt (d : Dk) : Dk := if 0 < d.fuse then { d with fuse := d.fuse - 1 } else d
theorem burn08_any (h : DIs w Q t f lm bm d) : Calls Try.prog 36 #[.pointer (some ⟨t, 0, none⟩)] w fun e w' => e = .returned (.int .i64 d.burnE) ∧ DIs w' Q t f lm bm d.burnt ∧ Fr (fun x => x = t) w w' ∧ w'.heap.size = w.heap.size := by
  obtain ⟨c, b1, _⟩ := h.blk
  have x4 := b1.cell (j := 4) rfl
  have f4 := b1.frozen 4
  have k1 := h.ok.f1
  have k2 := h.ok.f2
  have HP := hide (fun h1 => h.put_fuse (z := d.fuse - 1) h1 (by omega))
  have H := hide h
  obtain ⟨z, hz⟩ : ∃ z, d.fuse = z := ⟨_, rfl⟩
  rw [hz] at x4 k1 k2 HP
  have Hz := hide hz
  clear h hz
  rcases (show z = -1 ∨ z = 0 ∨ 0 < z by omega) with rfl | rfl | hp
  · go_enter Try.func36, Try.ntmps36
    go_wp2
    go_ret
    exact ⟨by unfold Dk.burnE; rw [Hz.out]; rfl, by unfold Dk.burnt; rw [Hz.out]; exact H.out, Fr.refl _ _, rfl⟩
  · go_enter Try.func36, Try.ntmps36
    go_wp2
    go_ret
    exact ⟨by unfold Dk.burnE; rw [Hz.out]; rfl, by unfold Dk.burnt; rw [Hz.out]; exact H.out, Fr.refl _ _, rfl⟩
  · have q0 : (z == 0) = false := by simp; omega
    have q1 : decide ((0 : Int) < z) = true := decide_eq_true hp
    have hw : IntKind.i64.wrap (z - 1) = z - 1 := by rw [IntKind.wrap_i64]; omega
    obtain ⟨y, hy⟩ : ∃ y, z - 1 = y := ⟨_, rfl⟩
    rw [hy] at hw HP
    go_enter Try.func36, Try.ntmps36
    go_wp2
    go_ret
    obtain ⟨i1, i2⟩ := HP.out (by omega)
    exact ⟨by unfold Dk.burnE; rw [Hz.out, if_neg (by omega)]; rfl, by unfold Dk.burnt; rw [Hz.out, if_pos hp, hy]; exact i1, i2, by simp⟩
def fuseI (n : Int) : Int := if -1 ≤ n then n else -1
theorem fuse08_any (h : DIs w Q t f lm bm d) (n : Int) (hn : n ≤ 9223372036854775807) : Calls Try.prog 12 #[.pointer (some ⟨t, 0, none⟩), .int .i64 n] w fun e w' => e = .returned (.int .i64 0) ∧ DIs w' Q t f lm bm { d with fuse := fuseI n } ∧ Fr (fun x => x = t) w w' ∧ w'.heap.size = w.heap.size := by
  obtain ⟨c, b1, _⟩ := h.blk
  have x4 := b1.cell (j := 4) rfl
  have f4 := b1.frozen 4
  have HP := hide (h.put_fuse (z := fuseI n) (by unfold fuseI; split <;> omega) (by unfold fuseI; split <;> omega))
  go_enter Try.func12, Try.ntmps12
  go_wp2_with fail
  go_fit (made08_any h)
  rintro x w1 ⟨rfl, rfl⟩
  have hm : max n (-1) = fuseI n := by unfold fuseI; split <;> omega
  clear h
  go_wp2
  all_goals
    go_ret
    first
    | (have e : fuseI n = -1 := by unfold fuseI; split <;> omega
       rw [e] at HP ⊢; exact ⟨rfl, HP.out.1, HP.out.2, by simp⟩)
    | (have e : fuseI n = n := by unfold fuseI; split <;> omega
       rw [e] at HP ⊢; exact ⟨rfl, HP.out.1, HP.out.2, by simp⟩)
/-- What fasten leaves. -/
def Dk.fasten (d : Dk) (i : Nat) (b : List UInt8) : Dk := ((d.putF i b).putL i none).putB i false
theorem fr_own {b : Nat} {w w' : World} (hf : Fr (fun x => x = b) w w') (hb : OwnB t f lm bm b) : Fr (OwnB t f lm bm) w w' := hf.mono (fun x hx => by subst hx; exact hb)
set_option maxHeartbeats 800000 in
theorem fasten08_any (h : DIs w Q t f lm bm d) (i : Nat) (A : Option Addr) (n c : Nat) (bs : List UInt8) (hi : i < d.fast.length) (hl : bs.length = d.size) (hv : SecIs w Q (.slice A n c) bs) :
    Calls Try.prog 37 #[.pointer (some ⟨t, 0, none⟩), .int .i64 (i : Int), .slice A n c] w fun e w' => e = .returned (.tuple #[]) ∧ DIs w' Q t f lm bm (d.fasten i bs) ∧ Fr (OwnB t f lm bm) w w' := by
  obtain ⟨cc, b1, _⟩ := h.blk
  have x1 := b1.cell (j := 1) rfl
  obtain ⟨u, hu, _⟩ := h.sec hi
  have hfz : w.frozen? ⟨f, i, none⟩ = false := by obtain ⟨cs, r1, _⟩ := h.row; exact r1.frozen i
  obtain ⟨h1, f1⟩ := h.put_fast hi hl hv
  have hi0 : (0 : Int) ≤ (i : Int) := by omega
  have hN := h.ok.n2
  obtain ⟨N, hNe⟩ : ∃ N, d.fast.length = N := ⟨_, rfl⟩
  rw [hNe] at hi hN x1
  have HN := hide hNe
  obtain ⟨w1, hw1⟩ : ∃ y, w.setCell ⟨f, i, none⟩ (.slice A n c) = y := ⟨_, rfl⟩
  rw [hw1] at h1 f1
  obtain ⟨cc1, b1', _⟩ := h1.blk
  have y2 := b1'.cell (j := 2) rfl
  obtain ⟨w2, hd2, h2, f2⟩ := h1.del_lo (i := (i : Int)) (by omega) (by omega) 0
  obtain ⟨cc2, b2', _⟩ := h2.blk
  have y3 := b2'.cell (j := 3) rfl
  obtain ⟨w3, hd3, h3, f3⟩ := h2.del_ba (i := (i : Int)) (by omega) (by omega) 0
  have H := hide (And.intro h3 ((fr_own (t := t) (lm := lm) (bm := bm) f1 (.inr (.inl rfl))).trans ((fr_own (t := t) (f := f) (bm := bm) f2 (.inr (.inr (.inl rfl)))).trans (fr_own (t := t) (f := f) (lm := lm) f3 (.inr (.inr (.inr rfl)))))))
  clear h h1 h2 h3 f1 f2 f3 b1 b1' b2' hNe hv
  go_enter Try.func37, Try.ntmps37
  go_wp2_with fail
  refine bodyPost_end (results_none rfl _ _ _) rfl ?_
  exact ⟨rfl, H.out.1, H.out.2⟩
end
end Go.Proofs.Ytdianokikhggnaa
