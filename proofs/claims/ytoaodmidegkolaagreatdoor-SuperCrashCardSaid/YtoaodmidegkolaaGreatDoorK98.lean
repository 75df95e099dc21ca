/- Texts joined (shake.py). -/
import Derived.Deep.RegionWith
import Derived.Test.YtoaodmidegkolaaGreatDoorS08
import Derived.BigRegion
import Derived.Deep.RegionHeld
import Derived.Test.YtoaodmidegkolaaGreatDoorK91
import Derived.Test.YtoaodmidegkolaaGreatDoorK92
import Derived.Test.YtoaodmidegkolaaGreatDoorK97
namespace Go.Proofs.YtoaodmidegkolaaGreatDoor
set_option maxRecDepth 20000
open Go.RowKit Go.Px Go.Maps
set_option linter.unusedVariables false
@[go_sem] theorem neqnil_rows (w : World) (A : Option Addr) (n c n' c' : Nat) : (binOp .neq 44 (.slice A n c) (.slice none n' c')).run Tryz.prog w = .ok (.bool A.isSome) w := by
  cases A <;> kernel_rfl
section
variable {w : World} {Q : Nat → Prop} {t f lm bm : Nat} {d : Dk}
theorem made08_any (h : DIs w Q t f lm bm d) : Calls Tryz.prog 18 #[.pointer (some ⟨t, 0, none⟩)] w fun e w' => e = .returned (.bool true) ∧ w = w' := by
  obtain ⟨c, b1, _⟩ := h.blk
  have x1 := b1.cell (j := 1) rfl
  go_enter Tryz.func18, Tryz.ntmps18
  go_wp2
  go_ret
  exact ⟨rfl, rfl⟩
theorem made08_nil (w : World) : Calls Tryz.prog 18 #[.pointer none] w fun e w' => e = .returned (.bool false) ∧ w = w' := by
  go_enter Tryz.func18, Tryz.ntmps18
  go_wp2
  go_ret
  exact ⟨rfl, rfl⟩
theorem made08_zero {z : Nat} {v0 v2 v3 v4 : Value} (hB : Blk w z [v0, .slice none 0 0, v2, v3, v4] 48) : Calls Tryz.prog 18 #[.pointer (some ⟨z, 0, none⟩)] w fun e w' => e = .returned (.bool false) ∧ w = w' := by
  have x1 := hB.cell (j := 1) rfl
  go_enter Tryz.func18, Tryz.ntmps18
  go_wp2
  go_ret
  exact ⟨rfl, rfl⟩
theorem shape08_any (h : DIs w Q t f lm bm d) : Calls Tryz.prog 13 #[.pointer (some ⟨t, 0, none⟩)] w fun e w' => e = .returned (.tuple #[.int .i64 (d.fast.length : Int), .int .i64 (d.size : Int)]) ∧ Below w.heap.size w w' := by
  obtain ⟨c, b1, _⟩ := h.blk
  have x0 := b1.cell (j := 0) rfl
  have x1 := b1.cell (j := 1) rfl
  go_enter Tryz.func13, Tryz.ntmps13
  go_wp2_with fail
  go_fit (made08_any h)
  rintro x w1 ⟨rfl, rfl⟩
  go_wp2_with fail
  go_quiet (fail)
  go_wp2
  refine bodyPost_ret (results_tmp2 rfl _ _ _) rfl ?_
  exact ⟨rfl, rfl, rfl, rfl, Nat.le_refl _, fun _ _ => rfl⟩
/-- What burn answers, and what it leaves. -/
def Dk.burnE (d : Dk) : Int := if d.fuse = 0 then 82 else 0
def Dk.burnt (d : Dk) : Dk := if 0 < d.fuse then { d with fuse := d.fuse - 1 } else d
theorem burn08_any (h : DIs w Q t f lm bm d) : Calls Tryz.prog 19 #[.pointer (some ⟨t, 0, none⟩)] w fun e w' => e = .returned (.int .i64 d.burnE) ∧ DIs w' Q t f lm bm d.burnt ∧ Fr (fun x => x = t) w w' ∧ w'.heap.size = w.heap.size := by
  obtain ⟨c, b1, _⟩ := h.blk
  have x4 := b1.cell (j := 4) rfl
  have f4 := b1.frozen 4
  have k1 := h.ok.f1
  have k2 := h.ok.f2
  have HP := hide (fun h1 => h.put_fuse (z := d.fuse - 1) h1 (by omega))
  have H := hide h
  obtain ⟨z, hz⟩ : ∃ z, d.fuse = z := ⟨_, rfl⟩
  rw [hz] at x4 k1 k2 HP
  have Hz := hide hz
  clear h hz
  rcases (show z = -1 ∨ z = 0 ∨ 0 < z by omega) with rfl | rfl | hp
  · go_enter Tryz.func19, Tryz.ntmps19
    go_wp2
    go_ret
    exact ⟨by unfold Dk.burnE; rw [Hz.out]; rfl, by unfold Dk.burnt; rw [Hz.out]; exact H.out, Fr.refl _ _, rfl⟩
  · go_enter Tryz.func19, Tryz.ntmps19
    go_wp2
    go_ret
    exact ⟨by unfold Dk.burnE; rw [Hz.out]; rfl, by unfold Dk.burnt; rw [Hz.out]; exact H.out, Fr.refl _ _, rfl⟩
  · have q0 : (z == 0) = false := by simp; omega
    have q1 : decide ((0 : Int) < z) = true := decide_eq_true hp
    have hw : IntKind.i64.wrap (z - 1) = z - 1 := by rw [IntKind.wrap_i64]; omega
    obtain ⟨y, hy⟩ : ∃ y, z - 1 = y := ⟨_, rfl⟩
    rw [hy] at hw HP
    go_enter Tryz.func19, Tryz.ntmps19
    go_wp2
    go_ret
    obtain ⟨i1, i2⟩ := HP.out (by omega)
    exact ⟨by unfold Dk.burnE; rw [Hz.out, if_neg (by omega)]; rfl, by unfold Dk.burnt; rw [Hz.out, if_pos hp, hy]; exact i1, i2, by simp⟩
def fuseI (n : Int) : Int := if -1 ≤ n then n else -1
/-- What fasten leaves. -/
def Dk.fasten (d : Dk) (i : Nat) (b : List UInt8) : Dk := ((d.putF i b).putL i none).putB i false
theorem fr_own {b : Nat} {w w' : World} (hf : Fr (fun x => x = b) w w') (hb : OwnB t f lm bm b) : Fr (OwnB t f lm bm) w w' := hf.mono (fun x hx => by subst hx; exact hb)
set_option maxHeartbeats 800000 in
theorem fasten08_any (h : DIs w Q t f lm bm d) (i : Nat) (A : Option Addr) (n c : Nat) (bs : List UInt8) (hi : i < d.fast.length) (hl : bs.length = d.size) (hv : SecIs w Q (.slice A n c) bs) :
    Calls Tryz.prog 21 #[.pointer (some ⟨t, 0, none⟩), .int .i64 (i : Int), .slice A n c] w fun e w' => e = .returned (.tuple #[]) ∧ DIs w' Q t f lm bm (d.fasten i bs) ∧ Fr (OwnB t f lm bm) w w' := by
  obtain ⟨cc, b1, _⟩ := h.blk
  have x1 := b1.cell (j := 1) rfl
  obtain ⟨u, hu, _⟩ := h.sec hi
  have hfz : w.frozen? ⟨f, i, none⟩ = false := by obtain ⟨cs, r1, _⟩ := h.row; exact r1.frozen i
  obtain ⟨h1, f1⟩ := h.put_fast hi hl hv
  have hi0 : (0 : Int) ≤ (i : Int) := by omega
  have hN := h.ok.n2
  obtain ⟨N, hNe⟩ : ∃ N, d.fast.length = N := ⟨_, rfl⟩
  rw [hNe] at hi hN x1
  have HN := hide hNe
  obtain ⟨w1, hw1⟩ : ∃ y, w.setCell ⟨f, i, none⟩ (.slice A n c) = y := ⟨_, rfl⟩
  rw [hw1] at h1 f1
  obtain ⟨cc1, b1', _⟩ := h1.blk
  have y2 := b1'.cell (j := 2) rfl
  obtain ⟨w2, hd2, h2, f2⟩ := h1.del_lo (i := (i : Int)) (by omega) (by omega) 0
  obtain ⟨cc2, b2', _⟩ := h2.blk
  have y3 := b2'.cell (j := 3) rfl
  obtain ⟨w3, hd3, h3, f3⟩ := h2.del_ba (i := (i : Int)) (by omega) (by omega) 0
  have H := hide (And.intro h3 ((fr_own (t := t) (lm := lm) (bm := bm) f1 (.inr (.inl rfl))).trans ((fr_own (t := t) (f := f) (bm := bm) f2 (.inr (.inr (.inl rfl)))).trans (fr_own (t := t) (f := f) (lm := lm) f3 (.inr (.inr (.inr rfl)))))))
  clear h h1 h2 h3 f1 f2 f3 b1 b1' b2' hNe hv
  go_enter Tryz.func21, Tryz.ntmps21
  go_wp2_with fail
  refine bodyPost_end (results_none rfl _ _ _) rfl ?_
  exact ⟨rfl, H.out.1, H.out.2⟩
end
end Go.Proofs.YtoaodmidegkolaaGreatDoor
namespace Go.Proofs.YtoaodmidegkolaaGreatDoor
set_option maxRecDepth 20000
open Go.RowKit Go.Px Go.Maps
set_option linter.unusedVariables false
section
variable {w : World} {Q : Nat → Prop} {t f lm bm : Nat} {d : Dk}
def Dk.unread (d : Dk) (i : Int) : Bool := (d.loose i).isNone && d.bad i
theorem unread08_any (h : DIs w Q t f lm bm d) (i : Int) (h1 : -9223372036854775808 ≤ i) (h2 : i ≤ 9223372036854775807) :
    Calls Tryz.prog 57 #[.pointer (some ⟨t, 0, none⟩), .int .i64 i] w fun e w' => e = .returned (.bool (d.unread i)) ∧ Below w.heap.size w w' := by
  obtain ⟨cc, b1, _⟩ := h.blk
  have x2 := b1.cell (j := 2) rfl
  have x3 := b1.cell (j := 3) rfl
  have lb := h.look_ba h1 h2
  rcases h.look_lo h1 h2 with ⟨hl, ll⟩ | ⟨bs, A, n, c, hl, ll, _⟩
  · have hu : d.unread i = d.bad i := by unfold Dk.unread; rw [hl]; rfl
    rw [hu]
    obtain ⟨bb, hbb⟩ : ∃ bb, d.bad i = bb := ⟨_, rfl⟩
    rw [hbb] at lb ⊢
    have lb2 := ((Below.refl w.heap.size w).alloc (Nat.le_refl _) (.cells #[] 62))
    have y3 := ((b1.below lb2).cell (j := 3) rfl)
    have lb3 := (h.below lb2).look_ba h1 h2
    rw [hbb] at lb3
    clear h b1 hl hu hbb
    go_enter Tryz.func57, Tryz.ntmps57
    go_wp2
    go_ret
    exact ⟨rfl, lb2⟩
  · have hu : d.unread i = false := by unfold Dk.unread; rw [hl]; rfl
    rw [hu]
    clear h b1 hl hu
    go_enter Tryz.func57, Tryz.ntmps57
    go_wp2
    go_ret
    exact ⟨rfl, Below.refl _ _⟩
/-- What a sector holds: what is loose, else what is fast. -/
def Dk.bytesD (d : Dk) (i : Nat) : List UInt8 := (d.loose (i : Int)).getD (d.fast.getD i [])
theorem Dk.bytesD_len (ok : d.Ok) {i : Nat} (hi : i < d.fast.length) : (d.bytesD i).length = d.size := by
  unfold Dk.bytesD
  cases hl : d.loose (i : Int) with
  | none =>
    show (d.fast.getD i []).length = _
    rw [List.getD_eq_getElem?_getD, List.getElem?_eq_getElem hi]
    exact ok.fl _ (List.getElem_mem hi)
  | some bs => exact (ok.lo _ _ hl).2.2
theorem bytes08_any (h : DIs w Q t f lm bm d) (i : Nat) (hi : i < d.fast.length) :
    Calls Tryz.prog 58 #[.pointer (some ⟨t, 0, none⟩), .int .i64 (i : Int)] w fun e w' => ∃ A n c, e = .returned (.slice A n c) ∧ SecIs w Q (.slice A n c) (d.bytesD i) ∧ w = w' := by
  obtain ⟨cc, b1, _⟩ := h.blk
  have x1 := b1.cell (j := 1) rfl
  have x2 := b1.cell (j := 2) rfl
  have hN := h.ok.n2
  obtain ⟨v, hv, hs⟩ := h.sec hi
  obtain ⟨A, n, c, rfl, hsr⟩ := hs
  rcases h.look_lo (i := (i : Int)) (by omega) (by omega) with ⟨hl, ll⟩ | ⟨bs, A', n', c', hl, ll, hb1, hb2, hb3, hb4, hb5⟩
  · have he : d.bytesD i = d.fast[i] := by
      unfold Dk.bytesD
      rw [hl, List.getD_eq_getElem?_getD, List.getElem?_eq_getElem hi]; rfl
    rw [he]
    have HS := hide (show SecIs w Q (.slice A n c) d.fast[i] from ⟨A, n, c, rfl, hsr⟩)
    obtain ⟨N, hNe⟩ : ∃ N, d.fast.length = N := ⟨_, rfl⟩
    have hi' := hi
    rw [hNe] at hi' hN x1
    clear h b1 hl he hsr hNe
    go_enter Tryz.func58, Tryz.ntmps58
    go_wp2
    go_ret
    exact ⟨A, n, c, rfl, HS.out, rfl⟩
  · have he : d.bytesD i = bs := by unfold Dk.bytesD; rw [hl]; rfl
    rw [he]
    have HS := hide (show SecIs w Q (.slice A' n' c') bs from ⟨A', n', c', rfl, hb2, hb3, .inr ⟨hb1, hb4, hb5⟩⟩)
    clear h b1 hl he hsr hv x1
    go_enter Tryz.func58, Tryz.ntmps58
    go_wp2
    go_ret
    exact ⟨A', n', c', rfl, HS.out, rfl⟩
end
end Go.Proofs.YtoaodmidegkolaaGreatDoor
namespace Go.Proofs.YtoaodmidegkolaaGreatDoor
set_option maxRecDepth 20000
open Go.RowKit Go.Px Go.Maps
set_option linter.unusedVariables false
section
variable {w : World} {Q : Nat → Prop} {t f lm bm : Nat} {d : Dk}
theorem DIs.low (h : DIs w Q t f lm bm d) : DIs w (fun b => Q b ∧ b < w.heap.size) t f lm bm d := by
  obtain ⟨h1, ⟨cs, r1, r2, r3⟩, ⟨D, l1, l2⟩, h4, h5, h6, h7⟩ := h
  have hs : ∀ v b, SecIs w Q v b → b ≠ [] → SecIs w (fun b => Q b ∧ b < w.heap.size) v b := by
    rintro v b ⟨A, n, c, e1, e2, e3, e4 | ⟨e4, e5, e6⟩⟩ hne
    · exact ⟨A, n, c, e1, e2, e3, .inl e4⟩
    · refine ⟨A, n, c, e1, e2, e3, .inr ⟨e4, e5, fun a ha => ⟨e6 a ha, ?_⟩⟩⟩
      have : bys b ≠ [] := fun e => hne (by simpa [bys] using e)
      exact rd_block e5 this a ha
  refine ⟨h1, ⟨cs, r1, r2, fun i b hi => ?_⟩, ⟨D, l1, fun i => ?_⟩, h4, h5, h6, fun b hb => h7 b hb.1⟩
  · obtain ⟨v, hv, hsv⟩ := r3 i b hi
    refine ⟨v, hv, hs v b hsv fun e => ?_⟩
    have := h5.fl b (List.mem_of_getElem? hi)
    rw [e] at this
    have := h5.s1
    simp at *
    omega
  · have hl := l2 i
    cases hm : d.loose i with
    | none => rw [hm] at hl; exact hl
    | some bs =>
      rw [hm] at hl
      obtain ⟨q0, A, n, c, q1, q2, q3, q4, q5, q6⟩ := hl
      refine ⟨q0, A, n, c, q1, q2, q3, q4, q5, fun a ha => ⟨q6 a ha, ?_⟩⟩
      refine rd_block q5 (fun e => ?_) a ha
      have h8 := (h5.lo i bs hm).2.2
      have h9 := h5.s1
      have : bs = [] := by simpa [bys] using e
      rw [this] at h8
      simp at h8
      omega
theorem below_cell08 {w w' : World} (hb : Below w.heap.size w w') {a : Addr} {u : Value} (h : w.cell? a = some u) : w'.cell? a = some u := (hb.cell (p := a) (World.block_lt_of_cell? w _ h)).trans h
theorem blk_setRow {W : World} {g : Nat} {cs cs' : List Value} {T : TypeId} (h : Blk W g cs T) : Blk (W.setRow g cs'.toArray) g cs' T := h.setAll _
theorem fr_setRow (W : World) (g : Nat) (cs : List Value) : Fr (fun x => x = g) W (W.setRow g cs.toArray) := ⟨rfl, rfl, rfl, by simp [World.setRow], fun k _ hne => heap_setRow_other W g k _ (fun e => hne e)⟩
/-- n sectors from i on, one behind the other. -/
def Dk.flat (d : Dk) (i n : Nat) : List UInt8 := (List.range n).flatMap fun k => d.bytesD (i + k)
theorem Dk.flat_succ (d : Dk) (i n : Nat) : d.flat i (n + 1) = d.flat i n ++ d.bytesD (i + n) := by
  unfold Dk.flat; rw [List.range_succ, List.flatMap_append]; simp
theorem Dk.flat_len {d : Dk} (ok : d.Ok) {i : Nat} : ∀ {n : Nat}, i + n ≤ d.fast.length → (d.flat i n).length = n * d.size
  | 0, _ => by simp [Dk.flat]
  | n + 1, h => by rw [Dk.flat_succ, List.length_append, Dk.flat_len ok (by omega), Dk.bytesD_len ok (by omega), Nat.succ_mul]
def inN (N : Nat) (i n : Int) : Prop := 0 ≤ i ∧ 0 ≤ n ∧ i ≤ (N : Int) ∧ n ≤ (N : Int) - i
instance (N : Nat) (i n : Int) : Decidable (inN N i n) := by unfold inN; exact inferInstance
abbrev Dk.inR (d : Dk) (i n : Int) : Prop := inN d.fast.length i n
def Dk.readE (d : Dk) (i n : Int) : Int := if d.inR i n then (if (List.range n.toNat).any (fun k => d.unread (i + (k : Int))) = true then 81 else 0) else 5
def Dk.readB (d : Dk) (i n : Int) : List UInt8 := if d.readE i n = 0 then d.flat i.toNat n.toNat else []
/-- What a buffer holds behind j sectors. -/
def Dk.part (d : Dk) (i K j : Nat) : List UInt8 := d.flat i j ++ List.replicate ((K - j) * d.size) 0
theorem Dk.part_len {d : Dk} (ok : d.Ok) {i K j : Nat} (h : i + K ≤ d.fast.length) (hj : j ≤ K) : (d.part i K j).length = K * d.size := by
  unfold Dk.part
  rw [List.length_append, Dk.flat_len ok (by omega), List.length_replicate, ← Nat.add_mul, Nat.add_sub_cancel' hj]
theorem Dk.part_next {d : Dk} (ok : d.Ok) {i K j : Nat} (h : i + K ≤ d.fast.length) (hj : j < K) : bys (d.part i K (j + 1)) = spl (bys (d.part i K j)) (j * d.size) (bys (d.bytesD (i + j))) := by
  have hf := Dk.flat_len ok (i := i) (n := j) (by omega)
  have hb := Dk.bytesD_len ok (i := i + j) (by omega)
  have hz : List.replicate ((K - j) * d.size) (0 : UInt8) = List.replicate d.size 0 ++ List.replicate ((K - (j + 1)) * d.size) 0 := by
    rw [List.replicate_append_replicate]
    congr 1
    rw [show K - j = (K - (j + 1)) + 1 by omega, Nat.succ_mul]; omega
  unfold Dk.part spl
  rw [Dk.flat_succ, hz]
  simp only [bys_append]
  rw [List.take_left' (by rw [bys_length, hf]), bys_length, hb, show j * d.size + d.size = (bys (d.flat i j) ++ bys (List.replicate d.size 0)).length by simp [bys_length, hf], ← List.append_assoc (bys (d.flat i j)) (bys (List.replicate d.size 0)), List.drop_left]
theorem Dk.part_same {d : Dk} (ok : d.Ok) {i K j : Nat} (h : i + K ≤ d.fast.length) (hj : j < K) (hz : d.bytesD (i + j) = List.replicate (d.bytesD (i + j)).length 0) : d.part i K (j + 1) = d.part i K j := by
  have hb := Dk.bytesD_len ok (i := i + j) (by omega)
  rw [hb] at hz
  unfold Dk.part
  rw [Dk.flat_succ, hz, List.append_assoc, List.replicate_append_replicate]
  congr 2
  rw [show K - j = (K - (j + 1)) + 1 by omega, Nat.succ_mul]; omega
theorem read08_out (h : DIs w Q t f lm bm d) (i n : Int) (hi1 : -9223372036854775808 ≤ i) (hi2 : i ≤ 9223372036854775807) (hn1 : -9223372036854775808 ≤ n) (hn2 : n ≤ 9223372036854775807) (hno : ¬ d.inR i n) :
    Calls Tryz.prog 40 #[.pointer (some ⟨t, 0, none⟩), .int .i64 i, .int .i64 n] w fun e w' => e = .returned (.tuple #[.slice none 0 0, .int .i64 5]) ∧ w = w' := by
  obtain ⟨cc, b1, _⟩ := h.blk
  have x1 := b1.cell (j := 1) rfl
  have hN := h.ok.n2
  have HM := hide (made08_any h)
  obtain ⟨N, hNe⟩ : ∃ N, d.fast.length = N := ⟨_, rfl⟩
  unfold Dk.inR inN at hno
  rw [hNe] at hN x1 hno
  clear h b1 hNe
  rcases (show i < 0 ∨ (0 ≤ i ∧ n < 0) ∨ (0 ≤ i ∧ 0 ≤ n ∧ (N : Int) < i) ∨ (0 ≤ i ∧ 0 ≤ n ∧ i ≤ (N : Int) ∧ (N : Int) - i < n) by omega) with h1 | ⟨h1, h2⟩ | ⟨h1, h2, h3⟩ | ⟨h1, h2, h3, h4⟩
  · have q1 : decide (i < 0) = true := decide_eq_true h1
    clear hno
    go_enter Tryz.func40, Tryz.ntmps40
    go_wp2_with fail
    go_fit HM.out
    rintro x w1 ⟨rfl, rfl⟩
    go_wp2
    refine bodyPost_ret (results_tmp2 rfl _ _ _) rfl ?_
    exact ⟨rfl, rfl⟩
  · have q1 : decide (i < 0) = false := decide_eq_false (by omega)
    have q2 : decide (n < 0) = true := decide_eq_true h2
    clear hno
    go_enter Tryz.func40, Tryz.ntmps40
    go_wp2_with fail
    go_fit HM.out
    rintro x w1 ⟨rfl, rfl⟩
    go_wp2
    refine bodyPost_ret (results_tmp2 rfl _ _ _) rfl ?_
    exact ⟨rfl, rfl⟩
  · have q1 : decide (i < 0) = false := decide_eq_false (by omega)
    have q2 : decide (n < 0) = false := decide_eq_false (by omega)
    have q3 : decide ((N : Int) < i) = true := decide_eq_true h3
    clear hno
    go_enter Tryz.func40, Tryz.ntmps40
    go_wp2_with fail
    go_fit HM.out
    rintro x w1 ⟨rfl, rfl⟩
    go_wp2
    refine bodyPost_ret (results_tmp2 rfl _ _ _) rfl ?_
    exact ⟨rfl, rfl⟩
  · have q1 : decide (i < 0) = false := decide_eq_false (by omega)
    have q2 : decide (n < 0) = false := decide_eq_false (by omega)
    have q3 : decide ((N : Int) < i) = false := decide_eq_false (by omega)
    have hw : IntKind.i64.wrap ((N : Int) - i) = (N : Int) - i := by rw [IntKind.wrap_i64]; omega
    have q4 : decide ((N : Int) - i < n) = true := decide_eq_true h4
    clear hno
    go_enter Tryz.func40, Tryz.ntmps40
    go_wp2_with fail
    go_fit HM.out
    rintro x w1 ⟨rfl, rfl⟩
    go_wp2
    refine bodyPost_ret (results_tmp2 rfl _ _ _) rfl ?_
    exact ⟨rfl, rfl⟩
theorem read_step {W : World} {o I K p a L : Nat} {A : Option Addr} {n c : Nat} (ok : d.Ok) (hB : Blk W o (bys (d.part I K p)) 5) (hIK : I + K ≤ d.fast.length) (hp : p < K) (hs : SecIs W Q (.slice A n c) (d.bytesD (I + p))) (ha : p * d.size = a) (hL : K * d.size = L) (ty : TypeId) :
    (Builtin.copy_ #[51, 51] ty #[.slice (some ⟨o, a, none⟩) (L - a) (L - a), .slice A n c]).run Tryz.prog W = .ok (goInt (n : Nat)) (W.setRow o (bys (d.part I K (p + 1))).toArray) := by
  have hb := Dk.bytesD_len ok (i := I + p) (by omega)
  have hal : a + d.size ≤ L := by
    rw [← ha, ← hL, ← Nat.succ_mul]; exact Nat.mul_le_mul_right _ hp
  have hpl := Dk.part_len ok hIK (Nat.le_of_lt hp)
  obtain ⟨A', n', c', hv, hnc, hc, hcase⟩ := hs
  injection hv with e1 e2 e3
  subst e1 e2 e3
  rcases hcase with ⟨rfl, rfl, rfl, hz⟩ | ⟨hn, hr, _⟩
  · have := run_copyB (P := Tryz.prog) (w := W) (dT := 51) (sT := 51) (ty := ty) (dLen := L - a) (dCap := L - a) (off := a) (m := 0) (c := 0) (A := none) (ys := []) hB tBytes rfl Rd.nil (fun u hu => by cases hu) (by rw [bys_length, hpl, hL]; omega)
    rw [this, List.take_nil, spl_nil, Dk.part_same ok hIK hp hz, Nat.zero_min]
  · have := run_copyB (P := Tryz.prog) (w := W) (dT := 51) (sT := 51) (ty := ty) (dLen := L - a) (dCap := L - a) (off := a) (m := n) (c := c) (A := A) (ys := bys (d.bytesD (I + p))) hB tBytes (by rw [bys_length, hn]) hr (bys_one _) (by rw [bys_length, hpl, hL]; omega)
    rw [this, List.take_of_length_le (by rw [bys_length]; omega), Dk.part_next ok hIK hp, ha, show min n (L - a) = n by omega]
set_option maxHeartbeats 1600000 in
theorem read08_in (h : DIs w Q t f lm bm d) (I K : Nat) (hIK : I + K ≤ d.fast.length) :
    Calls Tryz.prog 40 #[.pointer (some ⟨t, 0, none⟩), .int .i64 (I : Int), .int .i64 (K : Int)] w fun e w' => ∃ A c, e = .returned (.tuple #[.slice A (d.readB (I : Int) (K : Int)).length c, .int .i64 (d.readE (I : Int) (K : Int))]) ∧ (d.readB (I : Int) (K : Int)).length ≤ c ∧ c ≤ 9223372036854775807 ∧ Rd w' A (bys (d.readB (I : Int) (K : Int))) ∧ (∀ a, A = some a → w.heap.size ≤ a.block) ∧ Below w.heap.size w w' := by
  obtain ⟨cc, b1, _⟩ := h.blk
  have x0 := b1.cell (j := 0) rfl
  have x1 := b1.cell (j := 1) rfl
  have hN := h.ok.n2
  have hs1 := h.ok.s1
  have hs2 := h.ok.s2
  have HM := hide (made08_any h)
  have HU := hide (fun (W : World) (hW : Below w.heap.size w W) (x : Nat) (hx : x < I + K) => unread08_any (h.below hW) (x : Int) (by omega) (by omega))
  have hin : d.inR (I : Int) (K : Int) := ⟨by omega, by omega, by omega, by omega⟩
  have hE1 : ∀ x : Nat, I ≤ x → x < I + K → d.unread (x : Int) = true → d.readE (I : Int) (K : Int) = 81 := fun x hx1 hx2 hu => by
    unfold Dk.readE
    rw [if_pos hin, if_pos]
    rw [List.any_eq_true]
    exact ⟨x - I, by simp; omega, by rw [show (I : Int) + ((x - I : Nat) : Int) = (x : Int) by omega]; exact hu⟩
  have hE0 : (∀ x : Nat, I ≤ x → x < I + K → d.unread (x : Int) = false) → d.readE (I : Int) (K : Int) = 0 := fun hu => by
    unfold Dk.readE
    rw [if_pos hin, if_neg]
    rw [List.any_eq_true]
    rintro ⟨j, hj, hj2⟩
    simp at hj
    have := hu (I + j) (by omega) (by omega)
    rw [show ((I + j : Nat) : Int) = (I : Int) + (j : Int) by omega, hj2] at this
    cases this
  have hE81 : d.readE (I : Int) (K : Int) = 81 → d.readB (I : Int) (K : Int) = [] := fun he => by unfold Dk.readB; rw [he]; rfl
  have hEB : d.readE (I : Int) (K : Int) = 0 → d.readB (I : Int) (K : Int) = d.flat I K := fun he => by unfold Dk.readB; rw [he, if_pos rfl, Int.toNat_natCast, Int.toNat_natCast]
  have H := hide h
  have HE1 := hide hE1
  have HE0 := hide hE0
  have HE81 := hide hE81
  have HEB := hide hEB
  have ok := h.ok
  have hfl := Dk.flat_len ok hIK
  obtain ⟨S, hSe⟩ : ∃ S, d.size = S := ⟨_, rfl⟩
  obtain ⟨N, hNe⟩ : ∃ N, d.fast.length = N := ⟨_, rfl⟩
  have HNe := hide hNe
  have HSe := hide hSe
  have Hok := hide ok
  have Hfl := hide hfl
  rw [hSe] at hs1 hs2 x0
  rw [hNe] at hN hIK x1
  have hKS : K * S ≤ 536870912 := by
    have : K * S ≤ 65536 * 8192 := Nat.mul_le_mul (by omega) hs2
    omega
  have B1 := hide b1
  clear h b1 hin hE1 hE0 hE81 hEB ok hfl hSe hNe
  have q1 : decide ((I : Int) < 0) = false := decide_eq_false (by omega)
  have q2 : decide ((K : Int) < 0) = false := decide_eq_false (by omega)
  have q3 : decide (N < I) = false := decide_eq_false (by omega)
  have hw : IntKind.i64.wrap ((N : Int) - (I : Int)) = (N : Int) - (I : Int) := by rw [IntKind.wrap_i64]; omega
  have q4 : decide ((N : Int) - (I : Int) < (K : Int)) = false := decide_eq_false (by omega)
  obtain ⟨M, hM⟩ : ∃ M, I + K = M := ⟨_, rfl⟩
  have hw2 : IntKind.i64.wrap ((I : Int) + (K : Int)) = (M : Int) := by rw [IntKind.wrap_i64]; omega
  have HMe := hide hM
  go_enter Tryz.func40, Tryz.ntmps40
  go_wp2_with fail
  go_fit HM.out
  rintro x w1 ⟨rfl, rfl⟩
  go_wp2_with fail
  rw [hM] at HU HE1 HE0
  have hMN : I ≤ M ∧ M ≤ N := by omega
  have hMK : M = I + K := hM.symm
  clear hM
  have HMK := hide hMK
  clear hMK
  go_loopw [8] (fun s8 W => ∃ k : Nat, s8 = .int .i64 (k : Int) ∧ I ≤ k ∧ k ≤ M ∧ Below w.heap.size w W ∧ Hid (∀ x : Nat, I ≤ x → x < k → d.unread (x : Int) = false)) (fun s _ => M - (RowKit.intOf s).toNat)
  case atStart => exact ⟨I, rfl, Nat.le_refl _, hMN.1, Below.refl _ _, hide (fun x h1 h2 => by omega)⟩
  case round =>
    obtain ⟨k, rfl, hIk, hkM, hbw, HJ⟩ := hrel
    by_cases hlt : k < M
    · have HUj := hide (HU.out wr hbw k hlt)
      go_wp2_with fail
      refine HUj.out.mono ?_
      cases hu : d.unread (k : Int) with
      | true =>
        have he := HE1.out k hIk hlt hu
        have HE := hide he
        have HB := hide (HE81.out he)
        clear he hu
        rintro x w3 ⟨rfl, hb3⟩
        have hb03 := hbw.trans (hb3.mono hbw.size)
        go_wp2
        refine bodyPost_ret (results_tmp2 rfl _ _ _) rfl ?_
        exact ⟨none, 0, by rw [HE.out, HB.out]; rfl, by rw [HB.out]; exact Nat.le_refl _, by omega, by rw [HB.out]; exact Rd.nil, fun a ha => (by cases ha), hb03⟩
      | false =>
        have Hu := hide hu
        clear hu
        rintro x w3 ⟨rfl, hb3⟩
        have hb03 := hbw.trans (hb3.mono hbw.size)
        go_wp2
        go_roundw
        case rel => exact ⟨k + 1, by go_num, by omega, by omega, hb03, hide (fun x h1 h2 => by
          rcases Nat.lt_or_ge x k with hxk | hxk
          · exact HJ.out x h1 hxk
          · rw [show x = k by omega]; exact Hu.out)⟩
        case measure => simp [RowKit.intOf]; omega
    · have hkM' : k = M := by omega
      subst hkM'
      have he := HE0.out HJ.out
      have HE := hide he
      have HB := hide (HEB.out he)
      have hD := H.out.below hbw
      have x0' := below_cell08 hbw x0
      have hw4 : IntKind.i64.wrap ((K : Int) * (S : Int)) = ((K * S : Nat) : Int) := by rw [Int.natCast_mul, IntKind.wrap_i64]; have : ((K * S : Nat) : Int) = (K : Int) * (S : Int) := Int.natCast_mul K S; omega
      have hm1 := fun W => run_mkB (P := Tryz.prog) (t := 51) (e := 5) (z := .int .u8 0) (bytes := 1) Tryz.underlying51 (by kernel_rfl) rfl (N := K * S) (by omega) (by omega) W
      rw [Int.natCast_mul] at hm1 hw4
      obtain ⟨L, hL⟩ : ∃ L, K * S = L := ⟨_, rfl⟩
      rw [hL] at hm1 hKS
      have HL := hide hL
      obtain ⟨w3, hw3⟩ : ∃ y, wr.alloc (.cells (Array.replicate L (.int .u8 0)) 5) = y := ⟨_, rfl⟩
      obtain ⟨o, ho⟩ : ∃ y, wr.heap.size = y := ⟨_, rfl⟩
      have hb3 : Below wr.heap.size wr w3 := by rw [← hw3]; exact (Below.refl _ _).alloc (Nat.le_refl _) _
      have hB3 : Blk w3 o (bys (d.part I K 0)) 5 := by
        rw [← hw3, ← ho]
        have : bys (d.part I K 0) = List.replicate L (.int .u8 0) := by
          unfold Dk.part Dk.flat
          rw [List.range_zero, List.flatMap_nil, List.nil_append, Nat.sub_zero, HSe.out, hL]
          simp [bys]
        rw [this, show Array.replicate L (Value.int .u8 0) = (List.replicate L (Value.int .u8 0)).toArray by simp]
        exact Blk.new wr _ _
      have Hw3 := hide hw3
      have Ho := hide ho
      clear hw3 hL ho
      have hDis := hide hD
      clear hD he HU HM
      go_wp2_with fail
      rw [Hw3.out, Ho.out]
      have hb03 : Below w.heap.size w w3 := hbw.trans (hb3.mono hbw.size)
      have hD3 := H.out.below hb03
      have hol : w.heap.size ≤ o := by rw [← Ho.out]; exact hbw.size
      have hk3 : ∀ A xs, Rd w A xs → Rd w3 A xs := fun A xs hr => hr.below hb03
      obtain ⟨Qn, hQn⟩ : ∃ Qn : Nat → Prop, Qn = fun b => Q b ∧ b < w.heap.size := ⟨_, rfl⟩
      have hDl : DIs w3 Qn t f lm bm d := by
        have h1 : DIs w Qn t f lm bm d := by
          rw [hQn]; exact H.out.low
        exact h1.below hb03
      have hQo : ∀ b, Qn b → b ≠ o := fun b hb e => by rw [hQn] at hb; omega
      have hlt := H.out.lts
      have HDl := hide hDl
      have HQo := hide hQo
      clear hk3 hQn hDl hQo hD3
      go_loopw [10, 59] (fun _ s59 W => ∃ p : Nat, s59 = .int .i64 (p : Int) ∧ p ≤ K ∧ Blk W o (bys (d.part I K p)) 5 ∧ Fr (fun b => b = o) w3 W) (fun _ s _ => K - (RowKit.intOf s).toNat)
      case atStart => exact ⟨0, rfl, by omega, hB3, Fr.refl _ _⟩
      case round =>
        obtain ⟨p, rfl, hpK, hBp, hFp⟩ := hrel
        by_cases hlp : p < K
        · have hDp : DIs wr Qn t f lm bm d := HDl.out.fr hFp (by omega) (by omega) (by omega) (by omega) HQo.out
          obtain ⟨a, ha⟩ : ∃ a, p * S = a := ⟨_, rfl⟩
          have haL : a + S ≤ L := by
            rw [← ha, ← HL.out, ← Nat.succ_mul]; exact Nat.mul_le_mul_right _ hlp
          have hw5 : IntKind.i64.wrap ((p : Int) * (S : Int)) = (a : Int) := by rw [← Int.natCast_mul, ha, IntKind.wrap_i64]; omega
          have hw6 : IntKind.i64.wrap ((I : Int) + (p : Int)) = ((I + p : Nat) : Int) := by rw [IntKind.wrap_i64]; omega
          have hIp : I + p < d.fast.length := by rw [HNe.out]; omega
          have hIKd : I + K ≤ d.fast.length := by rw [HNe.out]; exact hIK
          obtain ⟨x, hx⟩ : ∃ x, I + p = x := ⟨_, rfl⟩
          have HBY := bytes08_any (w := wr.drew) (hDp.below (Below.refl _ _).drew) (I + p) hIp
          have HST := hide (fun (A : Option Addr) (n c : Nat) (hs : SecIs wr.drew Qn (.slice A n c) (d.bytesD (I + p))) => read_step (W := wr.drew) (I := I) (K := K) (p := p) (a := a) (L := L) Hok.out hBp hIKd hlp hs (by rw [HSe.out]; exact ha) (by rw [HSe.out]; exact HL.out) 3)
          rw [hx] at HBY HST hw6
          have HBY' := hide HBY
          have xx0 : wr.cell? ⟨t, 0, none⟩ = some (.int .i64 (S : Int)) := by
            obtain ⟨c9, b9, _⟩ := hDp.blk
            have := b9.cell (j := 0) rfl
            rwa [HSe.out] at this
          have hB4 := fun (cs' : List Value) => blk_setRow (cs' := cs') (show Blk wr.drew o _ _ from hBp)
          have hF4 := fun (cs' : List Value) => (hFp.drew).trans (fr_setRow wr.drew o cs')
          have HB4 := hide hB4
          have HF4 := hide hF4
          have hcut : cutA (some ⟨o, 0, none⟩) L a 1 = some ⟨o, a, none⟩ := by
            unfold cutA; rw [if_neg (by omega)]
            show some ((⟨o, 0, none⟩ : Addr).add (a * 1)) = _
            rw [Nat.mul_one]; unfold Addr.add; split <;> simp_all
          clear HBY hDp hBp hx hB4 hF4 ha hIp hIKd
          go_wp2_with fail
          go_region_with (first
            | (refine HBY'.out.mono ?_; rintro e w5 ⟨A5, n5, c5, rfl, hsec, rfl⟩; have hcp := HST.out A5 n5 c5 hsec))
          all_goals
            go_wp2
            go_roundw
            case rel => exact ⟨p + 1, by go_num, by omega, HB4.out _, HF4.out _⟩
            case measure => simp [RowKit.intOf]; omega
        · have hpe : p = K := by omega
          subst hpe
          have hpart : d.part I p p = d.flat I p := by unfold Dk.part; rw [Nat.sub_self, Nat.zero_mul]; simp
          rw [hpart] at hBp
          have hL2 : (d.flat I p).length = L := by rw [Hfl.out, HSe.out]; exact HL.out
          have HR := hide (show Rd wr (some ⟨o, 0, none⟩) (bys (d.flat I p)) from Rd.of_some fun j u hu => by
            have := hBp.cell hu
            rwa [show (⟨o, 0, none⟩ : Addr).add j = ⟨o, j, none⟩ by unfold Addr.add; split <;> simp_all])
          have HL2 := hide hL2
          have Hb := hide (hFp.below hb03 hb03.size (fun b hb => by omega))
          clear hpart hBp hL2 hFp
          go_wp2
          refine bodyPost_ret (results_tmp2 rfl _ _ _) rfl ?_
          rw [HB.out, HE.out]
          exact ⟨some ⟨o, 0, none⟩, L, by rw [HL2.out]; rfl, by rw [HL2.out]; exact Nat.le_refl _, by omega, HR.out, fun a ha => by injection ha with ha; rw [← ha]; exact hol, Hb.out⟩
/-- What Read answers, whatever it is asked. -/
theorem read08_any (h : DIs w Q t f lm bm d) (i n : Int) (hi1 : -9223372036854775808 ≤ i) (hi2 : i ≤ 9223372036854775807) (hn1 : -9223372036854775808 ≤ n) (hn2 : n ≤ 9223372036854775807) :
    Calls Tryz.prog 40 #[.pointer (some ⟨t, 0, none⟩), .int .i64 i, .int .i64 n] w fun e w' => ∃ A c, e = .returned (.tuple #[.slice A (d.readB i n).length c, .int .i64 (d.readE i n)]) ∧ (d.readB i n).length ≤ c ∧ c ≤ 9223372036854775807 ∧ Rd w' A (bys (d.readB i n)) ∧ (∀ a, A = some a → w.heap.size ≤ a.block) ∧ Below w.heap.size w w' := by
  by_cases hin : d.inR i n
  · obtain ⟨g1, g2, g3, g4⟩ := hin
    obtain ⟨I, rfl⟩ : ∃ I : Nat, i = (I : Int) := ⟨i.toNat, by omega⟩
    obtain ⟨K, rfl⟩ : ∃ K : Nat, n = (K : Int) := ⟨n.toNat, by omega⟩
    exact read08_in h I K (by omega)
  · refine (read08_out h i n hi1 hi2 hn1 hn2 hin).mono ?_
    rintro e w' ⟨rfl, rfl⟩
    have he : d.readE i n = 5 := if_neg hin
    have hb : d.readB i n = [] := by unfold Dk.readB; rw [he]; rfl
    rw [he, hb]
    exact ⟨none, 0, rfl, Nat.le_refl _, by omega, Rd.nil, fun a ha => (by cases ha), Below.refl _ _⟩
end
end Go.Proofs.YtoaodmidegkolaaGreatDoor
namespace Go.Proofs.YtoaodmidegkolaaGreatDoor
set_option maxRecDepth 20000
open Go.RowKit Go.Px Go.Maps
set_option linter.unusedVariables false
section
variable {w : World} {Q : Nat → Prop} {t f lm bm : Nat} {d : Dk}
/-- The k-th sector's bytes of a row. -/
def secB (S : Nat) (b : List UInt8) (k : Nat) : List UInt8 := (b.drop (k * S)).take S
/-- Sectors laid from I on. -/
def Dk.lay (d : Dk) (I : Nat) (b : List UInt8) : Nat → Dk
  | 0 => d
  | k + 1 => (d.lay I b k).putL ((I + k : Nat) : Int) (some (secB d.size b k))
theorem Dk.lay_same (d : Dk) (I : Nat) (b : List UInt8) : ∀ k, (d.lay I b k).size = d.size ∧ (d.lay I b k).fast = d.fast ∧ (d.lay I b k).bad = d.bad ∧ (d.lay I b k).fuse = d.fuse
  | 0 => ⟨rfl, rfl, rfl, rfl⟩
  | k + 1 => Dk.lay_same d I b k
def Dk.writeE (d : Dk) (i : Int) (b : List UInt8) : Int := if b.length % d.size ≠ 0 then 1 else if d.inR i ((b.length / d.size : Nat) : Int) then d.burnE else 5
def Dk.write (d : Dk) (i : Int) (b : List UInt8) : Dk := if d.writeE i b = 0 then d.burnt.lay i.toNat b (b.length / d.size) else d
theorem Dk.burnt_same (d : Dk) : d.burnt.size = d.size ∧ d.burnt.fast = d.fast ∧ d.burnt.loose = d.loose ∧ d.burnt.bad = d.bad := by
  unfold Dk.burnt; split <;> exact ⟨rfl, rfl, rfl, rfl⟩
set_option maxHeartbeats 1600000 in
theorem write08_bad (h : DIs w Q t f lm bm d) (i : Int) (A : Option Addr) (m c : Nat) (b : List UInt8) (hi1 : -9223372036854775808 ≤ i) (hi2 : i ≤ 9223372036854775807) (hm : b.length = m) (hmc : m ≤ c) (hc : c ≤ 9223372036854775807) (he : d.writeE i b ≠ 0) :
    Calls Tryz.prog 17 #[.pointer (some ⟨t, 0, none⟩), .int .i64 i, .slice A m c] w fun e w' => e = .returned (.int .i64 (d.writeE i b)) ∧ DIs w' Q t f lm bm d ∧ Fr (fun x => x = t) w w' := by
  obtain ⟨cc, b1, _⟩ := h.blk
  have x0 := b1.cell (j := 0) rfl
  have x1 := b1.cell (j := 1) rfl
  have hN := h.ok.n2
  have hs1 := h.ok.s1
  have HM := hide (made08_any h)
  have HBU := hide (burn08_any h)
  have hwe : d.writeE i b = if m % d.size ≠ 0 then 1 else if d.inR i ((m / d.size : Nat) : Int) then d.burnE else 5 := by unfold Dk.writeE; rw [hm]
  have hbe : d.burnE ≠ 0 → d.burnE = 82 ∧ d.burnt = d := fun hb => by
    unfold Dk.burnE at hb
    by_cases h0 : d.fuse = 0
    · exact ⟨by unfold Dk.burnE; rw [if_pos h0], by unfold Dk.burnt; rw [if_neg (by omega)]⟩
    · rw [if_neg h0] at hb; exact absurd rfl hb
  have H := hide h
  have HWE := hide hwe
  unfold Dk.inR at hwe
  obtain ⟨S, hSe⟩ : ∃ S, d.size = S := ⟨_, rfl⟩
  obtain ⟨N, hNe⟩ : ∃ N, d.fast.length = N := ⟨_, rfl⟩
  rw [hNe] at hwe hN x1
  rw [hSe] at hwe hs1 x0
  have hS0 : (S : Int) ≠ 0 := by omega
  have hrem : ((m : Int).tmod (S : Int)) = ((m % S : Nat) : Int) := rfl
  have hquo : ((m : Int).tdiv (S : Int)) = ((m / S : Nat) : Int) := rfl
  have hdm : m / S ≤ m := Nat.div_le_self _ _
  obtain ⟨r, hr⟩ : ∃ r, m % S = r := ⟨_, rfl⟩
  obtain ⟨n, hn⟩ : ∃ n, m / S = n := ⟨_, rfl⟩
  have hwr : IntKind.i64.wrap (n : Int) = (n : Int) := by rw [IntKind.wrap_i64]; omega
  rw [hr] at hwe hrem
  rw [hn] at hwe hquo hdm
  obtain ⟨be, hbee⟩ : ∃ be, d.burnE = be := ⟨_, rfl⟩
  rw [hbee] at hwe hbe HBU
  rw [hwe] at he ⊢
  have Hbe := hide hbe
  clear h b1 hm hSe hNe hr hn hbee hbe hwe
  by_cases h0 : r = 0
  · subst h0
    rw [if_neg (by simp)] at he ⊢
    have hwN : ∀ z : Int, 0 ≤ z → z ≤ (N : Int) → IntKind.i64.wrap ((N : Int) - z) = (N : Int) - z := fun z h1 h2 => by rw [IntKind.wrap_i64]; omega
    rcases (show i < 0 ∨ (0 ≤ i ∧ (N : Int) < i) ∨ (0 ≤ i ∧ i ≤ (N : Int) ∧ (N : Int) - i < (n : Int)) ∨ (0 ≤ i ∧ i ≤ (N : Int) ∧ (n : Int) ≤ (N : Int) - i) by omega) with h1 | ⟨h1, h2⟩ | ⟨h1, h2, h3⟩ | ⟨h1, h2, h3⟩
    · have q1 : decide (i < 0) = true := decide_eq_true h1
      rw [if_neg (fun hh => by unfold inN at hh; omega)]
      clear hwN he
      go_enter Tryz.func17, Tryz.ntmps17
      go_wp2_with fail
      go_fit HM.out
      rintro x w1 ⟨rfl, rfl⟩
      go_wp2
      go_ret
      exact ⟨rfl, H.out, Fr.refl _ _⟩
    · have q1 : decide (i < 0) = false := decide_eq_false (by omega)
      have q2 : decide ((N : Int) < i) = true := decide_eq_true h2
      rw [if_neg (fun hh => by unfold inN at hh; omega)]
      clear hwN he
      go_enter Tryz.func17, Tryz.ntmps17
      go_wp2_with fail
      go_fit HM.out
      rintro x w1 ⟨rfl, rfl⟩
      go_wp2
      go_ret
      exact ⟨rfl, H.out, Fr.refl _ _⟩
    · have q1 : decide (i < 0) = false := decide_eq_false (by omega)
      have q2 : decide ((N : Int) < i) = false := decide_eq_false (by omega)
      have q3 : decide ((N : Int) - i < (n : Int)) = true := decide_eq_true h3
      have hw := hwN i h1 h2
      rw [if_neg (fun hh => by unfold inN at hh; omega)]
      clear hwN he
      go_enter Tryz.func17, Tryz.ntmps17
      go_wp2_with fail
      go_fit HM.out
      rintro x w1 ⟨rfl, rfl⟩
      go_wp2
      go_ret
      exact ⟨rfl, H.out, Fr.refl _ _⟩
    · have q1 : decide (i < 0) = false := decide_eq_false (by omega)
      have q2 : decide ((N : Int) < i) = false := decide_eq_false (by omega)
      have q3 : decide ((N : Int) - i < (n : Int)) = false := decide_eq_false (by omega)
      have hw := hwN i h1 h2
      rw [if_pos (show inN N i (n : Int) from ⟨by omega, by omega, by omega, by omega⟩)] at he ⊢
      obtain ⟨rfl, hbt⟩ := Hbe.out he
      have Hbt := hide hbt
      clear hwN he hbt
      go_enter Tryz.func17, Tryz.ntmps17
      go_wp2_with fail
      go_fit HM.out
      rintro x w1 ⟨rfl, rfl⟩
      go_wp2_with fail
      refine HBU.out.mono ?_
      rintro x w2 ⟨rfl, hD2, hF2, _⟩
      rw [Hbt.out] at hD2
      have HD2 := hide hD2
      clear hD2
      go_wp2
      go_ret
      exact ⟨rfl, HD2.out, hF2⟩
  · rw [if_pos h0]
    have q1 : ((r : Int) != 0) = true := by simp; omega
    clear he
    go_enter Tryz.func17, Tryz.ntmps17
    go_wp2_with fail
    go_fit HM.out
    rintro x w1 ⟨rfl, rfl⟩
    go_wp2
    go_ret
    exact ⟨rfl, H.out, Fr.refl _ _⟩
end
end Go.Proofs.YtoaodmidegkolaaGreatDoor
namespace Go.Proofs.YtoaodmidegkolaaGreatDoor
set_option maxRecDepth 20000
open Go.RowKit Go.Px Go.Maps
set_option linter.unusedVariables false
section
variable {w : World} {Q : Nat → Prop} {t f lm bm : Nat} {d : Dk}
theorem secB_len {S : Nat} {b : List UInt8} {k : Nat} (h : (k + 1) * S ≤ b.length) : (secB S b k).length = S := by
  unfold secB; rw [List.length_take, List.length_drop]; rw [Nat.succ_mul] at h; omega
theorem Dk.writeE_ok {i : Int} {b : List UInt8} (h : d.writeE i b = 0) : b.length % d.size = 0 ∧ d.inR i ((b.length / d.size : Nat) : Int) ∧ d.burnE = 0 := by
  unfold Dk.writeE at h
  by_cases h0 : b.length % d.size ≠ 0
  · rw [if_pos h0] at h; cases h
  · rw [if_neg h0] at h
    by_cases h1 : d.inR i ((b.length / d.size : Nat) : Int)
    · rw [if_pos h1] at h; exact ⟨by omega, h1, h⟩
    · rw [if_neg h1] at h; cases h
set_option maxHeartbeats 1600000 in
theorem write08_ok (h : DIs w Q t f lm bm d) (hQ : ∀ b, w.heap.size ≤ b → Q b) (i : Int) (A : Option Addr) (m c : Nat) (b : List UInt8) (hm : b.length = m) (hmc : m ≤ c) (hc : c ≤ 9223372036854775807) (hrb : Rd w A (bys b)) (hA : bys b ≠ [] → ∀ a, A = some a → ¬ OwnB t f lm bm a.block) (he : d.writeE i b = 0) :
    Calls Tryz.prog 17 #[.pointer (some ⟨t, 0, none⟩), .int .i64 i, .slice A m c] w fun e w' => e = .returned (.int .i64 0) ∧ DIs w' Q t f lm bm (d.write i b) ∧ Fr (OwnB t f lm bm) w w' := by
  obtain ⟨cc, b1, _⟩ := h.blk
  have x0 := b1.cell (j := 0) rfl
  have x1 := b1.cell (j := 1) rfl
  have hN := h.ok.n2
  have hs1 := h.ok.s1
  have hs2 := h.ok.s2
  have HM := hide (made08_any h)
  have hBU := burn08_any h
  obtain ⟨hr0, hin, hbe⟩ := Dk.writeE_ok he
  rw [hbe] at hBU
  have HBU := hide hBU
  have hwr : d.write i b = d.burnt.lay i.toNat b (b.length / d.size) := by unfold Dk.write; rw [if_pos he]
  obtain ⟨hb1, hb2, hb3, hb4⟩ := d.burnt_same
  obtain ⟨g1, g2, g3, g4⟩ := hin
  obtain ⟨I, rfl⟩ : ∃ I : Nat, i = (I : Int) := ⟨i.toNat, by omega⟩
  rw [Int.toNat_natCast] at hwr
  have hlts := h.lts
  have HO := hide h.out
  obtain ⟨d', hd'⟩ : ∃ d', d.burnt = d' := ⟨_, rfl⟩
  rw [hd'] at HBU hwr hb1 hb2
  obtain ⟨n, hn⟩ : ∃ n, m / d.size = n := ⟨_, rfl⟩
  rw [hm] at hr0 g2 g4 hwr
  rw [hn] at g2 g4 hwr
  rw [hwr]
  have hmn : m = n * d.size := by
    have := Nat.div_add_mod m d.size
    rw [hn, hr0, Nat.mul_comm] at this; omega
  obtain ⟨S, hSe⟩ : ∃ S, d.size = S := ⟨_, rfl⟩
  obtain ⟨N, hNe⟩ : ∃ N, d.fast.length = N := ⟨_, rfl⟩
  have hdS : d'.size = S := by rw [hb1, hSe]
  have hdN : d'.fast.length = N := by rw [hb2, hNe]
  rw [hNe] at g3 g4 hN x1
  rw [hSe] at hs1 hs2 x0 hr0 hn hmn
  have hS0 : (S : Int) ≠ 0 := by omega
  have hrem : ((m : Int).tmod (S : Int)) = 0 := by
    show ((m % S : Nat) : Int) = 0
    rw [hr0]; rfl
  have hquo : ((m : Int).tdiv (S : Int)) = (n : Int) := by
    show ((m / S : Nat) : Int) = _
    rw [hn]
  have hIn : I + n ≤ N := by omega
  have hw0 : IntKind.i64.wrap (n : Int) = (n : Int) := by rw [IntKind.wrap_i64]; omega
  have q1 : decide ((I : Int) < 0) = false := decide_eq_false (by omega)
  have q2 : decide (N < I) = false := decide_eq_false (by omega)
  have hw : IntKind.i64.wrap ((N : Int) - (I : Int)) = (N : Int) - (I : Int) := by rw [IntKind.wrap_i64]; omega
  have q3 : decide ((N : Int) - (I : Int) < (n : Int)) = false := decide_eq_false (by omega)
  have HQ := hide hQ
  have Hm := hide hm
  have Hmn := hide hmn
  have HdS := hide hdS
  have HdN := hide hdN
  have hmb : m ≤ 536870912 := by
    rw [hmn]
    have : n * S ≤ 65536 * 8192 := Nat.mul_le_mul (by omega) hs2
    omega
  clear h b1 hm hQ hr0 hn hmn hdS hdN hSe hNe he hBU hwr hb1 hb2 hb3 hb4 hbe hd' g1 g2 g3 g4
  go_enter Tryz.func17, Tryz.ntmps17
  go_wp2_with fail
  go_fit HM.out
  rintro x w1 ⟨rfl, rfl⟩
  go_wp2_with fail
  refine HBU.out.mono ?_
  rintro x w2 ⟨rfl, hD2, hF2, hz2⟩
  have hrb2 : Rd w2 A (bys b) := hrb.fr hF2 (fun hne a ha e => hA hne a ha (.inl e))
  have HCL := hide (clone_any A m c b w2 Hm.out (by omega) hrb2)
  have HD2 := hide hD2
  clear hrb2 hD2
  go_wp2_with fail
  go_fit HCL.out
  rintro x w3 ⟨v, rfl, hO3, hb3⟩
  obtain ⟨A3, c3, rfl, _, hc3, hcm3, hr3, ha3⟩ := own_out hO3
  have hD3 := HD2.out.below hb3
  have hF3 : Fr (OwnB t f lm bm) w w3 := (fr_own hF2 (.inl rfl)).trans (Fr.of_below hb3)
  unfold maxLen at hcm3
  clear HCL hO3
  go_wp2_with fail
  go_loopw [10, 11, 12, 61] (fun _ _ _ s61 W => ∃ p : Nat, s61 = .int .i64 (p : Int) ∧ p ≤ n ∧ DIs W Q t f lm bm (d'.lay I b p) ∧ Fr (OwnB t f lm bm) w W ∧ Rd W A3 (bys b)) (fun _ _ _ s _ => n - (RowKit.intOf s).toNat)
  case atStart => exact ⟨0, rfl, by omega, hD3, hF3, hr3⟩
  case round =>
    obtain ⟨p, rfl, hpn, hDp, hFp, hrp⟩ := hrel
    by_cases hlp : p < n
    · obtain ⟨a, ha⟩ : ∃ a, p * S = a := ⟨_, rfl⟩
      obtain ⟨a2, ha2⟩ : ∃ a2, (p + 1) * S = a2 := ⟨_, rfl⟩
      have haS : a2 = a + S := by rw [← ha, ← ha2, Nat.succ_mul]
      have ham : a2 ≤ m := by rw [← ha2, Hmn.out]; exact Nat.mul_le_mul_right _ hlp
      have hw5 : IntKind.i64.wrap ((p : Int) * (S : Int)) = (a : Int) := by rw [← Int.natCast_mul, ha, IntKind.wrap_i64]; omega
      have hw6 : IntKind.i64.wrap (((p : Int) + 1) * (S : Int)) = (a2 : Int) := by rw [show ((p : Int) + 1) = ((p + 1 : Nat) : Int) by omega, ← Int.natCast_mul, ha2, IntKind.wrap_i64]; omega
      have hw8 : IntKind.i64.wrap ((I : Int) + (p : Int)) = ((I + p : Nat) : Int) := by rw [IntKind.wrap_i64]; omega
      obtain ⟨cp, bp, _⟩ := hDp.blk
      have y0 := bp.cell (j := 0) rfl
      rw [(d'.lay_same I b p).1, HdS.out] at y0
      have haa : a ≤ a2 := by omega
      have hac : a2 ≤ c3 := by omega
      have hsub : a2 - a = S := by omega
      have Hsub := hide hsub
      have HaS := hide haS
      clear bp haS hsub
      go_wp2_with fail
      go_quiet (fail)
      have hbq : Below wr.heap.size wr (wr.drewN nq) := ⟨rfl, rfl, rfl, Nat.le_refl _, fun _ _ => rfl⟩
      obtain ⟨wd, hwd⟩ : ∃ y, wr.drewN nq = y := ⟨_, rfl⟩
      rw [hwd] at hbq ⊢
      have hDd := (hDp.below hbq).below (Below.refl _ _).drew
      have hFd := (hFp.trans (Fr.of_below hbq)).drew
      have hrd := hrp.below hbq
      have hrd' : Rd wd.drew A3 (bys b) := hrd
      have hpl : Rd wd.drew (cutA A3 a2 a 1) (bys (secB S b p)) := by
        have h0 := hrd'.take a2
        have h1 := h0.cutA (n := a2) (k := a) (cap := a2) (by rw [List.length_take]; omega) (by omega) (Nat.le_refl _)
        have h2 := h1.take S
        have e : bys (secB S b p) = (List.drop a (List.take a2 (bys b))).take S := by
          unfold secB
          rw [ha, bys_take, bys_drop, HaS.out, List.drop_take, Nat.add_sub_cancel_left, List.take_take, Nat.min_self]
        rw [e]; exact h2
      have hsl : (secB S b p).length = S := secB_len (by rw [ha2, Hm.out]; exact ham)
      obtain ⟨cq, bq, _⟩ := hDd.blk
      have z2 := bq.cell (j := 2) rfl
      have hkey : ((I + p : Nat) : Int) = (I : Int) + (p : Int) := by omega
      obtain ⟨w5, hput, hD5, hF5⟩ := hDd.put_lo (i := (I : Int) + (p : Int)) (by omega) (by rw [(d'.lay_same I b p).2.1, HdN.out]; omega) (A := cutA A3 a2 a 1) (n := a2 - a) (c := a2 - a) (bs := secB S b p) (by rw [hsl, (d'.lay_same I b p).1, HdS.out]) (by rw [hsl, Hsub.out]) (Nat.le_refl _) (by rw [Hsub.out]; omega) hpl (fun x hx => by
        have : w.heap.size ≤ x.block := by
          unfold cutA at hx
          split at hx
          · have := ha3 x hx; omega
          · rw [Option.map_eq_some_iff] at hx
            obtain ⟨y, hy, rfl⟩ := hx
            rw [add_block]
            have := ha3 y hy; omega
        exact HQ.out _ this)
      have hD5' : DIs w5 Q t f lm bm (d'.lay I b (p + 1)) := by
        show DIs w5 Q t f lm bm ((d'.lay I b p).putL ((I + p : Nat) : Int) (some (secB d'.size b p)))
        rw [hkey, HdS.out]; exact hD5
      have HD5 := hide hD5'
      have HF5 := hide (hFd.trans (fr_own hF5 (.inr (.inr (.inl rfl)))))
      have Hr5 := hide (hrd'.fr hF5 (fun _ x hx e => by have := ha3 x hx; omega))
      clear hD5 hD5' hF5 bq hDd hFd hrd hrd' hpl hDp hFp hrp y0 hwd hbq hkey hw8 ha ha2
      go_wp2_with fail
      go_region
      go_wp2
      go_roundw
      case rel => exact ⟨p + 1, by go_num, by omega, HD5.out, HF5.out, Hr5.out⟩
      case measure => simp [RowKit.intOf]; omega
    · have hpe : p = n := by omega
      subst hpe
      have HD := hide hDp
      have HF := hide hFp
      clear hDp hFp hrp
      go_wp2
      go_ret
      exact ⟨rfl, HD.out, HF.out⟩
end
end Go.Proofs.YtoaodmidegkolaaGreatDoor
namespace Go.Proofs.YtoaodmidegkolaaGreatDoor
set_option maxRecDepth 20000
open Go.RowKit Go.Px Go.Maps
set_option linter.unusedVariables false
section
variable {w : World} {Q : Nat → Prop} {t f lm bm : Nat} {d : Dk}
/-- The sectors that are loose, rising. -/
def Dk.looseL (d : Dk) : List Int := ((List.range d.fast.length).map Int.ofNat).filter fun i => (d.loose i).isSome
theorem Dk.mem_looseL (ok : d.Ok) {x : Int} : x ∈ d.looseL ↔ (d.loose x).isSome = true := by
  unfold Dk.looseL
  rw [List.mem_filter, List.mem_map]
  constructor
  · exact fun h => h.2
  · intro h
    refine ⟨?_, h⟩
    obtain ⟨b, hb⟩ := Option.isSome_iff_exists.1 h
    have := ok.lo x b hb
    exact ⟨x.toNat, by rw [List.mem_range]; omega, by show ((x.toNat : Nat) : Int) = x; omega⟩
theorem asc_range : ∀ n : Nat, Asc ((List.range n).map Int.ofNat)
  | 0 => List.Pairwise.nil
  | n + 1 => by
    rw [List.range_succ, List.map_append]
    unfold Asc
    rw [List.pairwise_append]
    refine ⟨asc_range n, by simp, fun x hx y hy => ?_⟩
    obtain ⟨k, hk, rfl⟩ := List.mem_map.1 hx
    rw [List.mem_range] at hk
    simp at hy
    subst hy
    show ((k : Nat) : Int) < ((n : Nat) : Int)
    omega
theorem Dk.looseL_asc (d : Dk) : Asc d.looseL := (asc_range _).filter _
theorem Dk.looseL_len (d : Dk) : d.looseL.length ≤ d.fast.length := by
  unfold Dk.looseL
  refine Nat.le_trans (List.length_filter_le _ _) ?_
  simp
theorem sort_asc {l : List Int} (h : l.Nodup) : Asc (l.mergeSort fun x y => decide (x ≤ y)) := by
  have hp : (l.mergeSort fun x y => decide (x ≤ y)).Perm l := List.mergeSort_perm _ _
  have h1 := List.pairwise_mergeSort (le := fun x y : Int => decide (x ≤ y)) (by intro a b c; simp; omega) (by intro a b; simp; omega) l
  have h2 : (l.mergeSort fun x y => decide (x ≤ y)).Nodup := hp.nodup_iff.2 h
  refine (h1.and h2).imp ?_
  rintro a b ⟨h3, h4⟩
  have : a ≤ b := by simpa using h3
  omega
theorem loose08_any (h : DIs w Q t f lm bm d) : Calls Tryz.prog 20 #[.pointer (some ⟨t, 0, none⟩)] w fun e w' => ∃ A c, e = .returned (.slice A d.looseL.length c) ∧ d.looseL.length ≤ c ∧ c ≤ 9223372036854775807 ∧ Rd w' A (ints d.looseL) ∧ (∀ a, A = some a → w.heap.size ≤ a.block) ∧ Below w.heap.size w w' := by
  obtain ⟨cc, b1, _⟩ := h.blk
  have x2 := b1.cell (j := 2) rfl
  obtain ⟨D, l1, l2⟩ := h.lo
  have hsz := h.lo_size l1 l2
  have hlen := l1.len Tryz.underlying45 3
  obtain ⟨k1, k2, k3⟩ := keys08 l1
  have hkm : ∀ x, x ∈ intKeys D ↔ x ∈ d.looseL := fun x => by
    rw [k2 x, Dk.mem_looseL h.ok]
    have := l2 x
    cases hl : d.loose x with
    | none => rw [hl] at this; rw [show Maps.has D (.int .i64 x) = false from this]; simp
    | some bs => rw [hl] at this; rw [this.1]; simp
  have HM := hide (made08_any h)
  have HSK := hide (Tryz.sorted_Keys08 lm _ D rdS w l1 (by unfold maxLen; omega) (by omega))
  have HMK := hide (Tryz.maps_Keys08 (some lm) w)
  have hba : Below w.heap.size w (w.alloc (.cells #[.map (some lm)] 45)) := (Below.refl _ _).alloc (Nat.le_refl _) _
  have hea : (w.alloc (.cells #[.map (some lm)] 45)).heap.size = w.heap.size + 1 := World.size_alloc _ _
  obtain ⟨L, hL⟩ : ∃ L, d.looseL = L := ⟨_, rfl⟩
  have hasc := Dk.looseL_asc d
  rw [hL] at hkm hasc ⊢
  by_cases h0 : Maps.size D = 0
  · rw [h0] at hlen k3
    have hn : L = [] := by
      refine List.eq_nil_iff_forall_not_mem.2 fun x hx => ?_
      have := (hkm x).2 hx
      rw [List.eq_nil_of_length_eq_zero k3] at this
      cases this
    subst hn
    clear h b1 l1 l2 hL hasc hkm
    go_enter Tryz.func20, Tryz.ntmps20
    go_wp2_with fail
    go_fit HM.out
    rintro x w1 ⟨rfl, rfl⟩
    go_wp2
    go_ret
    exact ⟨none, 0, rfl, Nat.le_refl _, by omega, Rd.nil, fun a ha => (by cases ha), Below.refl _ _⟩
  · obtain ⟨Z, hZ⟩ : ∃ Z, Maps.size D = Z := ⟨_, rfl⟩
    rw [hZ] at hlen h0
    have q0 : ((Z : Int) == 0) = false := by simp; omega
    have Hkm := hide hkm
    have Hk1 := hide k1
    have Hasc := hide hasc
    clear h b1 l1 l2 hL hasc hkm k1 k2 hZ
    go_enter Tryz.func20, Tryz.ntmps20
    go_wp2_with fail
    go_fit HM.out
    rintro x w1 ⟨rfl, rfl⟩
    go_wp2_with fail
    refine HMK.out.mono ?_
    rintro x w1 ⟨rfl, rfl⟩
    go_wp2_with fail
    refine HSK.out.mono ?_
    rintro x w2 ⟨v, ss, rfl, hp, hO, _, hb2⟩
    have hss : (ss.mergeSort fun x y => decide (x ≤ y)) = L := by
      refine asc_ext (sort_asc (hp.nodup_iff.2 Hk1.out)) Hasc.out (fun x => ?_)
      rw [(List.mergeSort_perm ss _).mem_iff, hp.mem_iff, Hkm.out]
    rw [hss] at hO
    have hlen2 : ss.length = L.length := by rw [← hss, List.length_mergeSort]
    rw [hlen2] at hO
    obtain ⟨A, c, rfl, _, hc, hcm, hr, ha⟩ := own_out hO
    have HR := hide hr
    have Hb := hide (hba.trans (hb2.mono hba.size))
    unfold maxLen at hcm
    clear hO hr hss hlen2 hb2
    go_wp2
    go_ret
    exact ⟨A, c, rfl, hc, by omega, HR.out, fun a h => by have := (ha a h).1; omega, Hb.out⟩
end
end Go.Proofs.YtoaodmidegkolaaGreatDoor
namespace Go.Proofs.YtoaodmidegkolaaGreatDoor
set_option maxRecDepth 20000
open Go.RowKit Go.Px Go.Maps
set_option linter.unusedVariables false
section
variable {w : World} {Q : Nat → Prop} {t f lm bm : Nat} {d : Dk}
/-- What is loose, read for itself. -/
theorem DIs.look_some (h : DIs w Q t f lm bm d) {i : Int} {bs : List UInt8} (hl : d.loose i = some bs) :
    ∃ A n c, (Instr.lookup 45 (.map (some lm)) (.int .i64 i) false).run Tryz.prog w = .ok (.slice A n c) w ∧ bs.length = n ∧ n ≤ c ∧ c ≤ 9223372036854775807 ∧ Rd w A (bys bs) ∧ ∀ a, A = some a → Q a.block := by
  obtain ⟨D, l1, l2⟩ := h.lo
  have ha := l2 i
  have hi := h.ok.lo i bs hl
  have hN := h.ok.n2
  obtain ⟨v, ps, hr, hv⟩ := l1.lookup keyed08 Tryz.underlying45 (zero_bytes08 w) (zd := .held (.slice none 0 0)) (zp := []) rfl (key08 (c := i) (by omega) (by omega))
  rw [hl] at ha
  obtain ⟨h0, A, n, c, ha1, hrest⟩ := ha
  rw [ha1] at hv
  injection hv with hv
  injection hv with hv _
  injection hv with hv
  rw [hv] at hr
  exact ⟨A, n, c, hr, hrest⟩
/-- Each of some sectors made fast. -/
def Dk.fastAll (d : Dk) (l : List Int) : Dk := l.foldl (fun d i => d.fasten i.toNat ((d.loose i).getD [])) d
theorem Dk.fastAll_succ {d : Dk} {l : List Int} {k : Nat} (hk : k < l.length) : d.fastAll (l.take (k + 1)) = (d.fastAll (l.take k)).fasten (l[k]).toNat (((d.fastAll (l.take k)).loose l[k]).getD []) := by
  unfold Dk.fastAll
  rw [List.take_succ_eq_append_getElem hk, List.foldl_append]; rfl
theorem Dk.fasten_same (d : Dk) (i : Nat) (b : List UInt8) : (d.fasten i b).size = d.size ∧ (d.fasten i b).fast.length = d.fast.length ∧ (d.fasten i b).fuse = d.fuse := ⟨rfl, by show (d.fast.set i b).length = _; rw [List.length_set], rfl⟩
theorem Dk.fastAll_same (l : List Int) : ∀ d : Dk, (d.fastAll l).size = d.size ∧ (d.fastAll l).fast.length = d.fast.length ∧ (d.fastAll l).fuse = d.fuse := by
  induction l with
  | nil => exact fun d => ⟨rfl, rfl, rfl⟩
  | cons x l ih =>
    intro d
    have h1 := ih (d.fasten x.toNat ((d.loose x).getD []))
    have h2 := d.fasten_same x.toNat ((d.loose x).getD [])
    exact ⟨h1.1.trans h2.1, h1.2.1.trans h2.2.1, h1.2.2.trans h2.2.2⟩
theorem Dk.fasten_loose (d : Dk) (i : Nat) (b : List UInt8) (x : Int) : (d.fasten i b).loose x = if x = (i : Int) then none else d.loose x := rfl
theorem Dk.fasten_bad (d : Dk) (i : Nat) (b : List UInt8) (x : Int) : (d.fasten i b).bad x = if x = (i : Int) then false else d.bad x := rfl
theorem Dk.fastAll_loose (l : List Int) : ∀ d : Dk, (∀ y ∈ l, 0 ≤ y) → ∀ x, (d.fastAll l).loose x = if x ∈ l then none else d.loose x := by
  induction l with
  | nil => intro d _ x; rfl
  | cons y l ih =>
    intro d h0 x
    have hy : ((y.toNat : Nat) : Int) = y := by have := h0 y (List.mem_cons_self ..); omega
    have h1 := ih (d.fasten y.toNat ((d.loose y).getD [])) (fun z hz => h0 z (List.mem_cons_of_mem _ hz)) x
    show (Dk.fastAll (d.fasten y.toNat ((d.loose y).getD [])) l).loose x = _
    rw [h1, Dk.fasten_loose, hy]
    by_cases hx : x ∈ l
    · rw [if_pos hx, if_pos (List.mem_cons_of_mem _ hx)]
    · rw [if_neg hx]
      by_cases hxy : x = y
      · rw [if_pos hxy, if_pos (by rw [hxy]; exact List.mem_cons_self ..)]
      · rw [if_neg hxy, if_neg (fun h => by rcases List.mem_cons.1 h with h | h; exact hxy h; exact hx h)]
theorem Dk.looseL_get {d : Dk} (ok : d.Ok) {k : Nat} (hk : k < d.looseL.length) : ∃ bs, d.loose d.looseL[k] = some bs ∧ 0 ≤ d.looseL[k] ∧ d.looseL[k] < d.fast.length ∧ bs.length = d.size ∧ d.looseL[k] ∉ d.looseL.take k := by
  obtain ⟨bs, hb⟩ := Option.isSome_iff_exists.1 ((Dk.mem_looseL ok).1 (List.getElem_mem hk))
  obtain ⟨o1, o2, o3⟩ := ok.lo _ bs hb
  refine ⟨bs, hb, o1, o2, o3, fun hm => ?_⟩
  obtain ⟨j, hj, he⟩ := List.getElem_of_mem hm
  rw [List.length_take] at hj
  rw [List.getElem_take] at he
  have := List.pairwise_iff_getElem.1 d.looseL_asc j k (by omega) hk (by omega)
  omega
def Dk.barrier (d : Dk) : Dk := if d.burnE = 0 then d.burnt.fastAll d.burnt.looseL else d
theorem Dk.burnE_two (d : Dk) : (d.burnE = 0 ∧ d.fuse ≠ 0) ∨ (d.burnE = 82 ∧ d.fuse = 0 ∧ d.burnt = d) := by
  unfold Dk.burnE Dk.burnt
  by_cases h : d.fuse = 0
  · right; rw [if_pos h, if_neg (by omega)]; exact ⟨rfl, h, rfl⟩
  · left; rw [if_neg h]; exact ⟨rfl, h⟩
set_option maxHeartbeats 1600000 in
theorem barrier08_any (h : DIs w Q t f lm bm d) : Calls Tryz.prog 8 #[.pointer (some ⟨t, 0, none⟩)] w fun e w' => e = .returned (.int .i64 d.burnE) ∧ DIs w' Q t f lm bm d.barrier ∧ Fr (OwnB t f lm bm) w w' := by
  have HM := hide (made08_any h)
  have hBU := burn08_any h
  have hlts := h.lts
  rcases d.burnE_two with ⟨h1, h2⟩ | ⟨h1, h2, h3⟩
  · have hba : d.barrier = d.burnt.fastAll d.burnt.looseL := if_pos h1
    rw [h1] at hBU ⊢
    rw [hba]
    obtain ⟨d', hd'⟩ : ∃ d', d.burnt = d' := ⟨_, rfl⟩
    rw [hd'] at hBU ⊢
    obtain ⟨L, hL⟩ : ∃ L, d'.looseL = L := ⟨_, rfl⟩
    rw [hL]
    have HL := hide hL
    have HBU := hide hBU
    clear hL
    clear h hBU h1 h2 hba hd'
    go_enter Tryz.func8, Tryz.ntmps8
    go_wp2_with fail
    go_fit HM.out
    rintro x w1 ⟨rfl, rfl⟩
    go_wp2_with fail
    refine HBU.out.mono ?_
    rintro x w2 ⟨rfl, hD2, hF2, hz2⟩
    have HLO := hide (loose08_any hD2)
    have ok := hD2.ok
    have HD2 := hide hD2
    clear hD2
    go_wp2_with fail
    refine HLO.out.mono ?_
    rintro x w3 ⟨A, c, rfl, hLc, hc, hr3, hA3, hb3⟩
    have hD3 := HD2.out.below hb3
    have hF3 : Fr (OwnB t f lm bm) w w3 := (fr_own hF2 (.inl rfl)).trans (Fr.of_below hb3)
    have hN := ok.n2
    have hll := d'.looseL_len
    have hL := HL.out
    rw [hL] at hLc hr3 hll ⊢
    have hget : ∀ (k : Nat) (hk : k < L.length), ∃ bs, d'.loose L[k] = some bs ∧ 0 ≤ L[k] ∧ L[k] < d'.fast.length ∧ bs.length = d'.size ∧ L[k] ∉ L.take k := by subst hL; exact fun k hk => Dk.looseL_get ok hk
    have h0L : ∀ y ∈ L, 0 ≤ y := fun y hy => by
      rw [← hL] at hy
      obtain ⟨b, hb⟩ := Option.isSome_iff_exists.1 ((Dk.mem_looseL ok).1 hy)
      exact (ok.lo _ b hb).1
    obtain ⟨m, hm⟩ : ∃ m, L.length = m := ⟨_, rfl⟩
    rw [hm] at hLc hll ⊢
    have Hget := hide hget
    have H0L := hide h0L
    have Hm := hide hm
    have hnA : ∀ a, A = some a → ¬ OwnB t f lm bm a.block := fun a ha hx => by
      have := hA3 a ha
      rcases hx with h | h | h | h <;> omega
    have HnA := hide hnA
    clear hL hget h0L hm hnA HLO HBU
    go_wp2_with fail
    go_loopw [5, 17] (fun _ s W => ∃ k : Nat, s = .int .i64 (k : Int) ∧ k ≤ m ∧ DIs W Q t f lm bm (d'.fastAll (L.take k)) ∧ Fr (OwnB t f lm bm) w W ∧ Rd W A (ints L)) (fun _ s _ => m - (RowKit.intOf s).toNat)
    case atStart => exact ⟨0, rfl, by omega, by rw [List.take_zero]; exact hD3, hF3, hr3⟩
    case round =>
      obtain ⟨k, rfl, hkm, hDk, hFk, hrk⟩ := hrel
      by_cases hlt : k < m
      · have hkl : k < L.length := by rw [Hm.out]; exact hlt
        obtain ⟨a, ha, hca⟩ := hrk k _ (ints_get hkl)
        obtain ⟨bs, g1, g2, g3, g4, g5⟩ := Hget.out k hkl
        have hlk : (d'.fastAll (L.take k)).loose L[k] = some bs := by
          rw [Dk.fastAll_loose _ _ (fun y hy => H0L.out y (List.mem_of_mem_take hy)), if_neg g5]; exact g1
        obtain ⟨A6, n6, c6, hlook, e1, e2, e3, e4, e5⟩ := hDk.look_some hlk
        have hsame := Dk.fastAll_same (L.take k) d'
        have hnext := Dk.fastAll_succ (d := d') hkl
        rw [hlk] at hnext
        obtain ⟨i, hi⟩ : ∃ i : Nat, L[k] = (i : Int) := ⟨(L[k]).toNat, by omega⟩
        rw [hi] at hca hlook g3 hnext
        rw [Int.toNat_natCast] at hnext
        have HFA := hide (fasten08_any hDk i A6 n6 c6 bs (by rw [hsame.2.1]; omega) (by rw [hsame.1]; exact g4) ⟨A6, n6, c6, rfl, e2, e3, .inr ⟨e1, e4, e5⟩⟩)
        have Hnext := hide (show d'.fastAll (L.take (k + 1)) = (d'.fastAll (L.take k)).fasten i bs from hnext)
        obtain ⟨cb, bb, _⟩ := hDk.blk
        have y2 := bb.cell (j := 2) rfl
        subst ha
        have HFk := hide hFk
        have Hrk := hide hrk
        clear bb hnext hsame g1 g2 g3 g4 g5 hlk hi e1 e2 e3 e4 e5 hDk hFk hrk
        go_wp2_with fail
        refine HFA.out.mono ?_
        rintro x w6 ⟨rfl, hD6, hF6⟩
        rw [← Hnext.out] at hD6
        have HD6 := hide hD6
        have HF6 := hide (HFk.out.trans hF6)
        have Hr6 := hide (Hrk.out.fr hF6 (fun _ x hx => HnA.out x hx))
        clear hD6 hF6
        go_wp2
        go_roundw
        case rel => exact ⟨k + 1, by go_num, by omega, HD6.out, HF6.out, Hr6.out⟩
        case measure => simp [RowKit.intOf]; omega
      · have hke : L.take k = L := List.take_of_length_le (by rw [Hm.out]; omega)
        rw [hke] at hDk
        have HD := hide hDk
        have HF := hide hFk
        clear hke hDk hFk hrk
        go_wp2
        go_ret
        exact ⟨rfl, HD.out, HF.out⟩
  · have hba : d.barrier = d := if_neg (by rw [h1]; decide)
    rw [h1, h3] at hBU
    rw [h1, hba]
    have HBU := hide hBU
    clear h hBU h1 h2 h3 hba
    go_enter Tryz.func8, Tryz.ntmps8
    go_wp2_with fail
    go_fit HM.out
    rintro x w1 ⟨rfl, rfl⟩
    go_wp2_with fail
    refine HBU.out.mono ?_
    rintro x w2 ⟨rfl, hD2, hF2, hz2⟩
    have HD2 := hide hD2
    have HF2 := hide (fr_own (f := f) (lm := lm) (bm := bm) hF2 (.inl rfl))
    clear hD2 hF2
    go_wp2
    go_ret
    exact ⟨rfl, HD2.out, HF2.out⟩
end
end Go.Proofs.YtoaodmidegkolaaGreatDoor
namespace Go.Proofs.YtoaodmidegkolaaGreatDoor
set_option maxRecDepth 20000
open Go.RowKit Go.Px Go.Maps
set_option linter.unusedVariables false
section
variable {w : World} {Q : Nat → Prop} {t f lm bm : Nat} {d : Dk}
theorem copy_to {W : World} {o a m c dLen dCap : Nat} {A : Option Addr} {cs ys : List Value} (hB : Blk W o cs 5) (hys : ys.length = m) (hr : Rd W A ys) (h1 : ∀ u ∈ ys, u.oneCell' = true) (hd : m ≤ dLen) (hfit : a + m ≤ cs.length) (ty : TypeId) :
    ∃ W', (Builtin.copy_ #[51, 51] ty #[.slice (some ⟨o, a, none⟩) dLen dCap, .slice A m c]).run Tryz.prog W = .ok (goInt (m : Nat)) W' ∧ Blk W' o (spl cs a ys) 5 ∧ Fr (fun x => x = o) W W' := by
  have := run_copyB (P := Tryz.prog) (w := W) (dT := 51) (sT := 51) (ty := ty) (dLen := dLen) (dCap := dCap) (off := a) (m := m) (c := c) (A := A) (ys := ys) hB tBytes hys hr h1 (by omega)
  rw [Nat.min_eq_left hd, List.take_of_length_le (by omega)] at this
  exact ⟨_, this, blk_setRow hB, fr_setRow _ _ _⟩
theorem copy_sec {W : World} {o S n c : Nat} {A : Option Addr} {bs : List UInt8} (hB : Blk W o (bys (List.replicate S 0)) 5) (hs : SecIs W Q (.slice A n c) bs) (hl : bs.length = S) (ty : TypeId) :
    ∃ W', (Builtin.copy_ #[51, 51] ty #[.slice (some ⟨o, 0, none⟩) S S, .slice A n c]).run Tryz.prog W = .ok (goInt (n : Nat)) W' ∧ Blk W' o (bys bs) 5 ∧ Fr (fun x => x = o) W W' := by
  obtain ⟨A', n', c', hv, hnc, hc, hcase⟩ := hs
  injection hv with e1 e2 e3
  subst e1 e2 e3
  rcases hcase with ⟨rfl, rfl, rfl, hz⟩ | ⟨hn, hr, _⟩
  · obtain ⟨W', h1, h2, h3⟩ := copy_to (a := 0) (m := 0) (c := 0) (dLen := S) (dCap := S) (A := none) (ys := []) hB rfl Rd.nil (fun u hu => by cases hu) (Nat.zero_le _) (by simp) ty
    rw [spl_nil] at h2
    rw [hl] at hz
    exact ⟨W', h1, by rw [hz]; exact h2, h3⟩
  · obtain ⟨W', h1, h2, h3⟩ := copy_to (a := 0) (m := n) (c := c) (dLen := S) (dCap := S) (A := A) (ys := bys bs) hB (by rw [bys_length, hn]) hr (bys_one _) (by omega) (by rw [bys_length, List.length_replicate]; omega) ty
    refine ⟨W', h1, ?_, h3⟩
    have e : spl (bys (List.replicate S 0)) 0 (bys bs) = bys bs := by
      unfold spl
      rw [List.take_zero, List.nil_append, Nat.zero_add, List.drop_of_length_le (by rw [bys_length, bys_length, List.length_replicate]; omega), List.append_nil]
    rw [e] at h2; exact h2
theorem zeros_blk (W : World) (S : Nat) : Blk (W.alloc (.cells (Array.replicate S (.int .u8 0)) 5)) W.heap.size (bys (List.replicate S 0)) 5 := by
  rw [show bys (List.replicate S 0) = List.replicate S (.int .u8 0) by simp [bys], show Array.replicate S (Value.int .u8 0) = (List.replicate S (Value.int .u8 0)).toArray by simp]
  exact Blk.new W _ _
/-- A beginning of what is loose, with the rest of what is fast. -/
def tornB (S : Nat) (new old : List UInt8) (cut : Int) : List UInt8 := new.take (min (max cut 0) S).toNat ++ old.drop (min (max cut 0) S).toNat
theorem tornB_len {S : Nat} {new old : List UInt8} (h1 : new.length = S) (h2 : old.length = S) (cut : Int) : (tornB S new old cut).length = S := by
  unfold tornB; rw [List.length_append, List.length_take, List.length_drop]; omega
set_option maxHeartbeats 1600000 in
theorem torn08_any (h : DIs w Q t f lm bm d) (i : Nat) (hi : i < d.fast.length) (bs : List UInt8) (hl : d.loose (i : Int) = some bs) (cut : Int) (hc1 : -9223372036854775808 ≤ cut) (hc2 : cut ≤ 9223372036854775807) :
    Calls Tryz.prog 26 #[.pointer (some ⟨t, 0, none⟩), .int .i64 (i : Int), .int .i64 cut] w fun e w' => e = .returned (.slice (some ⟨w.heap.size, 0, none⟩) d.size d.size) ∧ Rd w' (some ⟨w.heap.size, 0, none⟩) (bys (tornB d.size bs d.fast[i] cut)) ∧ w.heap.size < w'.heap.size ∧ Below w.heap.size w w' := by
  have hs1 := h.ok.s1
  have hs2 := h.ok.s2
  have hN := h.ok.n2
  have hbl := (h.ok.lo _ _ hl).2.2
  have hfl := h.ok.fl _ (List.getElem_mem hi)
  have hba : Below w.heap.size w (w.alloc (.cells (Array.replicate d.size (.int .u8 0)) 5)) := (Below.refl _ _).alloc (Nat.le_refl _) _
  have h1 := h.below hba
  obtain ⟨v, hv, hsec⟩ := h1.sec hi
  have hsec0 := hsec
  obtain ⟨A, n, c, rfl, _⟩ := hsec
  obtain ⟨w2, hcp1, hB2, hF2⟩ := copy_sec (zeros_blk w d.size) hsec0 hfl 3
  have hlts := h.lts
  have hne : ∀ x, OwnB t f lm bm x → ¬ x = w.heap.size := fun x hx e => by rcases hx with h | h | h | h <;> omega
  have hb2 : Below w.heap.size w w2 := hF2.below hba (by simp) (fun k hk => by omega)
  have h2 := h.below hb2
  obtain ⟨A2, n2, c2, hlook, e1, e2, e3, e4, e5⟩ := h2.look_some hl
  obtain ⟨cc, b1, _⟩ := h.blk
  have x0 := b1.cell (j := 0) rfl
  have y1 := (b1.below hba).cell (j := 1) rfl
  have z2 := (b1.below hb2).cell (j := 2) rfl
  have hm1 := fun W => run_mkB (P := Tryz.prog) (t := 51) (e := 5) (z := .int .u8 0) (bytes := 1) Tryz.underlying51 (by kernel_rfl) rfl (N := d.size) (by omega) (by omega) W
  have htb : ∀ C : Nat, (min (max cut 0) (d.size : Int)).toNat = C → tornB d.size bs d.fast[i] cut = bs.take C ++ d.fast[i].drop C := fun C hC => by unfold tornB; rw [hC]
  obtain ⟨fi, hfi⟩ : ∃ fi, d.fast[i] = fi := ⟨_, rfl⟩
  rw [hfi] at hfl hB2 htb ⊢
  obtain ⟨S, hS⟩ : ∃ S, d.size = S := ⟨_, rfl⟩
  rw [hS] at hs1 hs2 hbl hfl hba hcp1 hm1 htb x0 y1 ⊢
  rw [hS] at hF2 hv
  obtain ⟨N, hNe⟩ : ∃ N, d.fast.length = N := ⟨_, rfl⟩
  rw [hNe] at y1 hi hN
  have hcopy : ∀ C : Nat, C ≤ S → ∃ w3, (Builtin.copy_ #[51, 51] 3 #[.slice (some ⟨w.heap.size, 0, none⟩) S S, .slice A2 C c2]).run Tryz.prog w2 = .ok (goInt (C : Nat)) w3 ∧ Rd w3 (some ⟨w.heap.size, 0, none⟩) (bys (bs.take C ++ fi.drop C)) ∧ w.heap.size < w3.heap.size ∧ Below w.heap.size w w3 := fun C hC => by
    obtain ⟨w3, k1, k2, k3⟩ := copy_to (a := 0) (m := C) (c := c2) (dLen := S) (dCap := S) (A := A2) (ys := bys (bs.take C)) hB2 (by rw [bys_length, List.length_take]; omega) (by rw [bys_take]; exact e4.take C) (bys_one _) hC (by rw [bys_length]; omega) 3
    have e : spl (bys fi) 0 (bys (bs.take C)) = bys (bs.take C ++ fi.drop C) := by
      unfold spl
      rw [List.take_zero, List.nil_append, Nat.zero_add, bys_append, bys_length, List.length_take, Nat.min_eq_left (by omega), bys_drop]
    rw [e] at k2
    refine ⟨w3, k1, Rd.of_some fun j u hu => ?_, by have := k3.size; have := k2.lt; omega, k3.below hb2 hb2.size (fun k hk => by omega)⟩
    have := k2.cell hu
    rwa [show (⟨w.heap.size, 0, none⟩ : Addr).add j = ⟨w.heap.size, j, none⟩ by unfold Addr.add; split <;> simp_all]
  have hls : n2 = S := by omega
  subst hls
  clear h h1 h2 b1 hsec0 hF2 hB2 hne hl hbl hfi hS hNe e4 e5 hb2 hlts
  have hCn : (min (max cut 0) (n2 : Int)).toNat ≤ n2 := by omega
  have hCc : (min (max cut 0) (n2 : Int)).toNat ≤ c2 := by omega
  obtain ⟨w3, k1, k2, k3, k4⟩ := hcopy _ hCn
  rw [htb _ rfl]
  have HR := hide (And.intro k2 (And.intro k3 k4))
  clear htb hcopy k2 k3 k4
  go_enter Tryz.func26, Tryz.ntmps26
  go_wp2
  go_ret
  exact ⟨rfl, HR.out⟩
end
end Go.Proofs.YtoaodmidegkolaaGreatDoor
namespace Go.Proofs.YtoaodmidegkolaaGreatDoor
set_option maxRecDepth 20000
open Go.RowKit Go.Px Go.Maps
set_option linter.unusedVariables false
section
variable {w : World} {Q : Nat → Prop} {t f lm bm : Nat} {d : Dk}
def inI (N : Nat) (i : Int) : Prop := 0 ≤ i ∧ i < (N : Int)
instance (N : Nat) (i : Int) : Decidable (inI N i) := by unfold inI; exact inferInstance
def Dk.badE (d : Dk) (i : Int) : Int := if inI d.fast.length i then 0 else 5
def Dk.badD (d : Dk) (i : Int) : Dk := if inI d.fast.length i then (d.putL i none).putB i true else d
def Dk.spoilE (d : Dk) (i : Int) (b : List UInt8) : Int := if inI d.fast.length i then (if d.size < b.length then 1 else 0) else 5
def Dk.spoil (d : Dk) (i : Int) (b : List UInt8) : Dk := if d.spoilE i b = 0 then d.fasten i.toNat (b ++ (d.fast.getD i.toNat []).drop b.length) else d
end
end Go.Proofs.YtoaodmidegkolaaGreatDoor
namespace Go.Proofs.YtoaodmidegkolaaGreatDoor
set_option maxRecDepth 20000
open Go.RowKit Go.Px Go.Maps
set_option linter.unusedVariables false
section
variable {w : World} {Q : Nat → Prop} {t f lm bm : Nat} {d : Dk}
def Dk.new (n s : Nat) : Dk := ⟨s, List.replicate n (List.replicate s 0), fun _ => none, fun _ => false, -1⟩
theorem Dk.new_ok {n s : Nat} (h1 : 1 ≤ n) (h2 : n ≤ 65536) (h3 : 1 ≤ s) (h4 : s ≤ 8192) : (Dk.new n s).Ok :=
  ⟨h3, h4, by simp [Dk.new]; omega, by simp [Dk.new]; omega, fun b hb => by rw [List.eq_of_mem_replicate hb]; simp [Dk.new], fun i b h => (by cases h), fun i h => (by cases h), by show (-1 : Int) ≤ -1; omega, by show (-1 : Int) ≤ _; omega⟩
set_option maxHeartbeats 800000 in
theorem new08_ok (w : World) (n s : Nat) (h1 : 1 ≤ n) (h2 : n ≤ 65536) (h3 : 1 ≤ s) (h4 : s ≤ 8192) :
    Calls Tryz.prog 6 #[.int .i64 (n : Int), .int .i64 (s : Int)] w fun e w' => e = .returned (.tuple #[.pointer (some ⟨w.heap.size + 3, 0, none⟩), .int .i64 0]) ∧ DIs w' (fun _ => False) (w.heap.size + 3) w.heap.size (w.heap.size + 1) (w.heap.size + 2) (Dk.new n s) ∧ w'.heap.size = w.heap.size + 4 ∧ Below w.heap.size w w' := by
  have hmm := @run_makeMap Tryz.prog
  have hm1 := fun W => run_mkB (P := Tryz.prog) (t := 44) (e := 51) (z := .slice none 0 0) (bytes := 24) Tryz.underlying44 (by kernel_rfl) rfl (N := n) (by omega) (by omega) W
  have q1 : decide ((n : Int) < 1) = false := decide_eq_false (by omega)
  have q2 : decide ((65536 : Int) < (n : Int)) = false := decide_eq_false (by omega)
  have q3 : decide ((s : Int) < 1) = false := decide_eq_false (by omega)
  have q4 : decide ((8192 : Int) < (s : Int)) = false := decide_eq_false (by omega)
  go_enter Tryz.func6, Tryz.ntmps6
  go_wp2
  refine bodyPost_ret (results_tmp2 rfl _ _ _) rfl ?_
  obtain ⟨w1, hw1⟩ : ∃ y, w.alloc (.cells (Array.replicate n (.slice none 0 0)) 51) = y := ⟨_, rfl⟩
  rw [hw1]
  have z1 : w1.heap.size = w.heap.size + 1 := by rw [← hw1]; simp
  have B1 : Blk w1 w.heap.size (List.replicate n (.slice none 0 0)) 51 := by
    rw [← hw1, show Array.replicate n (Value.slice none 0 0) = (List.replicate n (Value.slice none 0 0)).toArray by simp]
    exact Blk.new w _ _
  have b1 : Below w.heap.size w w1 := by rw [← hw1]; exact (Below.refl _ _).alloc (Nat.le_refl _) _
  have M1 := World.ownsMap_made w1 Tryz.prog 3 rdS
  obtain ⟨w2, hw2⟩ : ∃ y, w1.alloc (.map #[] 0) = y := ⟨_, rfl⟩
  rw [hw2] at M1 ⊢
  have z2 : w2.heap.size = w.heap.size + 2 := by rw [← hw2]; simp [z1]
  have b2 : Below w1.heap.size w1 w2 := by rw [← hw2]; exact (Below.refl _ _).alloc (Nat.le_refl _) _
  have M2 := World.ownsMap_made w2 Tryz.prog 3 (unitElem (H := Value))
  obtain ⟨w3, hw3⟩ : ∃ y, w2.alloc (.map #[] 0) = y := ⟨_, rfl⟩
  rw [hw3] at M2 ⊢
  have z3 : w3.heap.size = w.heap.size + 3 := by rw [← hw3]; simp [z2]
  have b3 : Below w2.heap.size w2 w3 := by rw [← hw3]; exact (Below.refl _ _).alloc (Nat.le_refl _) _
  rw [z1] at M1
  rw [z2] at M2
  have z3' : w3.heap.size = w.heap.size + 3 := z3
  obtain ⟨w4, hw4⟩ : ∃ y, w3.alloc (.cells #[.int .i64 (s : Int), .slice (some ⟨w.heap.size, 0, none⟩) n n, .map (some (w.heap.size + 1)), .map (some (w.heap.size + 1 + 1)), .int .i64 (-1)] 48) = y := ⟨_, rfl⟩
  have B4 : Blk w4 (w.heap.size + 3) [.int .i64 (s : Int), .slice (some ⟨w.heap.size, 0, none⟩) n n, .map (some (w.heap.size + 1)), .map (some (w.heap.size + 2)), .int .i64 (-1)] 48 := by
    rw [← hw4, ← z3]; exact Blk.new w3 _ _
  have b4 : Below w3.heap.size w3 w4 := by rw [← hw4]; exact (Below.refl _ _).alloc (Nat.le_refl _) _
  have z4 : w4.heap.size = w.heap.size + 4 := by rw [← hw4]; simp [z3]
  rw [hw4]
  have b04 : Below w.heap.size w w4 := ((b1.trans (b2.mono (by omega))).trans (b3.mono (by omega))).trans (b4.mono (by omega))
  have b14 : Below w1.heap.size w1 w4 := (b2.trans (b3.mono (by omega))).trans (b4.mono (by omega))
  have f24 : Fr (fun _ => False) w2 w4 := Fr.of_below (b3.trans (b4.mono (by omega)))
  have f34 : Fr (fun _ => False) w3 w4 := Fr.of_below b4
  refine ⟨rfl, ⟨⟨n, ?_, ?_, ?_⟩, ⟨_, B1.below b14, ?_, fun i b hb => ?_⟩, ⟨_, own_tight (own_fr M1 f24 (fun h => h)), fun i => rfl⟩, ⟨_, own_tight (own_fr M2 f34 (fun h => h)), fun i => rfl⟩, Dk.new_ok h1 h2 h3 h4, ⟨by omega, by omega, by omega, by omega, by omega, by omega⟩, fun b hb => hb.elim⟩, z4, b04⟩
  · have e : (Dk.new n s).fast.length = n := by simp [Dk.new]
    rw [e]; exact B4
  · simp [Dk.new]
  · omega
  · simp [Dk.new]
  · have hb' : (List.replicate n (List.replicate s (0 : UInt8)))[i]? = some b := hb
    obtain ⟨hi, hbi⟩ := List.getElem?_eq_some_iff.1 hb'
    rw [List.getElem_replicate] at hbi
    rw [List.length_replicate] at hi
    subst hbi
    exact ⟨.slice none 0 0, by rw [List.getElem?_replicate, if_pos hi], none, 0, 0, rfl, Nat.le_refl _, by omega, .inl ⟨rfl, rfl, rfl, by simp⟩⟩
theorem new08_bad (w : World) (n s : Int) (hn : ¬ (1 ≤ n ∧ n ≤ 65536 ∧ 1 ≤ s ∧ s ≤ 8192)) :
    Calls Tryz.prog 6 #[.int .i64 n, .int .i64 s] w fun e w' => e = .returned (.tuple #[.pointer none, .int .i64 80]) ∧ w = w' := by
  rcases (show n < 1 ∨ (1 ≤ n ∧ 65536 < n) ∨ (1 ≤ n ∧ n ≤ 65536 ∧ s < 1) ∨ (1 ≤ n ∧ n ≤ 65536 ∧ 1 ≤ s ∧ 8192 < s) by omega) with h1 | ⟨h1, h2⟩ | ⟨h1, h2, h3⟩ | ⟨h1, h2, h3, h4⟩
  · have q1 : decide (n < 1) = true := decide_eq_true h1
    clear hn
    go_enter Tryz.func6, Tryz.ntmps6
    go_wp2
    refine bodyPost_ret (results_tmp2 rfl _ _ _) rfl ?_
    exact ⟨rfl, rfl⟩
  · have q1 : decide (n < 1) = false := decide_eq_false (by omega)
    have q2 : decide ((65536 : Int) < n) = true := decide_eq_true h2
    clear hn
    go_enter Tryz.func6, Tryz.ntmps6
    go_wp2
    refine bodyPost_ret (results_tmp2 rfl _ _ _) rfl ?_
    exact ⟨rfl, rfl⟩
  · have q1 : decide (n < 1) = false := decide_eq_false (by omega)
    have q2 : decide ((65536 : Int) < n) = false := decide_eq_false (by omega)
    have q3 : decide (s < 1) = true := decide_eq_true h3
    clear hn
    go_enter Tryz.func6, Tryz.ntmps6
    go_wp2
    refine bodyPost_ret (results_tmp2 rfl _ _ _) rfl ?_
    exact ⟨rfl, rfl⟩
  · have q1 : decide (n < 1) = false := decide_eq_false (by omega)
    have q2 : decide ((65536 : Int) < n) = false := decide_eq_false (by omega)
    have q3 : decide (s < 1) = false := decide_eq_false (by omega)
    have q4 : decide ((8192 : Int) < s) = true := decide_eq_true h4
    clear hn
    go_enter Tryz.func6, Tryz.ntmps6
    go_wp2
    refine bodyPost_ret (results_tmp2 rfl _ _ _) rfl ?_
    exact ⟨rfl, rfl⟩
end
end Go.Proofs.YtoaodmidegkolaaGreatDoor
namespace Go.Proofs.YtoaodmidegkolaaGreatDoor
set_option maxRecDepth 20000
open Go.RowKit Go.Px Go.Maps
set_option linter.unusedVariables false
section
variable {w : World} {Q : Nat → Prop} {t f lm bm : Nat} {d : Dk}
theorem intD_at08 {l : List Int} {i : Nat} (h : i < l.length) : l.getD i 0 = l[i] := by simp [List.getD_eq_getElem?_getD, List.getElem?_eq_getElem h]
/-- What a crash makes of one sector that is loose. -/
def Dk.crashStep (keep : List Bool) (torn cut : Int) (d : Dk) (k : Nat) (i : Int) : Dk :=
  if (k : Int) = torn then (if d.bad i = true then d else d.fasten i.toNat (tornB d.size ((d.loose i).getD []) (d.fast.getD i.toNat []) cut))
  else if keep.getD k false = true then d.fasten i.toNat ((d.loose i).getD []) else d
def Dk.crashTo (keep : List Bool) (torn cut : Int) (d : Dk) (l : List Int) : Nat → Dk
  | 0 => d
  | k + 1 => (Dk.crashTo keep torn cut d l k).crashStep keep torn cut k (l.getD k 0)
def Dk.crash (keep : List Bool) (torn cut : Int) (d : Dk) : Dk := { { d.crashTo keep torn cut d.looseL d.looseL.length with loose := fun _ => none } with fuse := -1 }
theorem Dk.crashStep_same (keep : List Bool) (torn cut : Int) (d : Dk) (k : Nat) (i : Int) : (d.crashStep keep torn cut k i).size = d.size ∧ (d.crashStep keep torn cut k i).fast.length = d.fast.length ∧ (0 ≤ i → ∀ x, x ≠ i → (d.crashStep keep torn cut k i).loose x = d.loose x) := by
  have hf : ∀ b, (d.fasten i.toNat b).size = d.size ∧ (d.fasten i.toNat b).fast.length = d.fast.length ∧ (0 ≤ i → ∀ x, x ≠ i → (d.fasten i.toNat b).loose x = d.loose x) := fun b =>
    ⟨(d.fasten_same _ b).1, (d.fasten_same _ b).2.1, fun h0 x hx => by rw [Dk.fasten_loose, if_neg (by omega)]⟩
  unfold Dk.crashStep
  split
  · split
    · exact ⟨rfl, rfl, fun _ _ _ => rfl⟩
    · exact hf _
  · split
    · exact hf _
    · exact ⟨rfl, rfl, fun _ _ _ => rfl⟩
theorem Dk.crashTo_same (keep : List Bool) (torn cut : Int) (d : Dk) (l : List Int) (h0 : ∀ y ∈ l, 0 ≤ y) : ∀ k, k ≤ l.length → (d.crashTo keep torn cut l k).size = d.size ∧ (d.crashTo keep torn cut l k).fast.length = d.fast.length ∧ ∀ x, x ∉ l.take k → (d.crashTo keep torn cut l k).loose x = d.loose x
  | 0, _ => ⟨rfl, rfl, fun _ _ => rfl⟩
  | k + 1, hk => by
    obtain ⟨i1, i2, i3⟩ := Dk.crashTo_same keep torn cut d l h0 k (by omega)
    obtain ⟨j1, j2, j3⟩ := Dk.crashStep_same keep torn cut (d.crashTo keep torn cut l k) k (l.getD k 0)
    have hg : l.getD k 0 = l[k] := intD_at08 (by omega)
    refine ⟨j1.trans i1, j2.trans i2, fun x hx => ?_⟩
    rw [List.take_succ_eq_append_getElem (by omega), List.mem_append, List.mem_singleton, not_or] at hx
    show ((d.crashTo keep torn cut l k).crashStep keep torn cut k (l.getD k 0)).loose x = _
    rw [j3 (by rw [hg]; exact h0 _ (List.getElem_mem _)) x (by rw [hg]; exact hx.2), i3 x hx.1]
set_option maxHeartbeats 3200000 in
theorem crash08_any (h : DIs w Q t f lm bm d) (hQ : ∀ b, w.heap.size ≤ b → Q b) (K : Option Addr) (kn kc : Nat) (keep : List Bool) (torn cut : Int) (hc1 : -9223372036854775808 ≤ cut) (hc2 : cut ≤ 9223372036854775807) (hkn : keep.length = kn) (hk63 : kn ≤ 9223372036854775807) (hrk : Rd w K (bls keep)) (hK : bls keep ≠ [] → ∀ a, K = some a → ¬ OwnB t f lm bm a.block) :
    Calls Tryz.prog 11 #[.pointer (some ⟨t, 0, none⟩), .agg #[.slice K kn kc, .int .i64 torn, .int .i64 cut]] w fun e w' => e = .returned (.int .i64 0) ∧ DIs w' Q t f lm bm (d.crash keep torn cut) ∧ Fr (OwnB t f lm bm) w w' := by
  obtain ⟨g, hg⟩ : ∃ g, w.heap.size = g := ⟨_, rfl⟩
  obtain ⟨w0, hw0⟩ : ∃ y, w.alloc (.cells #[.slice K kn kc, .int .i64 torn, .int .i64 cut] 28) = y := ⟨_, rfl⟩
  have hG : Blk w0 g [.slice K kn kc, .int .i64 torn, .int .i64 cut] 28 := by rw [← hw0, ← hg]; exact Blk.new w _ _
  have hb0 : Below w.heap.size w w0 := by rw [← hw0]; exact (Below.refl _ _).alloc (Nat.le_refl _) _
  have h0 := h.below hb0
  have HM := hide (made08_any h0)
  have HLO := hide (loose08_any h0)
  have ok := h.ok
  have hN := h.ok.n2
  have hll := d.looseL_len
  have hlts := h.lts
  have hrk0 := hrk.below hb0
  obtain ⟨L, hL⟩ : ∃ L, d.looseL = L := ⟨_, rfl⟩
  have hcr : d.crash keep torn cut = { { d.crashTo keep torn cut L L.length with loose := fun _ => none } with fuse := -1 } := by unfold Dk.crash; rw [hL]
  have hget : ∀ (k : Nat) (hk : k < L.length), ∃ bs, d.loose L[k] = some bs ∧ 0 ≤ L[k] ∧ L[k] < d.fast.length ∧ bs.length = d.size ∧ L[k] ∉ L.take k := by subst hL; exact fun k hk => Dk.looseL_get ok hk
  have h0L : ∀ y ∈ L, 0 ≤ y := fun y hy => by
    rw [← hL] at hy
    obtain ⟨b, hb⟩ := Option.isSome_iff_exists.1 ((Dk.mem_looseL ok).1 hy)
    exact (ok.lo _ b hb).1
  rw [hL] at HLO hll
  have HCR := hide hcr
  have Hget := hide hget
  have H0L := hide h0L
  have HQ := hide hQ
  have HK := hide hK
  have H0 := hide h0
  obtain ⟨m, hm⟩ : ∃ m, L.length = m := ⟨_, rfl⟩
  rw [hm] at HLO hll HCR
  have Hm := hide hm
  have Hw0 := hide hw0
  have Hg := hide hg
  clear h h0 hL hcr hget h0L hQ hK hm hw0 hg hrk ok
  go_enter Tryz.func11, Tryz.ntmps11
  go_wp2_with fail
  rw [Hw0.out, Hg.out]
  go_fit HM.out
  rintro x w1 ⟨rfl, rfl⟩
  go_wp2_with fail
  refine HLO.out.mono ?_
  rintro x w3 ⟨A, c, rfl, hLc, hc, hr3, hA3, hb3⟩
  have hz0 := hb0.size
  have hgw : w.heap.size = g := Hg.out
  have hD3 := H0.out.below hb3
  have hF3 : Fr (OwnB t f lm bm) w w3 := (Fr.of_below hb0).trans' (Y := fun _ => False) (Fr.of_below hb3) (fun b hb => hb.elim)
  have hG3 := hG.below hb3
  have hK3 := hrk0.below hb3
  have hnA : ∀ a, A = some a → ¬ OwnB t f lm bm a.block := fun a ha hx => by
    have := hA3 a ha
    rcases hx with h | h | h | h <;> omega
  have hnG : ¬ OwnB t f lm bm g := fun hx => by rcases hx with h | h | h | h <;> omega
  have HnA := hide hnA
  have hgl := hG.lt
  clear hnA HLO HM hG hrk0 hA3
  have HgE := hide hgw
  clear hgw
  go_wp2_with fail
  go_loopw [15] (fun s W => ∃ k : Nat, s = .int .i64 (k : Int) ∧ k ≤ m ∧ DIs W Q t f lm bm (d.crashTo keep torn cut L k) ∧ Fr (OwnB t f lm bm) w W ∧ Rd W A (ints L) ∧ Blk W g [.slice K kn kc, .int .i64 torn, .int .i64 cut] 28 ∧ Rd W K (bls keep)) (fun s _ => m - (RowKit.intOf s).toNat)
  case atStart => exact ⟨0, rfl, by omega, hD3, hF3, hr3, hG3, hK3⟩
  case round =>
    obtain ⟨k, rfl, hkm, hDk, hFk, hrk, hGk, hKk⟩ := hrel
    by_cases hlt : k < m
    · have hkl : k < L.length := by rw [Hm.out]; exact hlt
      obtain ⟨a, ha, hca⟩ := hrk k _ (ints_get hkl)
      subst ha
      obtain ⟨bs, g1, g2, g3, g4, g5⟩ := Hget.out k hkl
      obtain ⟨s1, s2, s3⟩ := Dk.crashTo_same keep torn cut d L H0L.out k (by rw [Hm.out]; omega)
      have hlk : (d.crashTo keep torn cut L k).loose L[k] = some bs := by rw [s3 _ g5]; exact g1
      have hnx : d.crashTo keep torn cut L (k + 1) = (d.crashTo keep torn cut L k).crashStep keep torn cut k L[k] := by
        show (d.crashTo keep torn cut L k).crashStep keep torn cut k (L.getD k 0) = _
        rw [intD_at08 hkl]
      obtain ⟨i, hi⟩ : ∃ i : Nat, L[k] = (i : Int) := ⟨(L[k]).toNat, by omega⟩
      rw [hi] at hca g3 hlk hnx
      obtain ⟨dk, hdk⟩ : ∃ dk, d.crashTo keep torn cut L k = dk := ⟨_, rfl⟩
      rw [hdk] at hDk s1 s2 hlk hnx
      have hiN : i < dk.fast.length := by omega
      have hb6 : Below wr.heap.size wr (wr.alloc (.cells #[] 62)) := (Below.refl _ _).alloc (Nat.le_refl _) _
      have hlb := hDk.look_ba (i := (i : Int)) (by omega) (by omega)
      obtain ⟨cb, bb, _⟩ := hDk.blk
      have y3 := bb.cell (j := 3) rfl
      have hD6 := hDk.below hb6
      have hlb6 := hD6.look_ba (i := (i : Int)) (by omega) (by omega)
      have y36 := (bb.below hb6).cell (j := 3) rfl
      obtain ⟨A6, n6, c6, hlook, e1, e2, e3, e4, e5⟩ := hD6.look_some hlk
      have y26 := (bb.below hb6).cell (j := 2) rfl
      have HTO := hide (torn08_any hD6 i hiN bs hlk cut hc1 hc2)
      have HFA := hide (fasten08_any hD6 i A6 n6 c6 bs hiN (by omega) ⟨A6, n6, c6, rfl, e2, e3, .inr ⟨e1, e4, e5⟩⟩)
      have hF6 := hFk.trans (Fr.of_below (X := OwnB t f lm bm) hb6)
      have hG6 := hGk.below hb6
      have k0 := hG6.cell (j := 0) rfl
      have k1 := hG6.cell (j := 1) rfl
      have k2 := hG6.cell (j := 2) rfl
      have hr6 := hrk.below hb6
      have hK6 := hKk.below hb6
      have hszk := hF6.size
      have hgt : dk.loose (i : Int) = some bs := hlk
      have hlk0 := hlk
      have hfd : dk.fast.getD i [] = dk.fast[i] := by rw [List.getD_eq_getElem?_getD, List.getElem?_eq_getElem hiN]; rfl
      have hstep : dk.crashStep keep torn cut k (i : Int) = if (k : Int) = torn then (if dk.bad (i : Int) = true then dk else dk.fasten i (tornB dk.size bs dk.fast[i] cut)) else if keep.getD k false = true then dk.fasten i bs else dk := by
        unfold Dk.crashStep
        rw [Int.toNat_natCast, hgt, hfd]; rfl
      rw [hstep] at hnx
      obtain ⟨bd, hbd⟩ : ∃ bd, dk.bad (i : Int) = bd := ⟨_, rfl⟩
      rw [hbd] at hlb hlb6 hnx
      have hS := hD6.ok.s2
      clear hstep hbd hDk hFk hrk hGk hKk bb hgt hfd g1 g2 g3 g4 g5 s1 s2 s3 hlk e1 e2 e3 e4 e5
      by_cases hkt : (k : Int) = torn
      · have q1 : ((k : Int) == torn) = true := by simp [hkt]
        have q1' : ((k : Int) != torn) = false := by simp [hkt]
        rw [if_pos hkt] at hnx
        clear hkt
        cases bd with
        | true =>
          have hnx2 := hide (show d.crashTo keep torn cut L (k + 1) = dk from by rw [hnx]; rfl)
          have HD6 := hide hD6
          have HF6 := hide hF6
          clear hnx hD6 hF6
          go_wp2
          go_roundw
          case rel => exact ⟨k + 1, by go_num, by omega, by rw [hnx2.out]; exact HD6.out, HF6.out, hr6, hG6, hK6⟩
          case measure => simp [RowKit.intOf]; omega
        | false =>
          have hnx2 := hide (show d.crashTo keep torn cut L (k + 1) = dk.fasten i (tornB dk.size bs dk.fast[i] cut) from by rw [hnx]; rfl)
          have htl : (tornB dk.size bs dk.fast[i] cut).length = dk.size := tornB_len (hD6.ok.lo _ _ hlk0).2.2 (hD6.ok.fl _ (List.getElem_mem hiN)) cut
          obtain ⟨tb, htb⟩ : ∃ tb, tornB dk.size bs dk.fast[i] cut = tb := ⟨_, rfl⟩
          rw [htb] at HTO hnx2 htl
          obtain ⟨o, ho⟩ : ∃ o, (wr.alloc (.cells #[] 62)).heap.size = o := ⟨_, rfl⟩
          rw [ho] at HTO hszk
          have Ho := hide ho
          clear ho
          have HD6 := hide hD6
          have HF6 := hide hF6
          clear hnx hD6 hF6 htb
          go_wp2_with fail
          refine HTO.out.mono ?_
          rintro x w7 ⟨rfl, hr7, hz7, hb7⟩
          have hFA := hide (fasten08_any (HD6.out.below (by rw [Ho.out]; exact hb7)) i (some ⟨o, 0, none⟩) dk.size dk.size tb hiN htl ⟨_, _, _, rfl, Nat.le_refl _, by omega, .inr ⟨htl, hr7, fun a ha => by injection ha with ha; rw [← ha]; exact HQ.out _ hszk⟩⟩)
          have hb7' : Below (wr.alloc (.cells #[] 62)).heap.size (wr.alloc (.cells #[] 62)) w7 := by rw [Ho.out]; exact hb7
          have hr7' := hr6.below hb7'
          have hG7 := hG6.below hb7'
          have hK7 := hK6.below hb7'
          clear HTO
          go_wp2_with fail
          refine hFA.out.mono ?_
          rintro x w8 ⟨rfl, hD8, hF8⟩
          rw [← hnx2.out] at hD8
          have HD8 := hide hD8
          have HF8 := hide (HF6.out.trans ((Fr.of_below (X := OwnB t f lm bm) hb7').trans hF8))
          have Hr8 := hide (hr7'.fr hF8 (fun _ x hx => HnA.out x hx))
          have HG8 := hide (hG7.fr hF8 hnG)
          have HK8 := hide (hK7.fr hF8 (fun hne x hx => HK.out hne x hx))
          clear hD8 hF8
          go_wp2
          go_roundw
          case rel => exact ⟨k + 1, by go_num, by omega, HD8.out, HF8.out, Hr8.out, HG8.out, HK8.out⟩
          case measure => simp [RowKit.intOf]; omega
      · have q1 : ((k : Int) == torn) = false := by simp [hkt]
        have q1' : ((k : Int) != torn) = true := by simp [hkt]
        rw [if_neg hkt] at hnx
        clear hkt
        by_cases hkk : k < kn
        · have hkl2 : k < keep.length := by rw [hkn]; exact hkk
          obtain ⟨ak, rfl, hck⟩ := hK6 k _ (bls_get hkl2)
          have hgd : keep.getD k false = keep[k] := by simp [List.getD_eq_getElem?_getD, List.getElem?_eq_getElem hkl2]
          rw [hgd] at hnx
          obtain ⟨kb, hkb⟩ : ∃ kb, keep[k] = kb := ⟨_, rfl⟩
          rw [hkb] at hck hnx
          clear hgd hkb hkl2
          cases kb with
          | true =>
            have hnx2 := hide (show d.crashTo keep torn cut L (k + 1) = dk.fasten i bs from by rw [hnx]; rfl)
            have HF6 := hide hF6
            clear hnx hD6 hF6 HTO
            go_wp2_with fail
            refine HFA.out.mono ?_
            rintro x w8 ⟨rfl, hD8, hF8⟩
            rw [← hnx2.out] at hD8
            have HD8 := hide hD8
            have HF8 := hide (HF6.out.trans hF8)
            have Hr8 := hide (hr6.fr hF8 (fun _ x hx => HnA.out x hx))
            have HG8 := hide (hG6.fr hF8 hnG)
            have HK8 := hide (hK6.fr hF8 (fun hne x hx => HK.out hne x hx))
            clear hD8 hF8
            go_wp2
            go_roundw
            case rel => exact ⟨k + 1, by go_num, by omega, HD8.out, HF8.out, Hr8.out, HG8.out, HK8.out⟩
            case measure => simp [RowKit.intOf]; omega
          | false =>
            have hnx2 := hide (show d.crashTo keep torn cut L (k + 1) = dk from by rw [hnx]; rfl)
            have HD6 := hide hD6
            have HF6 := hide hF6
            clear hnx hD6 hF6
            go_wp2
            go_roundw
            case rel => exact ⟨k + 1, by go_num, by omega, by rw [hnx2.out]; exact HD6.out, HF6.out, hr6, hG6, hK6⟩
            case measure => simp [RowKit.intOf]; omega
        · have q3 : decide (k < kn) = false := decide_eq_false hkk
          have hgd : keep.getD k false = false := by
            rw [List.getD_eq_getElem?_getD, List.getElem?_eq_none (by rw [hkn]; omega)]; rfl
          rw [hgd] at hnx
          clear hgd
          have hnx2 := hide (show d.crashTo keep torn cut L (k + 1) = dk from by rw [hnx]; rfl)
          have HD6 := hide hD6
          have HF6 := hide hF6
          clear hnx hD6 hF6
          go_wp2
          go_roundw
          case rel => exact ⟨k + 1, by go_num, by omega, by rw [hnx2.out]; exact HD6.out, HF6.out, hr6, hG6, hK6⟩
          case measure => simp [RowKit.intOf]; omega
    · have hke : k = m := by omega
      subst hke
      obtain ⟨cb, bb, _⟩ := hDk.blk
      have y2 := bb.cell (j := 2) rfl
      obtain ⟨w5, hclr, hD5, hF5⟩ := hDk.clear_lo 0
      obtain ⟨cd, b5, _⟩ := hD5.blk
      have y4 := b5.cell (j := 4) rfl
      have f4 := b5.frozen 4
      obtain ⟨hD9, hF9⟩ := hD5.put_fuse (z := -1) (by omega) (by omega)
      have H := hide (And.intro hD9 (hFk.trans ((fr_own hF5 (.inr (.inr (.inl rfl)))).trans (fr_own hF9 (.inl rfl)))))
      clear hDk hFk hrk hGk hKk bb hD5 hF5 b5 hD9 hF9
      go_wp2
      go_ret
      exact ⟨rfl, by rw [HCR.out]; exact H.out.1, H.out.2⟩
end
end Go.Proofs.YtoaodmidegkolaaGreatDoor
namespace Go.Proofs.YtoaodmidegkolaaGreatDoor
set_option maxRecDepth 20000
open Go.RowKit Go.Px Go.Maps
set_option linter.unusedVariables false
section
variable {w : World} {Q : Nat → Prop} {t f lm bm : Nat} {d : Dk}
/-- Write, whatever it is told. -/
theorem write08_any (h : DIs w Q t f lm bm d) (hQ : ∀ b, w.heap.size ≤ b → Q b) (i : Int) (A : Option Addr) (m c : Nat) (b : List UInt8) (hi1 : -9223372036854775808 ≤ i) (hi2 : i ≤ 9223372036854775807) (hm : b.length = m) (hmc : m ≤ c) (hc : c ≤ 9223372036854775807) (hrb : Rd w A (bys b)) (hA : bys b ≠ [] → ∀ a, A = some a → ¬ OwnB t f lm bm a.block) :
    Calls Tryz.prog 17 #[.pointer (some ⟨t, 0, none⟩), .int .i64 i, .slice A m c] w fun e w' => e = .returned (.int .i64 (d.writeE i b)) ∧ DIs w' Q t f lm bm (d.write i b) ∧ Fr (OwnB t f lm bm) w w' := by
  by_cases he : d.writeE i b = 0
  · rw [he]; exact write08_ok h hQ i A m c b hm hmc hc hrb hA he
  · have hw : d.write i b = d := if_neg he
    rw [hw]
    refine (write08_bad h i A m c b hi1 hi2 hm hmc hc he).mono ?_
    rintro e w' ⟨h1, h2, h3⟩
    exact ⟨h1, h2, fr_own h3 (.inl rfl)⟩
def NotOwn (t f lm bm : Nat) (b : Nat) : Prop := ¬ OwnB t f lm bm b
theorem DIs.notOwn (h : DIs w Q t f lm bm d) : DIs w (NotOwn t f lm bm) t f lm bm d :=
  h.mono (fun b hb hx => by have := h.out b hb; rcases hx with h | h | h | h <;> simp_all) (fun b hb => ⟨fun e => hb (.inl e), fun e => hb (.inr (.inl e)), fun e => hb (.inr (.inr (.inl e))), fun e => hb (.inr (.inr (.inr e)))⟩)
theorem DIs.notOwn_new (h : DIs w Q t f lm bm d) : ∀ b, w.heap.size ≤ b → NotOwn t f lm bm b := fun b hb hx => by
  have := h.lts
  rcases hx with h | h | h | h <;> omega
end
end Go.Proofs.YtoaodmidegkolaaGreatDoor
namespace Go.Proofs.YtoaodmidegkolaaGreatDoor
set_option maxRecDepth 20000
open Go.RowKit Go.Px Go.Maps
set_option linter.unusedVariables false
/-- A sector's four cells. -/
def RSec (w : World) (Q : Nat → Prop) (cs : List Value) (i : Nat) (fast : List UInt8) (loose : Option (List UInt8)) (bad : Bool) : Prop :=
  ∃ A n c B m e, cs[i * 4]? = some (.slice A n c) ∧ cs[i * 4 + 1]? = some (.bool loose.isSome) ∧ cs[i * 4 + 2]? = some (.slice B m e) ∧ cs[i * 4 + 3]? = some (.bool bad) ∧
    fast.length = n ∧ n ≤ c ∧ c ≤ 9223372036854775807 ∧ Rd w A (bys fast) ∧ (∀ a, A = some a → Q a.block) ∧ m ≤ e ∧ e ≤ 9223372036854775807 ∧ ∀ b, loose = some b → b.length = m ∧ Rd w B (bys b) ∧ ∀ a, B = some a → Q a.block
/-- The document's disk at block t, its row of sectors at f. -/
structure RDIs (w : World) (Q : Nat → Prop) (t f : Nat) (cs : List Value) (d : Dk) : Prop where
  blk : ∃ c, Blk w t [.int .i64 (d.size : Int), .slice (some ⟨f, 0, none⟩) d.fast.length c, .bool (decide (0 ≤ d.fuse)), .int .i64 (max d.fuse 0)] 91 ∧ d.fast.length ≤ c ∧ c ≤ 9223372036854775807
  row : Blk w f cs 93
  len : d.fast.length * 4 ≤ cs.length
  sec : ∀ (i : Nat) (hi : i < d.fast.length), RSec w Q cs i d.fast[i] (d.loose (i : Int)) (d.bad (i : Int))
  ok : d.Ok
  ne : t ≠ f
  out : ∀ b, Q b → b ≠ t ∧ b ≠ f
def ROwn (t f : Nat) (b : Nat) : Prop := b = t ∨ b = f
section
variable {w w' : World} {Q Q' X : Nat → Prop} {t f : Nat} {cs cs' : List Value} {d d' : Dk}
theorem RSec.keep {i : Nat} {fast : List UInt8} {loose : Option (List UInt8)} {bad : Bool} (h : RSec w Q cs i fast loose bad) (hk : ∀ A xs, Rd w A xs → (∀ a, A = some a → Q a.block) → Rd w' A xs) (hQ : ∀ b, Q b → Q' b) : RSec w' Q' cs i fast loose bad := by
  obtain ⟨A, n, c, B, m, e, h1, h2, h3, h4, h5, h6, h7, h8, h9, h10, h11, h12⟩ := h
  exact ⟨A, n, c, B, m, e, h1, h2, h3, h4, h5, h6, h7, hk _ _ h8 h9, fun a ha => hQ _ (h9 a ha), h10, h11, fun b hb => ⟨(h12 b hb).1, hk _ _ (h12 b hb).2.1 (h12 b hb).2.2, fun a ha => hQ _ ((h12 b hb).2.2 a ha)⟩⟩
theorem RSec.cells {i : Nat} {fast : List UInt8} {loose : Option (List UInt8)} {bad : Bool} (h : RSec w Q cs i fast loose bad) (hc : ∀ k, k < 4 → cs'[i * 4 + k]? = cs[i * 4 + k]?) : RSec w Q cs' i fast loose bad := by
  obtain ⟨A, n, c, B, m, e, h1, h2, h3, h4, r⟩ := h
  exact ⟨A, n, c, B, m, e, by rw [← h1]; exact hc 0 (by omega), by rw [← h2]; exact hc 1 (by omega), by rw [← h3]; exact hc 2 (by omega), by rw [← h4]; exact hc 3 (by omega), r⟩
theorem RDIs.frQ (h : RDIs w Q t f cs d) (hf : Fr X w w') (ht : ¬ X t) (hff : ¬ X f) (hq : ∀ b, Q b → ¬ X b) (hQ : ∀ b, Q b → Q' b) (hout : ∀ b, Q' b → b ≠ t ∧ b ≠ f) : RDIs w' Q' t f cs d := by
  have hk : ∀ A xs, Rd w A xs → (∀ a, A = some a → Q a.block) → Rd w' A xs := fun A xs hr hA => hr.fr hf (fun _ a ha => hq _ (hA a ha))
  obtain ⟨⟨c, b1, b2⟩, h2, h3, h4, h5, h6, h7⟩ := h
  exact ⟨⟨c, b1.fr hf ht, b2⟩, h2.fr hf hff, h3, fun i hi => (h4 i hi).keep hk hQ, h5, h6, hout⟩
theorem RDIs.fr (h : RDIs w Q t f cs d) (hf : Fr X w w') (ht : ¬ X t) (hff : ¬ X f) (hq : ∀ b, Q b → ¬ X b) : RDIs w' Q t f cs d := h.frQ hf ht hff hq (fun _ h => h) h.out
theorem RDIs.below (h : RDIs w Q t f cs d) (hb : Below w.heap.size w w') : RDIs w' Q t f cs d := h.fr (X := fun _ => False) (Fr.of_below hb) (fun h => h) (fun h => h) (fun _ _ h => h)
theorem RDIs.mono (h : RDIs w Q t f cs d) (hQ : ∀ b, Q b → Q' b) (hout : ∀ b, Q' b → b ≠ t ∧ b ≠ f) : RDIs w Q' t f cs d := h.frQ (X := fun _ => False) (Fr.refl _ _) (fun h => h) (fun h => h) (fun _ _ h => h) hQ hout
theorem RDIs.lts (h : RDIs w Q t f cs d) : t < w.heap.size ∧ f < w.heap.size := by
  obtain ⟨⟨c, b1, _⟩, h2, _⟩ := h
  exact ⟨b1.lt, h2.lt⟩
/-- One sector laid anew. -/
theorem RDIs.upd (h : RDIs w Q t f cs d) {i : Nat} (hi : i < d.fast.length) (hB : Blk w' f cs' 93) (hF : Fr (fun x => x = f) w w') (hl : cs'.length = cs.length) (ho : ∀ j, j < i * 4 ∨ i * 4 + 4 ≤ j → cs'[j]? = cs[j]?)
    (hs : ∀ hi' : i < d'.fast.length, RSec w' Q cs' i d'.fast[i] (d'.loose (i : Int)) (d'.bad (i : Int))) (h1 : d'.size = d.size) (h2 : d'.fast.length = d.fast.length) (h3 : d'.fuse = d.fuse) (h4 : ∀ j, j ≠ i → d'.fast[j]? = d.fast[j]?) (h5 : ∀ x, x ≠ (i : Int) → d'.loose x = d.loose x) (h6 : ∀ x, x ≠ (i : Int) → d'.bad x = d.bad x) (ok' : d'.Ok) : RDIs w' Q t f cs' d' := by
  have hk : ∀ A xs, Rd w A xs → (∀ a, A = some a → Q a.block) → Rd w' A xs := fun A xs hr hA => hr.fr hF (fun _ a ha e => (h.out _ (hA a ha)).2 e)
  obtain ⟨⟨c, b1, b2⟩, g2, g3, g4, g5, g6, g7⟩ := h
  refine ⟨⟨c, by rw [h1, h2, h3]; exact b1.fr hF g6, by rw [h2]; exact b2⟩, hB, by rw [h2, hl]; exact g3, fun j hj => ?_, ok', g6, g7⟩
  by_cases hji : j = i
  · subst hji; exact hs hj
  · have hj' : j < d.fast.length := by omega
    have e := h4 j hji
    rw [List.getElem?_eq_getElem hj, List.getElem?_eq_getElem hj'] at e
    injection e with e
    rw [e, h5 _ (by omega), h6 _ (by omega)]
    exact ((g4 j hj').keep hk (fun _ h => h)).cells (fun k hk4 => ho _ (by omega))
/-- The fuse laid anew. -/
theorem RDIs.put_fuse (h : RDIs w Q t f cs d) {z : Int} (h1 : -1 ≤ z) (h2 : z ≤ 9223372036854775807) {b0 : Bool} {n : Int} (hb : b0 = decide (0 ≤ z)) (hn : n = max z 0) : RDIs ((w.setCell ⟨t, 2, none⟩ (.bool b0)).setCell ⟨t, 3, none⟩ (.int .i64 n)) Q t f cs { d with fuse := z } ∧ Fr (fun x => x = t) w ((w.setCell ⟨t, 2, none⟩ (.bool b0)).setCell ⟨t, 3, none⟩ (.int .i64 n)) := by
  subst hb hn
  have hF : Fr (fun x => x = t) w ((w.setCell ⟨t, 2, none⟩ (.bool (decide (0 ≤ z)))).setCell ⟨t, 3, none⟩ (.int .i64 (max z 0))) := (Fr.set (X := fun x => x = t) w ⟨t, 2, none⟩ _ rfl).trans (Fr.set (X := fun x => x = t) _ ⟨t, 3, none⟩ _ rfl)
  have hk : ∀ A xs, Rd w A xs → (∀ a, A = some a → Q a.block) → Rd ((w.setCell ⟨t, 2, none⟩ (.bool (decide (0 ≤ z)))).setCell ⟨t, 3, none⟩ (.int .i64 (max z 0))) A xs := fun A xs hr hA => hr.fr hF (fun _ a ha e => (h.out _ (hA a ha)).1 e)
  refine ⟨?_, hF⟩
  obtain ⟨⟨c, b1, b2⟩, g2, g3, g4, g5, g6, g7⟩ := h
  exact ⟨⟨c, (b1.set 2 _).set 3 _, b2⟩, g2.fr hF (fun e => g6 e.symm), g3, fun i hi => (g4 i hi).keep hk (fun _ h => h), ⟨g5.s1, g5.s2, g5.n1, g5.n2, g5.fl, g5.lo, g5.ba, h1, h2⟩, g6, g7⟩
theorem RDIs.put_left (h : RDIs w Q t f cs d) {z : Int} (h0 : 0 ≤ d.fuse) (h1 : 0 ≤ z) (h2 : z ≤ 9223372036854775807) : RDIs (w.setCell ⟨t, 3, none⟩ (.int .i64 z)) Q t f cs { d with fuse := z } ∧ Fr (fun x => x = t) w (w.setCell ⟨t, 3, none⟩ (.int .i64 z)) := by
  have hF : Fr (fun x => x = t) w (w.setCell ⟨t, 3, none⟩ (.int .i64 z)) := Fr.set w ⟨t, 3, none⟩ _ rfl
  have hk : ∀ A xs, Rd w A xs → (∀ a, A = some a → Q a.block) → Rd (w.setCell ⟨t, 3, none⟩ (.int .i64 z)) A xs := fun A xs hr hA => hr.fr hF (fun _ a ha e => (h.out _ (hA a ha)).1 e)
  refine ⟨?_, hF⟩
  obtain ⟨⟨c, b1, b2⟩, g2, g3, g4, g5, g6, g7⟩ := h
  have e1 : decide (0 ≤ z) = decide (0 ≤ d.fuse) := by rw [decide_eq_true h1, decide_eq_true h0]
  have e2 : max z 0 = z := by omega
  refine ⟨⟨c, ?_, b2⟩, g2.fr hF (fun e => g6 e.symm), g3, fun i hi => (g4 i hi).keep hk (fun _ h => h), ⟨g5.s1, g5.s2, g5.n1, g5.n2, g5.fl, g5.lo, g5.ba, by show -1 ≤ z; omega, h2⟩, g6, g7⟩
  show Blk _ t [_, _, .bool (decide (0 ≤ z)), .int .i64 (max z 0)] _
  rw [e1, e2]; exact b1.set 3 _
theorem rpower08_any (h : RDIs w Q t f cs d) : Calls Tryz.prog 46 #[.pointer (some ⟨t, 0, none⟩)] w fun e w' => e = .returned (.bool (decide (d.burnE = 0))) ∧ RDIs w' Q t f cs d.burnt ∧ Fr (fun x => x = t) w w' ∧ w'.heap.size = w.heap.size := by
  obtain ⟨c, b1, _⟩ := h.blk
  have x2 := b1.cell (j := 2) rfl
  have x3 := b1.cell (j := 3) rfl
  have f3 := b1.frozen 3
  have k1 := h.ok.f1
  have k2 := h.ok.f2
  have HP := hide (fun h0 h1 => h.put_left (z := d.fuse - 1) h0 h1 (by omega))
  have H := hide h
  have hbe : d.burnE = if d.fuse = 0 then 82 else 0 := rfl
  have hbt : d.burnt = if 0 < d.fuse then { d with fuse := d.fuse - 1 } else d := rfl
  rw [hbe, hbt]
  obtain ⟨z, hz⟩ : ∃ z, d.fuse = z := ⟨_, rfl⟩
  rw [hz] at x2 x3 k1 k2 HP ⊢
  clear h b1 hbe hbt
  rcases (show z = -1 ∨ z = 0 ∨ 0 < z by omega) with rfl | rfl | hp
  · go_enter Tryz.func46, Tryz.ntmps46
    go_wp2
    go_ret
    exact ⟨rfl, H.out, Fr.refl _ _, rfl⟩
  · go_enter Tryz.func46, Tryz.ntmps46
    go_wp2
    go_ret
    exact ⟨rfl, H.out, Fr.refl _ _, rfl⟩
  · rw [if_neg (show z ≠ 0 by omega), if_pos hp]
    have q2 : decide ((0 : Int) ≤ z) = true := decide_eq_true (by omega)
    have hm : max z 0 = z := by omega
    rw [q2] at x2
    rw [hm] at x3
    have q0 : (z == 0) = false := by simp; omega
    have hw : IntKind.i64.wrap (z - 1) = z - 1 := by rw [IntKind.wrap_i64]; omega
    obtain ⟨y, hy⟩ : ∃ y, z - 1 = y := ⟨_, rfl⟩
    rw [hy] at hw HP ⊢
    have HPo := hide (HP.out (by omega) (by omega))
    clear HP hm q2 hz
    go_enter Tryz.func46, Tryz.ntmps46
    go_wp2
    go_ret
    exact ⟨rfl, HPo.out.1, HPo.out.2, by simp⟩
theorem rfuse08_any (h : RDIs w Q t f cs d) (n : Int) (hn : n ≤ 9223372036854775807) : Calls Tryz.prog 48 #[.pointer (some ⟨t, 0, none⟩), .int .i64 n] w fun e w' => e = .returned (.tuple #[]) ∧ RDIs w' Q t f cs { d with fuse := fuseI n } ∧ Fr (fun x => x = t) w w' ∧ w'.heap.size = w.heap.size := by
  obtain ⟨c, b1, _⟩ := h.blk
  have x2 := b1.cell (j := 2) rfl
  have x3 := b1.cell (j := 3) rfl
  have f2 := b1.frozen 2
  have f3 := b1.frozen 3
  have hz1 : -1 ≤ fuseI n := by unfold fuseI; split <;> omega
  have hz2 : fuseI n ≤ 9223372036854775807 := by unfold fuseI; split <;> omega
  have e1 : decide (0 ≤ n) = decide (0 ≤ fuseI n) := by
    unfold fuseI; split
    · rfl
    · rw [decide_eq_false (by omega)]; rfl
  have e2 : max n 0 = max (fuseI n) 0 := by unfold fuseI; split <;> omega
  have HP := hide (h.put_fuse hz1 hz2 e1 e2)
  have x3' : ∀ u, (w.setCell ⟨t, 2, none⟩ u).cell? ⟨t, 3, none⟩ = some (.int .i64 (max d.fuse 0)) := fun u => (b1.set 2 u).cell (j := 3) rfl
  have f3' : ∀ u, (w.setCell ⟨t, 2, none⟩ u).frozen? ⟨t, 3, none⟩ = false := fun u => (b1.set 2 u).frozen 3
  clear h b1 e1 e2 hz1 hz2
  go_enter Tryz.func48, Tryz.ntmps48
  go_wp2
  refine bodyPost_end (results_none rfl _ _ _) rfl ?_
  exact ⟨rfl, HP.out.1, HP.out.2, by simp⟩
end
end Go.Proofs.YtoaodmidegkolaaGreatDoor
namespace Go.Proofs.YtoaodmidegkolaaGreatDoor
set_option maxRecDepth 20000
open Go.RowKit Go.Px Go.Maps
set_option linter.unusedVariables false
section
variable {w w' : World} {Q Q' X : Nat → Prop} {t f : Nat} {cs cs' : List Value} {d d' : Dk}
theorem tInts08 : SlT Tryz.prog 43 3 1 8 := tInts
/-- A sector's cells: as loads see them. -/
theorem RDIs.at_ (h : RDIs w Q t f cs d) {i : Nat} (hi : i < d.fast.length) : ∃ A n c B m e, w.cell? ⟨f, i * 4, none⟩ = some (.slice A n c) ∧ w.cell? ⟨f, i * 4 + 1, none⟩ = some (.bool (d.loose (i : Int)).isSome) ∧ w.cell? ⟨f, i * 4 + 2, none⟩ = some (.slice B m e) ∧ w.cell? ⟨f, i * 4 + 3, none⟩ = some (.bool (d.bad (i : Int))) ∧
    d.fast[i].length = n ∧ n ≤ c ∧ c ≤ 9223372036854775807 ∧ Rd w A (bys d.fast[i]) ∧ (∀ a, A = some a → Q a.block) ∧ m ≤ e ∧ e ≤ 9223372036854775807 ∧ ∀ b, d.loose (i : Int) = some b → b.length = m ∧ Rd w B (bys b) ∧ ∀ a, B = some a → Q a.block := by
  obtain ⟨A, n, c, B, m, e, h1, h2, h3, h4, r⟩ := h.sec i hi
  exact ⟨A, n, c, B, m, e, h.row.cell h1, h.row.cell h2, h.row.cell h3, h.row.cell h4, r⟩
theorem looseL_upto (d : Dk) : ∀ n, ((List.range (n + 1)).map Int.ofNat).filter (fun i => (d.loose i).isSome) = ((List.range n).map Int.ofNat).filter (fun i => (d.loose i).isSome) ++ (if (d.loose (n : Int)).isSome = true then [(n : Int)] else []) := fun n => by
  rw [List.range_succ, List.map_append, List.filter_append]
  congr 1
  show List.filter (fun i => (d.loose i).isSome) [((n : Nat) : Int)] = _
  cases h : (d.loose (n : Int)).isSome <;> simp [h]
set_option maxHeartbeats 1600000 in
theorem rloose08_any (h : RDIs w Q t f cs d) : Calls Tryz.prog 47 #[.pointer (some ⟨t, 0, none⟩)] w fun e w' => ∃ u, e = .returned u ∧ w'.ownsRow w.heap.size 3 1 u d.looseL.length (ints d.looseL) ∧ Below w.heap.size w w' := by
  obtain ⟨c, b1, _⟩ := h.blk
  have hN := h.ok.n2
  obtain ⟨N, hNe⟩ : ∃ N, d.fast.length = N := ⟨_, rfl⟩
  rw [hNe] at b1 hN
  have hAt : ∀ (W : World), Below w.heap.size w W → ∀ k, k < N → W.cell? ⟨f, k * 4 + 1, none⟩ = some (.bool (d.loose (k : Int)).isSome) := fun W hW k hk => by
    obtain ⟨_, _, _, _, _, _, _, c1, _⟩ := (h.below hW).at_ (i := k) (by omega)
    exact c1
  have HAt := hide hAt
  have HLL := hide (show d.looseL = ((List.range N).map Int.ofNat).filter (fun i => (d.loose i).isSome) from by unfold Dk.looseL; rw [hNe])
  have hup := looseL_upto d
  obtain ⟨G, hG⟩ : ∃ G : Nat → List Int, G = fun n => ((List.range n).map Int.ofNat).filter (fun i => (d.loose i).isSome) := ⟨_, rfl⟩
  have hG1 : ∀ n, G (n + 1) = G n ++ (if (d.loose (n : Int)).isSome = true then [(n : Int)] else []) := by rw [hG]; exact hup
  have hG0 : G 0 = [] := by rw [hG]; rfl
  have hGN : d.looseL = G N := by rw [HLL.out, hG]
  have hGl : ∀ n, (G n).length ≤ n := fun n => by rw [hG]; refine Nat.le_trans (List.length_filter_le _ _) ?_; simp
  rw [hGN]
  have HG1 := hide hG1
  have HG0 := hide hG0
  have HGl := hide hGl
  have B1 := b1
  clear h hNe hAt HLL hup hG hG1 hG0 hGN hGl b1
  go_enter Tryz.func47, Tryz.ntmps47
  go_wp2
  go_loopw [3, 4] (fun u s W => ∃ k : Nat, k ≤ N ∧ s = .int .i64 (k : Int) ∧ Grow w (.slice none 0 0) w.heap.size 3 1 W u (G k).length (ints (G k))) (fun _ s _ => N - (RowKit.intOf s).toNat)
  case atStart => exact ⟨0, by omega, rfl, by rw [HG0.out]; exact Grow.nil _ _ _⟩
  case round =>
    obtain ⟨k, hk, rfl, hGr⟩ := hrel
    have hbw := hGr.all
    have y1 := (B1.below hbw).cell (j := 1) rfl
    by_cases hlt : k < N
    · have c1 := HAt.out wr hbw k hlt
      have hg1 := HG1.out k
      have hgl := HGl.out k
      cases hl : (d.loose (k : Int)).isSome with
      | false =>
        rw [hl] at c1 hg1
        have HB := hide (show G (k + 1) = G k by rw [hg1]; simp)
        clear hl hg1
        go_wp2
        go_roundw
        case rel => exact ⟨k + 1, by omega, by go_num, by rw [HB.out]; exact hGr⟩
        case measure => simp [RowKit.intOf]; omega
      | true =>
        rw [hl] at c1 hg1
        have HB := hide (show G (k + 1) = G k ++ [(k : Int)] by rw [hg1]; simp)
        have HB2 := hide (show (G (k + 1)).length = (G k).length + 1 by rw [HB.out]; simp)
        clear hl hg1
        go_wp2_with (first | (with_reducible refine stop_append rfl ?_) | (with_reducible refine stop_copy rfl ?_) | (with_reducible refine stop_make rfl ?_))
        refine hGr.push rfl rfl rfl tInts rfl rfl rfl (by omega) (by omega) ?_
        intro u' w5 hG5 _
        go_wp2
        go_roundw
        case rel => exact ⟨k + 1, by omega, by go_num, by rw [HB2.out, HB.out, ints_append]; exact hG5⟩
        case measure => simp [RowKit.intOf]; omega
    · have hke : k = N := by omega
      subst hke
      go_wp2
      go_ret
      exact ⟨_, rfl, hGr.owns, hbw⟩
end
end Go.Proofs.YtoaodmidegkolaaGreatDoor
namespace Go.Proofs.YtoaodmidegkolaaGreatDoor
set_option maxRecDepth 20000
open Go.RowKit Go.Px Go.Maps
set_option linter.unusedVariables false
section
variable {w w' : World} {Q Q' X : Nat → Prop} {t f : Nat} {cs cs' : List Value} {d d' : Dk}
theorem rown_f {w w' : World} (hf : Fr (fun x => x = f) w w') : Fr (ROwn t f) w w' := hf.mono (fun x hx => .inr hx)
theorem rown_t {w w' : World} (hf : Fr (fun x => x = t) w w') : Fr (ROwn t f) w w' := hf.mono (fun x hx => .inl hx)
end
end Go.Proofs.YtoaodmidegkolaaGreatDoor
namespace Go.Proofs.YtoaodmidegkolaaGreatDoor
set_option maxRecDepth 20000
open Go.RowKit Go.Px Go.Maps
set_option linter.unusedVariables false
section
variable {w w' : World} {Q Q' X : Nat → Prop} {t f : Nat} {cs cs' : List Value} {d d' : Dk}
def Dk.put4 (d : Dk) (i : Nat) (b : List UInt8) (o : Option (List UInt8)) (z : Bool) : Dk := ((d.putF i b).putL (i : Int) o).putB (i : Int) z
theorem Dk.put4_ok (ok : d.Ok) {i : Nat} (hi : i < d.fast.length) {b : List UInt8} {o : Option (List UInt8)} (z : Bool) (hb : b.length = d.size) (ho : ∀ x, o = some x → x.length = d.size) : (d.put4 i b o z).Ok := by
  refine ⟨ok.s1, ok.s2, ?_, ?_, fun x hx => ?_, fun x y hx => ?_, fun x hx => ?_, ok.f1, ok.f2⟩
  · show 1 ≤ (d.fast.set i b).length; rw [List.length_set]; exact ok.n1
  · show (d.fast.set i b).length ≤ _; rw [List.length_set]; exact ok.n2
  · rcases List.mem_or_eq_of_mem_set hx with h | rfl
    · exact ok.fl x h
    · exact hb
  · have hx' : (if x = (i : Int) then o else d.loose x) = some y := hx
    show 0 ≤ x ∧ x < ((d.fast.set i b).length : Int) ∧ _
    rw [List.length_set]
    split at hx'
    · rename_i e; subst e; exact ⟨by omega, by omega, ho y hx'⟩
    · exact ok.lo x y hx'
  · have hx' : (if x = (i : Int) then z else d.bad x) = true := hx
    show 0 ≤ x ∧ x < ((d.fast.set i b).length : Int)
    rw [List.length_set]
    split at hx'
    · rename_i e; subst e; exact ⟨by omega, by omega⟩
    · exact ok.ba x hx'
abbrev w4 (w : World) (f i : Nat) (v0 v1 v2 v3 : Value) : World := (((w.setCell ⟨f, i * 4, none⟩ v0).setCell ⟨f, i * 4 + 1, none⟩ v1).setCell ⟨f, i * 4 + 2, none⟩ v2).setCell ⟨f, i * 4 + 3, none⟩ v3
theorem RDIs.put4 (h : RDIs w Q t f cs d) {i : Nat} (hi : i < d.fast.length) {A B : Option Addr} {n c m e : Nat} {b : List UInt8} {o : Option (List UInt8)} {z ol : Bool} (hol : ol = o.isSome) (hb : b.length = d.size) (hbn : b.length = n) (hnc : n ≤ c) (hc : c ≤ 9223372036854775807) (hr : Rd w A (bys b)) (hA : ∀ a, A = some a → Q a.block) (hme : m ≤ e) (he : e ≤ 9223372036854775807) (ho : ∀ x, o = some x → x.length = d.size ∧ x.length = m ∧ Rd w B (bys x) ∧ ∀ a, B = some a → Q a.block) :
    (∃ cs', RDIs (w4 w f i (.slice A n c) (.bool ol) (.slice B m e) (.bool z)) Q t f cs' (d.put4 i b o z)) ∧ Fr (fun x => x = f) w (w4 w f i (.slice A n c) (.bool ol) (.slice B m e) (.bool z)) := by
  subst hol
  have hlen := h.len
  have hF : Fr (fun x => x = f) w (w4 w f i (.slice A n c) (.bool o.isSome) (.slice B m e) (.bool z)) :=
    (((Fr.set (X := fun x => x = f) w ⟨f, i * 4, none⟩ _ rfl).trans (Fr.set (X := fun x => x = f) _ ⟨f, i * 4 + 1, none⟩ _ rfl)).trans (Fr.set (X := fun x => x = f) _ ⟨f, i * 4 + 2, none⟩ _ rfl)).trans (Fr.set (X := fun x => x = f) _ ⟨f, i * 4 + 3, none⟩ _ rfl)
  have hBk := (((h.row.set (i * 4) (.slice A n c)).set (i * 4 + 1) (.bool o.isSome)).set (i * 4 + 2) (.slice B m e)).set (i * 4 + 3) (.bool z)
  have hk : ∀ A xs, Rd w A xs → (∀ a, A = some a → Q a.block) → Rd (w4 w f i (.slice A n c) (.bool o.isSome) (.slice B m e) (.bool z)) A xs := fun A' xs hr hA => by
    refine hr.fr (X := fun x => x = f) ?_ (fun _ a ha e => (h.out _ (hA a ha)).2 e)
    exact (((Fr.set (X := fun x => x = f) w ⟨f, i * 4, none⟩ _ rfl).trans (Fr.set (X := fun x => x = f) _ ⟨f, i * 4 + 1, none⟩ _ rfl)).trans (Fr.set (X := fun x => x = f) _ ⟨f, i * 4 + 2, none⟩ _ rfl)).trans (Fr.set (X := fun x => x = f) _ ⟨f, i * 4 + 3, none⟩ _ rfl)
  have hl2 : (d.put4 i b o z).fast.length = d.fast.length := by show (d.fast.set i b).length = _; rw [List.length_set]
  refine ⟨⟨_, h.upd hi hBk hF (by simp) (fun j hj => by rw [List.getElem?_set_ne (by omega), List.getElem?_set_ne (by omega), List.getElem?_set_ne (by omega), List.getElem?_set_ne (by omega)]) (fun hi' => ?_) rfl hl2 rfl (fun j hj => by show (d.fast.set i b)[j]? = _; rw [List.getElem?_set_ne (fun e => hj e.symm)]) (fun x hx => if_neg hx) (fun x hx => if_neg hx) (Dk.put4_ok h.ok hi z hb (fun x hx => (ho x hx).1))⟩, hF⟩
  have e1 : (d.put4 i b o z).loose (i : Int) = o := if_pos rfl
  have e2 : (d.put4 i b o z).bad (i : Int) = z := if_pos rfl
  have e3 : (d.put4 i b o z).fast[i] = b := by show (d.fast.set i b)[i]'(by rw [List.length_set]; exact hi) = b; rw [List.getElem_set_self]
  rw [e1, e2, e3]
  refine ⟨A, n, c, B, m, e, ?_, ?_, ?_, ?_, hbn, hnc, hc, hr.fr hF (fun _ a ha e => (h.out _ (hA a ha)).2 e), hA, hme, he, fun x hx => ⟨(ho x hx).2.1, (ho x hx).2.2.1.fr hF (fun _ a ha e => (h.out _ ((ho x hx).2.2.2 a ha)).2 e), (ho x hx).2.2.2⟩⟩
  · rw [List.getElem?_set_ne (by omega), List.getElem?_set_ne (by omega), List.getElem?_set_ne (by omega), List.getElem?_set_self (by omega)]
  · rw [List.getElem?_set_ne (by omega), List.getElem?_set_ne (by omega), List.getElem?_set_self (by simp; omega)]
  · rw [List.getElem?_set_ne (by omega), List.getElem?_set_self (by simp; omega)]
  · rw [List.getElem?_set_self (by simp; omega)]
/-- The loose sectors below k. -/
def Dk.lows (d : Dk) (k : Nat) : List Int := ((List.range k).map Int.ofNat).filter fun i => (d.loose i).isSome
theorem Dk.lows_succ (d : Dk) (k : Nat) : d.lows (k + 1) = d.lows k ++ (if (d.loose (k : Int)).isSome = true then [(k : Int)] else []) := looseL_upto d k
theorem Dk.lows_lt (d : Dk) (k : Nat) : ∀ x ∈ d.lows k, 0 ≤ x ∧ x < (k : Int) := fun x hx => by
  obtain ⟨j, hj, rfl⟩ := List.mem_map.1 (List.mem_filter.1 hx).1
  rw [List.mem_range] at hj
  show 0 ≤ ((j : Nat) : Int) ∧ ((j : Nat) : Int) < _
  omega
theorem Dk.fastAll_snoc (d : Dk) (l : List Int) (x : Int) : d.fastAll (l ++ [x]) = (d.fastAll l).fasten x.toNat (((d.fastAll l).loose x).getD []) := by
  unfold Dk.fastAll
  rw [List.foldl_append]; rfl
set_option maxHeartbeats 3200000 in
theorem rbarrier08_any (h : RDIs w Q t f cs d) : Calls Tryz.prog 29 #[.pointer (some ⟨t, 0, none⟩)] w fun e w' => e = .returned (.int .i64 d.burnE) ∧ (∃ cs', RDIs w' Q t f cs' d.barrier) ∧ Fr (ROwn t f) w w' := by
  have hBU := rpower08_any h
  have hlts := h.lts
  rcases d.burnE_two with ⟨h1, h2⟩ | ⟨h1, h2, h3⟩
  · have hba : d.barrier = d.burnt.fastAll (d.burnt.lows d.burnt.fast.length) := if_pos h1
    rw [h1] at hBU ⊢
    rw [hba]
    obtain ⟨d', hd'⟩ : ∃ d', d.burnt = d' := ⟨_, rfl⟩
    rw [hd'] at hBU ⊢
    have hBU' : Calls Tryz.prog 46 #[.pointer (some ⟨t, 0, none⟩)] w fun e w' => e = .returned (.bool true) ∧ RDIs w' Q t f cs d' ∧ Fr (fun x => x = t) w w' ∧ w'.heap.size = w.heap.size := hBU
    obtain ⟨N, hNe⟩ : ∃ N, d'.fast.length = N := ⟨_, rfl⟩
    rw [hNe]
    have HBU := hide hBU'
    have HN := hide hNe
    clear h hBU hBU' h1 h2 hba hd' hNe
    go_enter Tryz.func29, Tryz.ntmps29
    go_wp2_with fail
    refine HBU.out.mono ?_
    rintro x w2 ⟨rfl, hD2, hF2, hz2⟩
    have hN2 := hD2.ok.n2
    rw [HN.out] at hN2
    have hlo := hD2.ok.lo
    have Hlo := hide hlo
    clear hlo HBU
    go_wp2_with fail
    go_loopw [3] (fun s W => ∃ k : Nat, s = .int .i64 (k : Int) ∧ k ≤ N ∧ (∃ cs, RDIs W Q t f cs (d'.fastAll (d'.lows k))) ∧ Fr (ROwn t f) w W) (fun s _ => N - (RowKit.intOf s).toNat)
    case atStart => exact ⟨0, rfl, by omega, ⟨_, hD2⟩, rown_t hF2⟩
    case round =>
      obtain ⟨k, rfl, hkm, ⟨csk, hDk⟩, hFk⟩ := hrel
      have hsame := Dk.fastAll_same (d'.lows k) d'
      have hfl := Dk.fastAll_loose (d'.lows k) d' (fun y hy => (d'.lows_lt k y hy).1) (k : Int)
      rw [if_neg (fun hm => by have := d'.lows_lt k _ hm; omega)] at hfl
      obtain ⟨cb, bb, _⟩ := hDk.blk
      have y1 := bb.cell (j := 1) rfl
      rw [hsame.2.1, HN.out] at y1
      have hsc := d'.lows_succ k
      have hsn := d'.fastAll_snoc (d'.lows k) (k : Int)
      rw [hfl, Int.toNat_natCast] at hsn
      by_cases hlt : k < N
      · have hkl : k < (d'.fastAll (d'.lows k)).fast.length := by rw [hsame.2.1, HN.out]; exact hlt
        obtain ⟨A, n, c, B, m, e, c0, c1, c2, c3, _, _, _, _, _, e1, e2, e3⟩ := hDk.at_ hkl
        rw [hfl] at c1 e3
        have HFk := hide hFk
        clear hFk
        cases hl : d'.loose (k : Int) with
        | none =>
          rw [hl] at c1 hsc
          have hnx := hide (show d'.lows (k + 1) = d'.lows k by rw [hsc]; simp)
          have HDk := hide hDk
          clear hl hsc hsn hDk bb hfl hsame e3
          go_wp2
          go_roundw
          case rel => exact ⟨k + 1, by go_num, by omega, ⟨csk, by rw [hnx.out]; exact HDk.out⟩, HFk.out⟩
          case measure => simp [RowKit.intOf]; omega
        | some bs =>
          rw [hl] at c1 hsc hsn
          obtain ⟨g1, g2, g3⟩ := e3 bs hl
          have hbl := (Hlo.out _ _ hl).2.2
          have hnx : d'.fastAll (d'.lows (k + 1)) = (d'.fastAll (d'.lows k)).put4 k bs none false := by rw [hsc]; simp only [Option.isSome_some, if_true]; exact hsn
          obtain ⟨hP, hPF⟩ := hDk.put4 hkl (o := none) (z := false) (ol := false) rfl (by rw [hbl, hsame.1]) g1 e1 e2 g2 g3 (Nat.zero_le 0) (by omega) (fun x hx => by cases hx) (B := none) (m := 0) (e := 0)
          have hb9 := fun W : World => (Below.refl W.heap.size W).drew
          have HP := hide (show ∃ cs', RDIs (w4 wr f k (.slice B m e) (.bool false) (.slice none 0 0) (.bool false)).drew Q t f cs' (d'.fastAll (d'.lows (k + 1))) from by
            obtain ⟨cs', hP⟩ := hP
            exact ⟨cs', by rw [hnx]; exact hP.below (hb9 _)⟩)
          have HPF := hide (HFk.out.trans (rown_f (t := t) hPF).drew)
          have j0 := hDk.row.frozen (k * 4)
          have j1 := hDk.row.frozen (k * 4 + 1)
          have j2 := hDk.row.frozen (k * 4 + 2)
          have j3 := hDk.row.frozen (k * 4 + 3)
          have y1d : wr.drew.cell? ⟨t, 1, none⟩ = some (.slice (some ⟨f, 0, none⟩) N cb) := y1
          have c2d : wr.drew.cell? ⟨f, k * 4 + 2, none⟩ = some (.slice B m e) := c2
          clear hl hsc hsn hDk bb hfl hsame e3 hnx hP hPF hb9 g1 g2 g3 hbl
          go_wp2_with fail
          go_region
          go_wp2
          go_roundw
          case rel => exact ⟨k + 1, by go_num, by omega, HP.out, HPF.out⟩
          case measure => simp [RowKit.intOf]; omega
      · have hke : k = N := by omega
        subst hke
        have HD := hide (show ∃ cs, RDIs wr Q t f cs (d'.fastAll (d'.lows k)) from ⟨csk, hDk⟩)
        have HF := hide hFk
        clear hDk hFk hsc hsn hfl hsame bb
        go_wp2
        go_ret
        exact ⟨rfl, HD.out, HF.out⟩
  · have hba : d.barrier = d := if_neg (by rw [h1]; decide)
    rw [h1, h3] at hBU
    rw [h1, hba]
    have hBU' : Calls Tryz.prog 46 #[.pointer (some ⟨t, 0, none⟩)] w fun e w' => e = .returned (.bool false) ∧ RDIs w' Q t f cs d ∧ Fr (fun x => x = t) w w' ∧ w'.heap.size = w.heap.size := hBU
    have HBU := hide hBU'
    clear h hBU hBU' h1 h2 h3 hba
    go_enter Tryz.func29, Tryz.ntmps29
    go_wp2_with fail
    refine HBU.out.mono ?_
    rintro x w2 ⟨rfl, hD2, hF2, hz2⟩
    have HD2 := hide (show ∃ cs', RDIs w2 Q t f cs' d from ⟨_, hD2⟩)
    have HF2 := hide (rown_t (f := f) hF2)
    clear hD2 hF2
    go_wp2
    go_ret
    exact ⟨rfl, HD2.out, HF2.out⟩
end
end Go.Proofs.YtoaodmidegkolaaGreatDoor
namespace Go.Proofs.YtoaodmidegkolaaGreatDoor
set_option maxRecDepth 20000
open Go.RowKit Go.Px Go.Maps
set_option linter.unusedVariables false
section
variable {w w' : World} {Q Q' X : Nat → Prop} {t f : Nat} {cs cs' : List Value} {d d' : Dk}
theorem empty_own (W : World) (base : Nat) (hb : base ≤ W.heap.size) : (W.alloc (.cells #[] 5)).ownsRow base 5 1 (.slice (some ⟨W.heap.size, 0, none⟩) 0 0) 0 [] :=
  own_weak (World.ownsRow_made W #[] 0 (Nat.le_refl _) (by unfold maxLen; omega) (by simp)) hb
theorem RDIs.grown {r : Option Nat} (h : RDIs w Q t f cs d) (hg : w.grownBy w' r) (hr : ∀ k, r = some k → k ≠ t ∧ k ≠ f ∧ ¬ Q k) : RDIs w' Q t f cs d :=
  h.fr (X := fun x => r = some x) (Fr.of_grown hg (fun k e => e)) (fun e => (hr _ e).1 rfl) (fun e => (hr _ e).2.1 rfl) (fun b hb e => (hr b e).2.2 hb)
/-- The same, where what the disk holds lies below. -/
theorem RDIs.grownN {r : Option Nat} {B : Nat} (h : RDIs w Q t f cs d) (hg : w.grownBy w' r) (hB : B ≤ w.heap.size) (hr : ∀ k, r = some k → B ≤ k) (ht : t < B) (hf : f < B) (hQ : ∀ b, Q b → b < B) : RDIs w' Q t f cs d :=
  h.grown hg (fun k e => by have := hr k e; exact ⟨by omega, by omega, fun hq => by have := hQ k hq; omega⟩)
theorem RDIs.low (h : RDIs w Q t f cs d) : RDIs w (fun b => Q b ∧ b < w.heap.size) t f cs d := by
  obtain ⟨h1, h2, h3, h4, h5, h6, h7⟩ := h
  refine ⟨h1, h2, h3, fun i hi => ?_, h5, h6, fun b hb => h7 b hb.1⟩
  obtain ⟨A, n, c, B, m, e, g1, g2, g3, g4, g5, g6, g7, g8, g9, g10, g11, g12⟩ := h4 i hi
  have hs := h5.s1
  refine ⟨A, n, c, B, m, e, g1, g2, g3, g4, g5, g6, g7, g8, fun a ha => ⟨g9 a ha, rd_block g8 (fun e => ?_) a ha⟩, g10, g11, fun b hb => ⟨(g12 b hb).1, (g12 b hb).2.1, fun a ha => ⟨(g12 b hb).2.2 a ha, rd_block (g12 b hb).2.1 (fun e => ?_) a ha⟩⟩⟩
  · have h8 := h5.fl _ (List.getElem_mem hi)
    have : d.fast[i] = [] := by simpa [bys] using e
    rw [this] at h8; simp at h8; omega
  · have h8 := (h5.lo _ b hb).2.2
    have : b = [] := by simpa [bys] using e
    rw [this] at h8; simp at h8; omega
end
end Go.Proofs.YtoaodmidegkolaaGreatDoor
namespace Go.Proofs.YtoaodmidegkolaaGreatDoor
set_option maxRecDepth 20000
open Go.RowKit Go.Px Go.Maps
set_option linter.unusedVariables false
section
variable {w w' : World} {Q Q' X : Nat → Prop} {t f : Nat} {cs cs' : List Value} {d d' : Dk}
theorem rread08_out (h : RDIs w Q t f cs d) (i n : Int) (hi1 : -9223372036854775808 ≤ i) (hi2 : i ≤ 9223372036854775807) (hn1 : -9223372036854775808 ≤ n) (hn2 : n ≤ 9223372036854775807) (hno : ¬ d.inR i n) :
    Calls Tryz.prog 63 #[.pointer (some ⟨t, 0, none⟩), .int .i64 i, .int .i64 n] w fun e w' => e = .returned (.tuple #[.slice none 0 0, .int .i64 5]) ∧ w = w' := by
  obtain ⟨cc, b1, _⟩ := h.blk
  have x1 := b1.cell (j := 1) rfl
  have hN := h.ok.n2
  obtain ⟨N, hNe⟩ : ∃ N, d.fast.length = N := ⟨_, rfl⟩
  unfold Dk.inR inN at hno
  rw [hNe] at hN x1 hno
  clear h b1 hNe
  rcases (show i < 0 ∨ (0 ≤ i ∧ n < 0) ∨ (0 ≤ i ∧ 0 ≤ n ∧ (N : Int) < i) ∨ (0 ≤ i ∧ 0 ≤ n ∧ i ≤ (N : Int) ∧ (N : Int) - i < n) by omega) with h1 | ⟨h1, h2⟩ | ⟨h1, h2, h3⟩ | ⟨h1, h2, h3, h4⟩
  · have q1 : decide (i < 0) = true := decide_eq_true h1
    clear hno
    go_enter Tryz.func63, Tryz.ntmps63
    go_wp2
    refine bodyPost_ret (results_tmp2 rfl _ _ _) rfl ?_
    exact ⟨rfl, rfl⟩
  · have q1 : decide (i < 0) = false := decide_eq_false (by omega)
    have q2 : decide (n < 0) = true := decide_eq_true h2
    clear hno
    go_enter Tryz.func63, Tryz.ntmps63
    go_wp2
    refine bodyPost_ret (results_tmp2 rfl _ _ _) rfl ?_
    exact ⟨rfl, rfl⟩
  · have q1 : decide (i < 0) = false := decide_eq_false (by omega)
    have q2 : decide (n < 0) = false := decide_eq_false (by omega)
    have q3 : decide ((N : Int) < i) = true := decide_eq_true h3
    clear hno
    go_enter Tryz.func63, Tryz.ntmps63
    go_wp2
    refine bodyPost_ret (results_tmp2 rfl _ _ _) rfl ?_
    exact ⟨rfl, rfl⟩
  · have q1 : decide (i < 0) = false := decide_eq_false (by omega)
    have q2 : decide (n < 0) = false := decide_eq_false (by omega)
    have q3 : decide ((N : Int) < i) = false := decide_eq_false (by omega)
    have hw : IntKind.i64.wrap ((N : Int) - i) = (N : Int) - i := by rw [IntKind.wrap_i64]; omega
    have q4 : decide ((N : Int) - i < n) = true := decide_eq_true h4
    clear hno
    go_enter Tryz.func63, Tryz.ntmps63
    go_wp2
    refine bodyPost_ret (results_tmp2 rfl _ _ _) rfl ?_
    exact ⟨rfl, rfl⟩
set_option maxHeartbeats 1600000 in
theorem rread08_in (h : RDIs w Q t f cs d) (I K : Nat) (hIK : I + K ≤ d.fast.length) :
    Calls Tryz.prog 63 #[.pointer (some ⟨t, 0, none⟩), .int .i64 (I : Int), .int .i64 (K : Int)] w fun e w' => ∃ A c, e = .returned (.tuple #[.slice A (d.readB (I : Int) (K : Int)).length c, .int .i64 (d.readE (I : Int) (K : Int))]) ∧ (d.readB (I : Int) (K : Int)).length ≤ c ∧ c ≤ 9223372036854775807 ∧ Rd w' A (bys (d.readB (I : Int) (K : Int))) ∧ Below w.heap.size w w' := by
  obtain ⟨cc, b1, _⟩ := h.blk
  have x1 := b1.cell (j := 1) rfl
  have hN := h.ok.n2
  have hs1 := h.ok.s1
  have hs2 := h.ok.s2
  have hin : d.inR (I : Int) (K : Int) := ⟨by omega, by omega, by omega, by omega⟩
  have hE1 : ∀ x : Nat, I ≤ x → x < I + K → d.unread (x : Int) = true → d.readE (I : Int) (K : Int) = 81 := fun x hx1 hx2 hu => by
    unfold Dk.readE
    rw [if_pos hin, if_pos]
    rw [List.any_eq_true]
    exact ⟨x - I, by simp; omega, by rw [show (I : Int) + ((x - I : Nat) : Int) = (x : Int) by omega]; exact hu⟩
  have hE0 : (∀ x : Nat, I ≤ x → x < I + K → d.unread (x : Int) = false) → d.readE (I : Int) (K : Int) = 0 := fun hu => by
    unfold Dk.readE
    rw [if_pos hin, if_neg]
    rw [List.any_eq_true]
    rintro ⟨j, hj, hj2⟩
    simp at hj
    have := hu (I + j) (by omega) (by omega)
    rw [show ((I + j : Nat) : Int) = (I : Int) + (j : Int) by omega, hj2] at this
    cases this
  have hE81 : d.readE (I : Int) (K : Int) = 81 → d.readB (I : Int) (K : Int) = [] := fun he => by unfold Dk.readB; rw [he]; rfl
  have hEB : d.readE (I : Int) (K : Int) = 0 → d.readB (I : Int) (K : Int) = d.flat I K := fun he => by unfold Dk.readB; rw [he, if_pos rfl, Int.toNat_natCast, Int.toNat_natCast]
  have hfl : ∀ k, I ≤ k → k ≤ I + K → (d.flat I (k - I)).length ≤ 536870912 := fun k h1 h2 => by
    rw [Dk.flat_len h.ok (by omega)]
    have : (k - I) * d.size ≤ 65536 * 8192 := Nat.mul_le_mul (by omega) hs2
    omega
  have hnx : ∀ k, I ≤ k → d.flat I (k + 1 - I) = d.flat I (k - I) ++ d.bytesD k := fun k h1 => by
    rw [show k + 1 - I = (k - I) + 1 by omega, Dk.flat_succ, show I + (k - I) = k by omega]
  have hbl : ∀ k, k < d.fast.length → (d.bytesD k).length = d.size := fun k hk => Dk.bytesD_len h.ok hk
  have hAt := fun (W : World) (hW : Below w.heap.size w W) (k : Nat) (hk : k < d.fast.length) => (h.below hW).at_ hk
  have HAt := hide hAt
  have HE1 := hide hE1
  have HE0 := hide hE0
  have HE81 := hide hE81
  have HEB := hide hEB
  have Hfl := hide hfl
  have Hnx := hide hnx
  have Hbl := hide hbl
  have B1 := hide b1
  obtain ⟨M, hM⟩ : ∃ M, I + K = M := ⟨_, rfl⟩
  have hw2 : IntKind.i64.wrap ((I : Int) + (K : Int)) = (M : Int) := by rw [IntKind.wrap_i64]; omega
  rw [hM] at HE1 HE0 Hfl
  have HMe := hide hM
  obtain ⟨N, hNe⟩ : ∃ N, d.fast.length = N := ⟨_, rfl⟩
  have HNe := hide hNe
  rw [hNe] at hN x1 hIK
  have q1 : decide ((I : Int) < 0) = false := decide_eq_false (by omega)
  have q2 : decide ((K : Int) < 0) = false := decide_eq_false (by omega)
  have q3 : decide (N < I) = false := decide_eq_false (by omega)
  have hw : IntKind.i64.wrap ((N : Int) - (I : Int)) = (N : Int) - (I : Int) := by rw [IntKind.wrap_i64]; omega
  have q4 : decide ((N : Int) - (I : Int) < (K : Int)) = false := decide_eq_false (by omega)
  have hIM : I ≤ M := by omega
  have hMN : M ≤ N := by omega
  clear hin hE1 hE0 hE81 hEB hfl hnx hbl hAt b1 hM hNe hIK h
  go_enter Tryz.func63, Tryz.ntmps63
  go_wp2
  go_loopw [8, 9] (fun u s W => ∃ k : Nat, s = .int .i64 (k : Int) ∧ I ≤ k ∧ k ≤ M ∧ Grow w (.slice none 0 0) w.heap.size 5 1 W u (d.flat I (k - I)).length (bys (d.flat I (k - I))) ∧ Hid (∀ x : Nat, I ≤ x → x < k → d.unread (x : Int) = false)) (fun _ s _ => M - (RowKit.intOf s).toNat)
  case atStart => exact ⟨I, rfl, Nat.le_refl _, hIM, by rw [Nat.sub_self]; exact Grow.nil _ _ _, hide (fun x h1 h2 => by omega)⟩
  case round =>
    obtain ⟨k, rfl, hIk, hkM, hG, HJ⟩ := hrel
    have hbw := hG.all
    have y1 := (B1.out.below hbw).cell (j := 1) rfl
    rw [HNe.out] at y1
    by_cases hlt : k < M
    · obtain ⟨A, n, c, B, m, e, c0, c1, c2, c3, g1, g2, g3, g4, _, g5, g6, g7⟩ := HAt.out wr hbw k (by rw [HNe.out]; omega)
      have hkl : k < d.fast.length := by rw [HNe.out]; omega
      have hfk := Hfl.out k hIk hkM
      have hbk := Hbl.out k hkl
      have hu : d.unread (k : Int) = ((d.loose (k : Int)).isNone && d.bad (k : Int)) := rfl
      have hbd : d.bytesD k = (d.loose (k : Int)).getD (d.fast.getD k []) := rfl
      have hfg : d.fast.getD k [] = d.fast[k] := by rw [List.getD_eq_getElem?_getD, List.getElem?_eq_getElem hkl]; rfl
      have HN1 := Hnx.out k hIk
      have hba : Below wr.heap.size wr (wr.alloc (.cells #[.slice A n c, .bool (d.loose (k : Int)).isSome, .slice B m e, .bool (d.bad (k : Int))] 93)) := (Below.refl _ _).alloc (Nat.le_refl _) _
      cases hl : d.loose (k : Int) with
      | some bs =>
        rw [hl] at c1 hu hbd hba
        obtain ⟨r1, r2, _⟩ := g7 bs hl
        have HN1' := hide (show d.flat I (k + 1 - I) = d.flat I (k - I) ++ bs by rw [HN1, hbd]; rfl)
        have Hlen := hide (show (d.flat I (k + 1 - I)).length = (d.flat I (k - I)).length + m by rw [HN1'.out, List.length_append, r1])
        have Hu := hide (show d.unread (k : Int) = false by rw [hu]; rfl)
        have hm8 : m ≤ 8192 := by rw [← r1, show bs = d.bytesD k by rw [hbd]; rfl, hbk]; exact hs2
        clear hl hu hbd g7 HN1 hfg hba
        go_wp2_with (first | (with_reducible refine stop_append rfl ?_) | (with_reducible refine stop_copy rfl ?_) | (with_reducible refine stop_make rfl ?_))
        refine (hG.alloc _).append rfl rfl tBytes rfl rfl (m := m) (news := bys (bs)) (by rw [bys_length]; omega) (r2.alloc _) (bys_one _) (by omega) (by omega) ?_
        intro v2 w2 hG2 _
        rw [← bys_append, show (d.flat I (k - I)).length + m = (d.flat I (k + 1 - I)).length from Hlen.out.symm, ← HN1'.out] at hG2
        have HG2 := hide hG2
        clear hG2
        go_wp2
        go_roundw
        case rel => exact ⟨k + 1, by go_num, by omega, by omega, HG2.out, hide (fun x h1 h2 => by
          rcases Nat.lt_or_ge x k with hxk | hxk
          · exact HJ.out x h1 hxk
          · rw [show x = k by omega]; exact Hu.out)⟩
        case measure => simp [RowKit.intOf]; omega
      | none =>
        rw [hl] at c1 hu hbd hba
        cases hb : d.bad (k : Int) with
        | true =>
          rw [hb] at c3 hu hba
          have he := HE1.out k hIk hlt (by rw [hu]; rfl)
          have HE := hide he
          have HB := hide (HE81.out he)
          have Hbb := hide (hbw.trans (hba.mono hbw.size))
          clear he hl hb hu hbd g7 HN1 hfg hba
          go_wp2
          refine bodyPost_ret (results_tmp2 rfl _ _ _) rfl ?_
          exact ⟨none, 0, by rw [HE.out, HB.out]; rfl, by rw [HB.out]; exact Nat.le_refl _, by omega, by rw [HB.out]; exact Rd.nil, Hbb.out⟩
        | false =>
          rw [hb] at c3 hu hba
          have HN1' := hide (show d.flat I (k + 1 - I) = d.flat I (k - I) ++ d.fast[k] by rw [HN1, hbd]; show _ ++ d.fast.getD k [] = _; rw [hfg])
          have Hlen := hide (show (d.flat I (k + 1 - I)).length = (d.flat I (k - I)).length + n by rw [HN1'.out, List.length_append, g1])
          have Hu := hide (show d.unread (k : Int) = false by rw [hu]; rfl)
          have hm8 : n ≤ 8192 := by rw [← g1, show d.fast[k] = d.bytesD k by rw [hbd]; show _ = d.fast.getD k []; rw [hfg], hbk]; exact hs2
          clear hl hb hu hbd g7 HN1 hfg hba
          go_wp2_with (first | (with_reducible refine stop_append rfl ?_) | (with_reducible refine stop_copy rfl ?_) | (with_reducible refine stop_make rfl ?_))
          refine (hG.alloc _).append rfl rfl tBytes rfl rfl (m := n) (news := bys (d.fast[k])) (by rw [bys_length]; omega) (g4.alloc _) (bys_one _) (by omega) (by omega) ?_
          intro v2 w2 hG2 _
          rw [← bys_append, show (d.flat I (k - I)).length + n = (d.flat I (k + 1 - I)).length from Hlen.out.symm, ← HN1'.out] at hG2
          have HG2 := hide hG2
          clear hG2
          go_wp2
          go_roundw
          case rel => exact ⟨k + 1, by go_num, by omega, by omega, HG2.out, hide (fun x h1 h2 => by
            rcases Nat.lt_or_ge x k with hxk | hxk
            · exact HJ.out x h1 hxk
            · rw [show x = k by omega]; exact Hu.out)⟩
          case measure => simp [RowKit.intOf]; omega
    · have hke : k = M := by omega
      have he := HE0.out (fun x h1 h2 => HJ.out x h1 (by omega))
      have HE := hide he
      have HB := hide (HEB.out he)
      have hkI : k - I = K := by have := HMe.out; omega
      rw [hkI] at hG
      obtain ⟨A, c, rfl, _, hc, hcm, hr, _⟩ := own_out hG.owns
      have HR := hide hr
      unfold maxLen at hcm
      subst hke
      clear he hG hr hkI
      go_wp2
      refine bodyPost_ret (results_tmp2 rfl _ _ _) rfl ?_
      exact ⟨A, c, by rw [HE.out, HB.out]; rfl, by rw [HB.out]; exact hc, by omega, by rw [HB.out]; exact HR.out, hbw⟩
/-- What the document's Read answers, whatever it is asked. -/
theorem rread08_any (h : RDIs w Q t f cs d) (i n : Int) (hi1 : -9223372036854775808 ≤ i) (hi2 : i ≤ 9223372036854775807) (hn1 : -9223372036854775808 ≤ n) (hn2 : n ≤ 9223372036854775807) :
    Calls Tryz.prog 63 #[.pointer (some ⟨t, 0, none⟩), .int .i64 i, .int .i64 n] w fun e w' => ∃ A c, e = .returned (.tuple #[.slice A (d.readB i n).length c, .int .i64 (d.readE i n)]) ∧ (d.readB i n).length ≤ c ∧ c ≤ 9223372036854775807 ∧ Rd w' A (bys (d.readB i n)) ∧ Below w.heap.size w w' := by
  by_cases hin : d.inR i n
  · obtain ⟨g1, g2, g3, g4⟩ := hin
    obtain ⟨I, rfl⟩ : ∃ I : Nat, i = (I : Int) := ⟨i.toNat, by omega⟩
    obtain ⟨K, rfl⟩ : ∃ K : Nat, n = (K : Int) := ⟨n.toNat, by omega⟩
    exact rread08_in h I K (by omega)
  · refine (rread08_out h i n hi1 hi2 hn1 hn2 hin).mono ?_
    rintro e w' ⟨rfl, rfl⟩
    have he : d.readE i n = 5 := if_neg hin
    have hb : d.readB i n = [] := by unfold Dk.readB; rw [he]; rfl
    rw [he, hb]
    exact ⟨none, 0, rfl, Nat.le_refl _, by omega, Rd.nil, Below.refl _ _⟩
end
end Go.Proofs.YtoaodmidegkolaaGreatDoor
namespace Go.Proofs.YtoaodmidegkolaaGreatDoor
set_option maxRecDepth 20000
open Go.RowKit Go.Px Go.Maps
set_option linter.unusedVariables false
section
variable {w w' : World} {Q Q' X : Nat → Prop} {t f : Nat} {cs cs' : List Value} {d d' : Dk}
theorem RDIs.putNew (h : RDIs w Q t f cs d) {i : Nat} (hi : i < d.fast.length) {A : Option Addr} {n c : Nat} {bs : List UInt8} (hB : Blk w' f ((cs.set (i * 4 + 1) (.bool true)).set (i * 4 + 2) (.slice A n c)) 93) (hF : Fr (fun x => x = f) w w') (hb : bs.length = d.size) (hbn : bs.length = n) (hnc : n ≤ c) (hc : c ≤ 9223372036854775807) (hr : Rd w' A (bys bs)) (hA : ∀ a, A = some a → Q a.block) : RDIs w' Q t f ((cs.set (i * 4 + 1) (.bool true)).set (i * 4 + 2) (.slice A n c)) (d.putL (i : Int) (some bs)) := by
  have hlen := h.len
  refine h.upd hi hB hF (by simp) (fun j hj => by rw [List.getElem?_set_ne (by omega), List.getElem?_set_ne (by omega)]) (fun hi' => ?_) rfl rfl rfl (fun j _ => rfl) (fun x hx => if_neg hx) (fun x hx => rfl) ?_
  · rw [show (d.putL (i : Int) (some bs)).loose (i : Int) = some bs from if_pos rfl]
    obtain ⟨A1, n1, c1, B1, m1, e1, g1, g2, g3, g4, g5, g6, g7, g8, g9, _⟩ := h.sec i hi
    refine ⟨A1, n1, c1, A, n, c, ?_, ?_, ?_, ?_, g5, g6, g7, g8.fr hF (fun _ a ha e => (h.out _ (g9 a ha)).2 e), g9, hnc, hc, fun b hb' => by injection hb' with hb'; subst hb'; exact ⟨hbn, hr, hA⟩⟩
    · rw [List.getElem?_set_ne (by omega), List.getElem?_set_ne (by omega)]; exact g1
    · rw [List.getElem?_set_ne (by omega), List.getElem?_set_self (by omega)]; rfl
    · rw [List.getElem?_set_self (by simp; omega)]
    · rw [List.getElem?_set_ne (by omega), List.getElem?_set_ne (by omega)]; exact g4
  · have o := h.ok
    refine ⟨o.s1, o.s2, o.n1, o.n2, o.fl, fun x b hx => ?_, o.ba, o.f1, o.f2⟩
    have hx' : (if x = (i : Int) then some bs else d.loose x) = some b := hx
    split at hx'
    · rename_i e; subst e; injection hx' with hx'; subst hx'; exact ⟨by omega, by show (i : Int) < (d.fast.length : Int); omega, hb⟩
    · exact o.lo x b hx'
set_option maxHeartbeats 3200000 in
theorem rwrite08_ok (h : RDIs w Q t f cs d) (hQ : ∀ b, w.heap.size ≤ b → Q b) (i : Int) (A : Option Addr) (m c : Nat) (b : List UInt8) (hm : b.length = m) (hmc : m ≤ c) (hc : c ≤ 9223372036854775807) (hrb : Rd w A (bys b)) (hA : bys b ≠ [] → ∀ a, A = some a → ¬ ROwn t f a.block) (he : d.writeE i b = 0) :
    Calls Tryz.prog 45 #[.pointer (some ⟨t, 0, none⟩), .int .i64 i, .slice A m c] w fun e w' => e = .returned (.int .i64 0) ∧ (∃ cs', RDIs w' Q t f cs' (d.write i b)) ∧ Fr (ROwn t f) w w' := by
  obtain ⟨cc, b1, _⟩ := h.blk
  have x0 := b1.cell (j := 0) rfl
  have x1 := b1.cell (j := 1) rfl
  have hN := h.ok.n2
  have hs1 := h.ok.s1
  have hs2 := h.ok.s2
  have hBU := fun (W : World) (hW : Below w.heap.size w W) => rpower08_any (h.below hW)
  obtain ⟨hr0, hin, hbe⟩ := Dk.writeE_ok he
  simp only [hbe] at hBU
  have hwr : d.write i b = d.burnt.lay i.toNat b (b.length / d.size) := by unfold Dk.write; rw [if_pos he]
  obtain ⟨hb1, hb2, hb3, hb4⟩ := d.burnt_same
  obtain ⟨g1, g2, g3, g4⟩ := hin
  obtain ⟨I, rfl⟩ : ∃ I : Nat, i = (I : Int) := ⟨i.toNat, by omega⟩
  rw [Int.toNat_natCast] at hwr
  have hlts := h.lts
  obtain ⟨d', hd'⟩ : ∃ d', d.burnt = d' := ⟨_, rfl⟩
  simp only [hd'] at hBU
  rw [hd'] at hwr hb1 hb2
  have hBU' : ∀ W, Below w.heap.size w W → Calls Tryz.prog 46 #[.pointer (some ⟨t, 0, none⟩)] W fun e w' => e = .returned (.bool true) ∧ RDIs w' Q t f cs d' ∧ Fr (fun x => x = t) W w' ∧ w'.heap.size = W.heap.size := hBU
  have HBU := hide hBU'
  obtain ⟨n, hn⟩ : ∃ n, m / d.size = n := ⟨_, rfl⟩
  rw [hm] at hr0 g2 g4 hwr
  rw [hn] at g2 g4 hwr
  rw [hwr]
  have hmn : m = n * d.size := by
    have := Nat.div_add_mod m d.size
    rw [hn, hr0, Nat.mul_comm] at this; omega
  obtain ⟨S, hSe⟩ : ∃ S, d.size = S := ⟨_, rfl⟩
  obtain ⟨N, hNe⟩ : ∃ N, d.fast.length = N := ⟨_, rfl⟩
  have hdS : d'.size = S := by rw [hb1, hSe]
  have hdN : d'.fast.length = N := by rw [hb2, hNe]
  rw [hNe] at g3 g4 hN x1
  rw [hSe] at hs1 hs2 x0 hr0 hn hmn
  have hS0 : (S : Int) ≠ 0 := by omega
  have hrem : ((m : Int).tmod (S : Int)) = 0 := by
    show ((m % S : Nat) : Int) = 0
    rw [hr0]; rfl
  have hquo : ((m : Int).tdiv (S : Int)) = (n : Int) := by
    show ((m / S : Nat) : Int) = _
    rw [hn]
  have hIn : I + n ≤ N := by omega
  have hw0 : IntKind.i64.wrap (n : Int) = (n : Int) := by rw [IntKind.wrap_i64]; omega
  have q1 : decide ((I : Int) < 0) = false := decide_eq_false (by omega)
  have q2 : decide (N < I) = false := decide_eq_false (by omega)
  have hw : IntKind.i64.wrap ((N : Int) - (I : Int)) = (N : Int) - (I : Int) := by rw [IntKind.wrap_i64]; omega
  have q3 : decide ((N : Int) - (I : Int) < (n : Int)) = false := decide_eq_false (by omega)
  have HQ := hide hQ
  have Hm := hide hm
  have Hmn := hide hmn
  have HdS := hide hdS
  have HdN := hide hdN
  have hmb : m ≤ 536870912 := by
    rw [hmn]
    have : n * S ≤ 65536 * 8192 := Nat.mul_le_mul (by omega) hs2
    omega
  have HA := hide hA
  clear h b1 hm hQ hr0 hn hmn hdS hdN hSe hNe he hBU hBU' hwr hb1 hb2 hb3 hb4 hbe hd' g1 g2 g3 g4 hA
  go_enter Tryz.func45, Tryz.ntmps45
  go_wp2_with fail
  go_quiet (fail)
  have hbq : Below w.heap.size w (w.drewN nq) := ⟨rfl, rfl, rfl, Nat.le_refl _, fun _ _ => rfl⟩
  obtain ⟨wq, hwq⟩ : ∃ y, w.drewN nq = y := ⟨_, rfl⟩
  rw [hwq] at hbq ⊢
  have HBQ := hide (HBU.out wq hbq)
  clear HBU hwq
  go_wp2_with fail
  refine HBQ.out.mono ?_
  rintro x w2 ⟨rfl, hD2, hF2, hz2⟩
  have hF02 : Fr (ROwn t f) w w2 := (Fr.of_below hbq).trans (rown_t hF2)
  have hr2 : Rd w2 A (bys b) := hrb.fr hF02 (fun hne a ha => HA.out hne a ha)
  clear HBQ hF2
  go_wp2_with fail
  go_loopw [7] (fun s W => ∃ p : Nat, s = .int .i64 (p : Int) ∧ p ≤ n ∧ (∃ cs, RDIs W Q t f cs (d'.lay I b p)) ∧ Fr (ROwn t f) w W ∧ Rd W A (bys b)) (fun s _ => n - (RowKit.intOf s).toNat)
  case atStart => exact ⟨0, rfl, by omega, ⟨_, hD2⟩, hF02, hr2⟩
  case round =>
    obtain ⟨p, rfl, hpn, ⟨csp, hDp⟩, hFp, hrp⟩ := hrel
    obtain ⟨l1, l2, l3, l4⟩ := d'.lay_same I b p
    obtain ⟨cp, bp, _⟩ := hDp.blk
    have y0 := bp.cell (j := 0) rfl
    have y1 := bp.cell (j := 1) rfl
    rw [l1, HdS.out] at y0
    rw [l2, HdN.out] at y1
    obtain ⟨a, ha⟩ : ∃ a, p * S = a := ⟨_, rfl⟩
    have hw5 : IntKind.i64.wrap ((p : Int) * (S : Int)) = (a : Int) := by
      have : p * S ≤ n * S := Nat.mul_le_mul_right _ hpn
      rw [← Int.natCast_mul, ha, IntKind.wrap_i64]
      have := Hmn.out
      omega
    by_cases hlp : p < n
    · obtain ⟨a2, ha2⟩ : ∃ a2, (p + 1) * S = a2 := ⟨_, rfl⟩
      have haS : a2 = a + S := by rw [← ha, ← ha2, Nat.succ_mul]
      have ham : a2 ≤ m := by rw [← ha2, Hmn.out]; exact Nat.mul_le_mul_right _ hlp
      have ham' : a < m := by omega
      have haa : a ≤ a2 := by omega
      have hac : a2 ≤ c := by omega
      have hw6 : IntKind.i64.wrap (((p : Int) + 1) * (S : Int)) = (a2 : Int) := by rw [show ((p : Int) + 1) = ((p + 1 : Nat) : Int) by omega, ← Int.natCast_mul, ha2, IntKind.wrap_i64]; omega
      obtain ⟨x, hx⟩ : ∃ x, I + p = x := ⟨_, rfl⟩
      have hw8 : IntKind.i64.wrap ((I : Int) + (p : Int)) = (x : Int) := by rw [IntKind.wrap_i64]; omega
      have hxN : x < N := by omega
      have hxd : x < (d'.lay I b p).fast.length := by rw [l2, HdN.out]; exact hxN
      obtain ⟨_, _, _, B0, m0, e0, p0, p1, p2, p3, _⟩ := hDp.at_ hxd
      have hsub : a2 - a = S := by omega
      have Hsub := hide hsub
      have HaS := hide haS
      have Ha := hide ha
      have Ha2 := hide ha2
      have Hx := hide hx
      have j1 := hDp.row.frozen (x * 4 + 1)
      -- the first store
      obtain ⟨w3, hw3⟩ : ∃ y, wr.setCell ⟨f, x * 4 + 1, none⟩ (.bool true) = y := ⟨_, rfl⟩
      have B3 : Blk w3 f (csp.set (x * 4 + 1) (.bool true)) 93 := by rw [← hw3]; exact hDp.row.set (x * 4 + 1) (.bool true)
      have F3 : Fr (fun y => y = f) wr w3 := by rw [← hw3]; exact Fr.set (X := fun y => y = f) wr ⟨f, x * 4 + 1, none⟩ _ rfl
      have hz3 : w3.heap.size = wr.heap.size := by rw [← hw3]; simp
      have t0 := F3.cell y0 (show ¬ t = f from hDp.ne)
      have t1 := F3.cell y1 (show ¬ t = f from hDp.ne)
      have hr3 : Rd w3 A (bys b) := hrp.fr F3 (fun hne a ha e => HA.out hne a ha (.inr e))
      have Hw3 := hide hw3
      have HDp := hide hDp
      have HFp := hide hFp
      have HZ3 := hide hz3
      clear hz3 haS hsub ha ha2 hx hw3 hDp bp hFp
      go_wp2_with fail
      rw [Hw3.out]
      have hS0 : w3.drew.cell? ⟨t, 0, none⟩ = some (.int .i64 (S : Int)) ∧ w3.drew.cell? ⟨t, 1, none⟩ = some (.slice (some ⟨f, 0, none⟩) N cp) := ⟨t0, t1⟩
      refine wp_region_held_drew (S := fun Z => Z.cell? ⟨t, 0, none⟩ = some (.int .i64 (S : Int)) ∧ Z.cell? ⟨t, 1, none⟩ = some (.slice (some ⟨f, 0, none⟩) N cp)) (by kernel_rfl) hS0 (fun _ => ?_)
      refine wpAnyH_take (fuel := 26) (i := 0) (v := .pointer (some ⟨t, 0, none⟩)) rfl (by kernel_rfl) (by kernel_rfl) (by kernel_rfl) (fun _ _ _ h => h) (Or.inl ⟨by rfl, fun Z hZ => ?_⟩) hS0 ?_
      · obtain ⟨z1, z2⟩ := hZ
        go_simp
      refine wpAnyH_take (i := 1) (v := .pointer (some ⟨t, 0, none⟩)) rfl (by kernel_rfl) (by kernel_rfl) (by kernel_rfl) (fun _ _ _ h => h) (Or.inl ⟨by rfl, fun Z hZ => ?_⟩) hS0 ?_
      · obtain ⟨z1, z2⟩ := hZ
        go_simp
      refine wpAnyH_take (i := 2) (v := .pointer (some ⟨t, 1, none⟩)) rfl (by kernel_rfl) (by kernel_rfl) (by kernel_rfl) (fun _ _ _ h => h) (Or.inl ⟨by rfl, fun Z hZ => ?_⟩) hS0 ?_
      · obtain ⟨z1, z2⟩ := hZ
        go_simp
      refine wpAnyH_take (i := 3) (v := .slice (some ⟨f, 0, none⟩) N cp) rfl (by kernel_rfl) (by kernel_rfl) (by kernel_rfl) (fun _ _ _ h => h) (Or.inl ⟨by rfl, fun Z hZ => ?_⟩) hS0 ?_
      · obtain ⟨z1, z2⟩ := hZ
        go_simp
      refine wpAnyH_take (i := 4) (v := .int .i64 (I : Int)) rfl (by kernel_rfl) (by kernel_rfl) (by kernel_rfl) (fun _ _ _ h => h) (Or.inl ⟨by rfl, fun Z hZ => ?_⟩) hS0 ?_
      · obtain ⟨z1, z2⟩ := hZ
        go_simp
      refine wpAnyH_take (i := 5) (v := .int .i64 (p : Int)) rfl (by kernel_rfl) (by kernel_rfl) (by kernel_rfl) (fun _ _ _ h => h) (Or.inl ⟨by rfl, fun Z hZ => ?_⟩) hS0 ?_
      · obtain ⟨z1, z2⟩ := hZ
        go_simp
      refine wpAnyH_take (i := 6) (v := .int .i64 (x : Int)) rfl (by kernel_rfl) (by kernel_rfl) (by kernel_rfl) (fun _ _ _ h => h) (Or.inl ⟨by rfl, fun Z hZ => ?_⟩) hS0 ?_
      · obtain ⟨z1, z2⟩ := hZ
        go_simp
      refine wpAnyH_take (i := 8) (v := .slice A m c) rfl (by kernel_rfl) (by kernel_rfl) (by kernel_rfl) (fun _ _ _ h => h) (Or.inl ⟨by rfl, fun Z hZ => ?_⟩) hS0 ?_
      · obtain ⟨z1, z2⟩ := hZ
        go_simp
      refine wpAnyH_take (i := 9) (v := .int .i64 (p : Int)) rfl (by kernel_rfl) (by kernel_rfl) (by kernel_rfl) (fun _ _ _ h => h) (Or.inl ⟨by rfl, fun Z hZ => ?_⟩) hS0 ?_
      · obtain ⟨z1, z2⟩ := hZ
        go_simp
      refine wpAnyH_take (i := 10) (v := .pointer (some ⟨t, 0, none⟩)) rfl (by kernel_rfl) (by kernel_rfl) (by kernel_rfl) (fun _ _ _ h => h) (Or.inl ⟨by rfl, fun Z hZ => ?_⟩) hS0 ?_
      · obtain ⟨z1, z2⟩ := hZ
        go_simp
      refine wpAnyH_take (i := 11) (v := .pointer (some ⟨t, 0, none⟩)) rfl (by kernel_rfl) (by kernel_rfl) (by kernel_rfl) (fun _ _ _ h => h) (Or.inl ⟨by rfl, fun Z hZ => ?_⟩) hS0 ?_
      · obtain ⟨z1, z2⟩ := hZ
        go_simp
      refine wpAnyH_take (i := 12) (v := .pointer (some ⟨t, 0, none⟩)) rfl (by kernel_rfl) (by kernel_rfl) (by kernel_rfl) (fun _ _ _ h => h) (Or.inl ⟨by rfl, fun Z hZ => ?_⟩) hS0 ?_
      · obtain ⟨z1, z2⟩ := hZ
        go_simp
      refine wpAnyH_take (i := 13) (v := .int .i64 (S : Int)) rfl (by kernel_rfl) (by kernel_rfl) (by kernel_rfl) (fun _ _ _ h => h) (Or.inl ⟨by rfl, fun Z hZ => ?_⟩) hS0 ?_
      · obtain ⟨z1, z2⟩ := hZ
        go_simp
      refine wpAnyH_take (i := 14) (v := .int .i64 (a : Int)) rfl (by kernel_rfl) (by kernel_rfl) (by kernel_rfl) (fun _ _ _ h => h) (Or.inl ⟨by rfl, fun Z hZ => ?_⟩) hS0 ?_
      · obtain ⟨z1, z2⟩ := hZ
        go_simp
      refine wpAnyH_take (i := 15) (v := .int .i64 (p : Int)) rfl (by kernel_rfl) (by kernel_rfl) (by kernel_rfl) (fun _ _ _ h => h) (Or.inl ⟨by rfl, fun Z hZ => ?_⟩) hS0 ?_
      · obtain ⟨z1, z2⟩ := hZ
        go_simp
      refine wpAnyH_take (i := 16) (v := .int .i64 ((p : Int) + 1)) rfl (by kernel_rfl) (by kernel_rfl) (by kernel_rfl) (fun _ _ _ h => h) (Or.inl ⟨by rfl, fun Z hZ => ?_⟩) hS0 ?_
      · obtain ⟨z1, z2⟩ := hZ
        go_simp
        rw [IntKind.wrap_i64]; omega
      refine wpAnyH_take (i := 17) (v := .pointer (some ⟨t, 0, none⟩)) rfl (by kernel_rfl) (by kernel_rfl) (by kernel_rfl) (fun _ _ _ h => h) (Or.inl ⟨by rfl, fun Z hZ => ?_⟩) hS0 ?_
      · obtain ⟨z1, z2⟩ := hZ
        go_simp
      refine wpAnyH_take (i := 18) (v := .pointer (some ⟨t, 0, none⟩)) rfl (by kernel_rfl) (by kernel_rfl) (by kernel_rfl) (fun _ _ _ h => h) (Or.inl ⟨by rfl, fun Z hZ => ?_⟩) hS0 ?_
      · obtain ⟨z1, z2⟩ := hZ
        go_simp
      refine wpAnyH_take (i := 19) (v := .pointer (some ⟨t, 0, none⟩)) rfl (by kernel_rfl) (by kernel_rfl) (by kernel_rfl) (fun _ _ _ h => h) (Or.inl ⟨by rfl, fun Z hZ => ?_⟩) hS0 ?_
      · obtain ⟨z1, z2⟩ := hZ
        go_simp
      refine wpAnyH_take (i := 20) (v := .int .i64 (S : Int)) rfl (by kernel_rfl) (by kernel_rfl) (by kernel_rfl) (fun _ _ _ h => h) (Or.inl ⟨by rfl, fun Z hZ => ?_⟩) hS0 ?_
      · obtain ⟨z1, z2⟩ := hZ
        go_simp
      refine wpAnyH_take (i := 21) (v := .int .i64 (a2 : Int)) rfl (by kernel_rfl) (by kernel_rfl) (by kernel_rfl) (fun _ _ _ h => h) (Or.inl ⟨by rfl, fun Z hZ => ?_⟩) hS0 ?_
      · obtain ⟨z1, z2⟩ := hZ
        go_simp
      refine wpAnyH_take (i := 22) (v := .slice (cutA A c a 1) (a2 - a) (c - a)) rfl (by kernel_rfl) (by kernel_rfl) (by kernel_rfl) (fun _ _ _ h => h) (Or.inl ⟨by rfl, fun Z hZ => ?_⟩) hS0 ?_
      · obtain ⟨z1, z2⟩ := hZ
        go_simp
      obtain ⟨wd, hwd⟩ : ∃ y, w3.drew = y := ⟨_, rfl⟩
      have hdd : Below w3.heap.size w3 wd := by rw [← hwd]; exact (Below.refl _ _).drew
      have hzd : wd.heap.size = w3.heap.size := by rw [← hwd]; rfl
      have hbe : Below w3.heap.size w3 (wd.alloc (.cells #[] 5)) := hdd.alloc (by omega) _
      have hcl : ∀ Z, Below w3.heap.size w3 Z → (Z.cell? ⟨t, 0, none⟩ = some (.int .i64 (S : Int)) ∧ Z.cell? ⟨t, 1, none⟩ = some (.slice (some ⟨f, 0, none⟩) N cp)) := fun Z hZ => ⟨below_cell08 hZ t0, below_cell08 hZ t1⟩
      have hpl : Rd w3 (cutA A c a 1) (bys (secB S b p)) := by
        have h1 := hr3.cutA (n := m) (k := a) (cap := c) (by rw [bys_length, Hm.out]; exact Nat.le_refl _) (by omega) hmc
        have h2 := h1.take S
        unfold secB
        rw [Ha.out, bys_take, bys_drop]
        exact h2
      have hsl : (secB S b p).length = S := secB_len (by rw [Ha2.out, Hm.out]; exact ham)
      have hE := empty_own wd w3.heap.size (by omega)
      rw [hzd] at hE
      have HSe := hcl _ hbe
      have Hwd := hide hwd
      rw [hwd]
      clear hwd
      refine all_one (fuel := 4) (i := 7) (by kernel_rfl) rfl rfl (fun Kk hK => ?_)
      go_simp
      refine hK _ _ ⟨HSe, ?_⟩
      clear hK Kk
      refine all_one (fuel := 3) (i := 23) (by kernel_rfl) rfl rfl (fun Kk hK => ?_)
      refine oper_own rfl tBytes (base := w3.heap.size) (e := 5) (by rfl) hE (A := cutA A c a 1) (m := a2 - a) (c := c - a) (by rfl) (by rw [bys_length, hsl, Hsub.out, Nat.mul_one]) (hpl.below hbe) (bys_one _) (by rw [Hsub.out]; omega) (by rw [Hsub.out]; omega) (by simp; omega) ?_
      intro v2 w5 hO2 hg2 hv2
      rw [Nat.zero_add, List.nil_append, Hsub.out] at hO2
      have hb5 : Below w3.heap.size w3 w5 := hbe.grown hg2 (by simp; omega) (fun k hk => by simp [Value.ownBlock] at hk; omega)
      have HS5 := hcl _ hb5
      obtain ⟨A4, c4, rfl, _, hc4, hcm4, hr4, ha4⟩ := own_out hO2
      refine hK _ _ ⟨HS5, ?_⟩
      clear hK Kk
      have hxd' : x < (d'.lay I b p).fast.length := hxd
      have hB5 : Blk w5 f (csp.set (x * 4 + 1) (.bool true)) 93 := B3.below hb5
      have hl4 := HDp.out.len
      have hN4 : x * 4 + 2 < csp.length := by omega
      obtain ⟨B9, m9, e9, s2⟩ : ∃ B9 m9 e9, csp[x * 4 + 2]? = some (.slice B9 m9 e9) := by
        obtain ⟨_, _, _, B9, m9, e9, _, _, s2, _⟩ := HDp.out.sec x hxd
        exact ⟨B9, m9, e9, s2⟩
      have z2 : w5.cell? ⟨f, x * 4 + 2, none⟩ = some (.slice B9 m9 e9) := hB5.cell (by rw [List.getElem?_set_ne (by omega)]; exact s2)
      have jz := hB5.frozen (x * 4 + 2)
      obtain ⟨w6, hw6⟩ : ∃ y, w5.setCell ⟨f, x * 4 + 2, none⟩ (.slice A4 S c4) = y := ⟨_, rfl⟩
      have hB6 : Blk w6 f ((csp.set (x * 4 + 1) (.bool true)).set (x * 4 + 2) (.slice A4 S c4)) 93 := by rw [← hw6]; exact hB5.set (x * 4 + 2) (.slice A4 S c4)
      have hF56 : Fr (fun y => y = f) w5 w6 := by rw [← hw6]; exact Fr.set (X := fun y => y = f) w5 ⟨f, x * 4 + 2, none⟩ _ rfl
      have hF6 : Fr (fun y => y = f) wr w6 := (F3.trans (Fr.of_below hb5)).trans hF56
      have hr6 : Rd w6 A4 (bys (secB S b p)) := hr4.fr hF56 (fun _ a ha e => by have := (ha4 a ha).1; have := HDp.out.lts.2; have := HZ3.out; omega)
      have hput := HDp.out.putNew hxd hB6 hF6 (by rw [hsl, (d'.lay_same I b p).1, HdS.out]) hsl hc4 (by unfold maxLen at hcm4; omega) hr6 (fun a ha => HQ.out _ (by have := (ha4 a ha).1; have := HZ3.out; have := HFp.out.size; omega))
      have hput' : RDIs w6 Q t f ((csp.set (x * 4 + 1) (.bool true)).set (x * 4 + 2) (.slice A4 S c4)) (d'.lay I b (p + 1)) := by
        show RDIs _ _ _ _ _ ((d'.lay I b p).putL ((I + p : Nat) : Int) (some (secB d'.size b p)))
        rw [Hx.out, HdS.out]; exact hput
      have HPU := hide (show ∃ cs, RDIs w6 Q t f cs (d'.lay I b (p + 1)) from ⟨_, hput'⟩)
      have HFU := hide (HFp.out.trans (rown_f (t := t) hF6))
      have hrp6 : Rd w6 A (bys b) := (hr3.below hb5).fr hF56 (fun hne a ha e => HA.out hne a ha (.inr e))
      have HRU := hide hrp6
      have hne : t ≠ f := HDp.out.ne
      have HS6 : (w6.cell? ⟨t, 0, none⟩ = some (.int .i64 (S : Int)) ∧ w6.cell? ⟨t, 1, none⟩ = some (.slice (some ⟨f, 0, none⟩) N cp)) := ⟨hF56.cell HS5.1 hne, hF56.cell HS5.2 hne⟩
      have Hw6 := hide hw6
      clear hput hput' hF6 hF56 hB6 hB5 hr6 hrp6 hr4 ha4 hv2 hg2 hO2 hE hw6
      refine all_one (fuel := 2) (i := 24) (by kernel_rfl) rfl rfl (fun Kk hK => ?_)
      go_simp
      refine hK _ _ ⟨HS5, ?_⟩
      clear hK Kk
      refine all_one (fuel := 1) (i := 25) (by kernel_rfl) rfl rfl (fun Kk hK => ?_)
      go_simp
      refine hK _ _ ⟨HS5, ?_⟩
      clear hK Kk
      refine all_one (fuel := 0) (i := 26) (by kernel_rfl) rfl rfl (fun Kk hK => ?_)
      go_simp
      rw [Hw6.out]
      refine hK _ _ ⟨HS6, ?_⟩
      clear hK Kk
      refine wpAnyH_done (by kernel_rfl) ?_ _
      go_wp2
      go_roundw
      case rel => exact ⟨p + 1, by go_num, by omega, HPU.out, HFU.out, HRU.out⟩
      case measure => simp [RowKit.intOf]; omega
    · have hpe : p = n := by omega
      subst hpe
      have ham : a = m := by rw [← ha, Hmn.out]
      have HD := hide (show ∃ cs', RDIs wr Q t f cs' (d'.lay I b p) from ⟨_, hDp⟩)
      have HF := hide hFp
      have q9 : decide ((a : Int) < (m : Int)) = false := decide_eq_false (by omega)
      clear hDp hFp bp
      go_wp2
      go_ret
      exact ⟨rfl, HD.out, HF.out⟩
end
end Go.Proofs.YtoaodmidegkolaaGreatDoor
namespace Go.Proofs.YtoaodmidegkolaaGreatDoor
set_option maxRecDepth 20000
open Go.RowKit Go.Px Go.Maps
set_option linter.unusedVariables false
section
variable {w w' : World} {Q Q' X : Nat → Prop} {t f : Nat} {cs cs' : List Value} {d d' : Dk}
set_option maxHeartbeats 1600000 in
theorem rwrite08_bad (h : RDIs w Q t f cs d) (i : Int) (A : Option Addr) (m c : Nat) (b : List UInt8) (hi1 : -9223372036854775808 ≤ i) (hi2 : i ≤ 9223372036854775807) (hm : b.length = m) (hmc : m ≤ c) (hc : c ≤ 9223372036854775807) (he : d.writeE i b ≠ 0) :
    Calls Tryz.prog 45 #[.pointer (some ⟨t, 0, none⟩), .int .i64 i, .slice A m c] w fun e w' => e = .returned (.int .i64 (d.writeE i b)) ∧ (∃ cs', RDIs w' Q t f cs' d) ∧ Fr (ROwn t f) w w' := by
  obtain ⟨cc, b1, _⟩ := h.blk
  have x0 := b1.cell (j := 0) rfl
  have x1 := b1.cell (j := 1) rfl
  have hN := h.ok.n2
  have hs1 := h.ok.s1
  have hBU := fun (W : World) (hW : Below w.heap.size w W) => rpower08_any (h.below hW)
  have hwe : d.writeE i b = if m % d.size ≠ 0 then 1 else if d.inR i ((m / d.size : Nat) : Int) then d.burnE else 5 := by unfold Dk.writeE; rw [hm]
  have hbe : d.burnE ≠ 0 → d.burnE = 82 ∧ d.burnt = d := fun hb => by
    unfold Dk.burnE at hb
    by_cases h0 : d.fuse = 0
    · exact ⟨by unfold Dk.burnE; rw [if_pos h0], by unfold Dk.burnt; rw [if_neg (by omega)]⟩
    · rw [if_neg h0] at hb; exact absurd rfl hb
  have H := hide h
  have HWE := hide hwe
  unfold Dk.inR at hwe
  obtain ⟨S, hSe⟩ : ∃ S, d.size = S := ⟨_, rfl⟩
  obtain ⟨N, hNe⟩ : ∃ N, d.fast.length = N := ⟨_, rfl⟩
  rw [hNe] at hwe hN x1
  rw [hSe] at hwe hs1 x0
  have hS0 : (S : Int) ≠ 0 := by omega
  have hrem : ((m : Int).tmod (S : Int)) = ((m % S : Nat) : Int) := rfl
  have hquo : ((m : Int).tdiv (S : Int)) = ((m / S : Nat) : Int) := rfl
  have hdm : m / S ≤ m := Nat.div_le_self _ _
  obtain ⟨r, hr⟩ : ∃ r, m % S = r := ⟨_, rfl⟩
  obtain ⟨n, hn⟩ : ∃ n, m / S = n := ⟨_, rfl⟩
  have hwr : IntKind.i64.wrap (n : Int) = (n : Int) := by rw [IntKind.wrap_i64]; omega
  rw [hr] at hwe hrem
  rw [hn] at hwe hquo hdm
  obtain ⟨be, hbee⟩ : ∃ be, d.burnE = be := ⟨_, rfl⟩
  rw [hbee] at hwe hbe
  simp only [hbee] at hBU
  have HBU := hide hBU
  rw [hwe] at he ⊢
  have Hbe := hide hbe
  clear h b1 hm hSe hNe hr hn hbee hbe hwe hBU
  by_cases h0 : r = 0
  · subst h0
    rw [if_neg (by simp)] at he ⊢
    have hwN : ∀ z : Int, 0 ≤ z → z ≤ (N : Int) → IntKind.i64.wrap ((N : Int) - z) = (N : Int) - z := fun z h1 h2 => by rw [IntKind.wrap_i64]; omega
    rcases (show i < 0 ∨ (0 ≤ i ∧ (N : Int) < i) ∨ (0 ≤ i ∧ i ≤ (N : Int) ∧ (N : Int) - i < (n : Int)) ∨ (0 ≤ i ∧ i ≤ (N : Int) ∧ (n : Int) ≤ (N : Int) - i) by omega) with h1 | ⟨h1, h2⟩ | ⟨h1, h2, h3⟩ | ⟨h1, h2, h3⟩
    · have q1 : decide (i < 0) = true := decide_eq_true h1
      rw [if_neg (fun hh => by unfold inN at hh; omega)]
      clear hwN he
      go_enter Tryz.func45, Tryz.ntmps45
      go_wp2_with fail
      go_quiet (fail)
      have hbq : Below w.heap.size w (w.drewN nq) := ⟨rfl, rfl, rfl, Nat.le_refl _, fun _ _ => rfl⟩
      go_wp2
      go_ret
      exact ⟨rfl, ⟨_, H.out.below hbq⟩, Fr.of_below hbq⟩
    · have q1 : decide (i < 0) = false := decide_eq_false (by omega)
      have q2 : decide ((N : Int) < i) = true := decide_eq_true h2
      rw [if_neg (fun hh => by unfold inN at hh; omega)]
      clear hwN he
      go_enter Tryz.func45, Tryz.ntmps45
      go_wp2_with fail
      go_quiet (fail)
      have hbq : Below w.heap.size w (w.drewN nq) := ⟨rfl, rfl, rfl, Nat.le_refl _, fun _ _ => rfl⟩
      go_wp2
      go_ret
      exact ⟨rfl, ⟨_, H.out.below hbq⟩, Fr.of_below hbq⟩
    · have q1 : decide (i < 0) = false := decide_eq_false (by omega)
      have q2 : decide ((N : Int) < i) = false := decide_eq_false (by omega)
      have q3 : decide ((N : Int) - i < (n : Int)) = true := decide_eq_true h3
      have hw := hwN i h1 h2
      rw [if_neg (fun hh => by unfold inN at hh; omega)]
      clear hwN he
      go_enter Tryz.func45, Tryz.ntmps45
      go_wp2_with fail
      go_quiet (fail)
      have hbq : Below w.heap.size w (w.drewN nq) := ⟨rfl, rfl, rfl, Nat.le_refl _, fun _ _ => rfl⟩
      go_wp2
      go_ret
      exact ⟨rfl, ⟨_, H.out.below hbq⟩, Fr.of_below hbq⟩
    · have q1 : decide (i < 0) = false := decide_eq_false (by omega)
      have q2 : decide ((N : Int) < i) = false := decide_eq_false (by omega)
      have q3 : decide ((N : Int) - i < (n : Int)) = false := decide_eq_false (by omega)
      have hw := hwN i h1 h2
      rw [if_pos (show inN N i (n : Int) from ⟨by omega, by omega, by omega, by omega⟩)] at he ⊢
      obtain ⟨rfl, hbt⟩ := Hbe.out he
      have Hbt := hide hbt
      clear hwN he hbt
      go_enter Tryz.func45, Tryz.ntmps45
      have HBU' := hide (show ∀ W, Below w.heap.size w W → Calls Tryz.prog 46 #[.pointer (some ⟨t, 0, none⟩)] W fun e w' => e = .returned (.bool false) ∧ RDIs w' Q t f cs d.burnt ∧ Fr (fun x => x = t) W w' ∧ w'.heap.size = W.heap.size from HBU.out)
      clear HBU
      go_wp2_with fail
      go_quiet (fail)
      have hbq : Below w.heap.size w (w.drewN nq) := ⟨rfl, rfl, rfl, Nat.le_refl _, fun _ _ => rfl⟩
      have HB3 := hide (HBU'.out _ hbq)
      go_wp2_with fail
      refine HB3.out.mono ?_
      rintro x w2 ⟨rfl, hD2, hF2, _⟩
      rw [Hbt.out] at hD2
      have HD2 := hide hD2
      clear hD2
      go_wp2
      go_ret
      exact ⟨rfl, ⟨_, HD2.out⟩, (Fr.of_below hbq).trans (rown_t hF2)⟩
  · rw [if_pos h0]
    have q1 : ((r : Int) != 0) = true := by simp; omega
    clear he
    go_enter Tryz.func45, Tryz.ntmps45
    go_wp2
    go_ret
    exact ⟨rfl, ⟨_, H.out⟩, Fr.refl _ _⟩
theorem rwrite08_any (h : RDIs w Q t f cs d) (hQ : ∀ b, w.heap.size ≤ b → Q b) (i : Int) (A : Option Addr) (m c : Nat) (b : List UInt8) (hi1 : -9223372036854775808 ≤ i) (hi2 : i ≤ 9223372036854775807) (hm : b.length = m) (hmc : m ≤ c) (hc : c ≤ 9223372036854775807) (hrb : Rd w A (bys b)) (hA : bys b ≠ [] → ∀ a, A = some a → ¬ ROwn t f a.block) :
    Calls Tryz.prog 45 #[.pointer (some ⟨t, 0, none⟩), .int .i64 i, .slice A m c] w fun e w' => e = .returned (.int .i64 (d.writeE i b)) ∧ (∃ cs', RDIs w' Q t f cs' (d.write i b)) ∧ Fr (ROwn t f) w w' := by
  by_cases he : d.writeE i b = 0
  · rw [he]; exact rwrite08_ok h hQ i A m c b hm hmc hc hrb hA he
  · have hw : d.write i b = d := if_neg he
    rw [hw]
    exact rwrite08_bad h i A m c b hi1 hi2 hm hmc hc he
end
end Go.Proofs.YtoaodmidegkolaaGreatDoor
