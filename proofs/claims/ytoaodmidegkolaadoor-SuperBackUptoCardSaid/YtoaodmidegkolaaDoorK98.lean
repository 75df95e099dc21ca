/- Texts joined (shake.py). -/
import Derived.Deep.RegionWith
import Derived.Test.YtoaodmidegkolaaDoorS08
import Derived.Lib.SlicesCompact
import Derived.Sort.Grow
import Derived.Test.YtoaodmidegkolaaDoorK91
import Derived.Test.YtoaodmidegkolaaDoorK92
import Derived.Test.YtoaodmidegkolaaDoorK97
namespace Go.Proofs.YtoaodmidegkolaaDoor
set_option maxRecDepth 20000
open Go.RowKit Go.Px Go.Maps
set_option linter.unusedVariables false
@[go_sem] theorem neqnil_rows (w : World) (A : Option Addr) (n c n' c' : Nat) : (binOp .neq 77 (.slice A n c) (.slice none n' c')).run Tryd.prog w = .ok (.bool A.isSome) w := by
  cases A <;> kernel_rfl
section
variable {w : World} {Q : Nat → Prop} {t f lm bm : Nat} {d : Dk}
theorem made08_any (h : DIs w Q t f lm bm d) : Calls Tryd.prog 44 #[.pointer (some ⟨t, 0, none⟩)] w fun e w' => e = .returned (.bool true) ∧ w = w' := by
  obtain ⟨c, b1, _⟩ := h.blk
  have x1 := b1.cell (j := 1) rfl
  go_enter Tryd.func44, Tryd.ntmps44
  go_wp2
  go_ret
  exact ⟨rfl, rfl⟩
theorem shape08_any (h : DIs w Q t f lm bm d) : Calls Tryd.prog 37 #[.pointer (some ⟨t, 0, none⟩)] w fun e w' => e = .returned (.tuple #[.int .i64 (d.fast.length : Int), .int .i64 (d.size : Int)]) ∧ Below w.heap.size w w' := by
  obtain ⟨c, b1, _⟩ := h.blk
  have x0 := b1.cell (j := 0) rfl
  have x1 := b1.cell (j := 1) rfl
  go_enter Tryd.func37, Tryd.ntmps37
  go_wp2_with fail
  go_fit (made08_any h)
  rintro x w1 ⟨rfl, rfl⟩
  go_wp2_with fail
  go_quiet (fail)
  go_wp2
  refine bodyPost_ret (results_tmp2 rfl _ _ _) rfl ?_
  exact ⟨rfl, rfl, rfl, rfl, Nat.le_refl _, fun _ _ => rfl⟩
/-- What burn answers, and what it leaves. -/
def Dk.burnE (d : Dk) : Int := if d.fuse = 0 then 82 else 0
def Dk.burnt (d : Dk) : Dk := if 0 < d.fuse then { d with fuse := d.fuse - 1 } else d
theorem burn08_any (h : DIs w Q t f lm bm d) : Calls Tryd.prog 45 #[.pointer (some ⟨t, 0, none⟩)] w fun e w' => e = .returned (.int .i64 d.burnE) ∧ DIs w' Q t f lm bm d.burnt ∧ Fr (fun x => x = t) w w' ∧ w'.heap.size = w.heap.size := by
  obtain ⟨c, b1, _⟩ := h.blk
  have x4 := b1.cell (j := 4) rfl
  have f4 := b1.frozen 4
  have k1 := h.ok.f1
  have k2 := h.ok.f2
  have HP := hide (fun h1 => h.put_fuse (z := d.fuse - 1) h1 (by omega))
  have H := hide h
  obtain ⟨z, hz⟩ : ∃ z, d.fuse = z := ⟨_, rfl⟩
  rw [hz] at x4 k1 k2 HP
  have Hz := hide hz
  clear h hz
  rcases (show z = -1 ∨ z = 0 ∨ 0 < z by omega) with rfl | rfl | hp
  · go_enter Tryd.func45, Tryd.ntmps45
    go_wp2
    go_ret
    exact ⟨by unfold Dk.burnE; rw [Hz.out]; rfl, by unfold Dk.burnt; rw [Hz.out]; exact H.out, Fr.refl _ _, rfl⟩
  · go_enter Tryd.func45, Tryd.ntmps45
    go_wp2
    go_ret
    exact ⟨by unfold Dk.burnE; rw [Hz.out]; rfl, by unfold Dk.burnt; rw [Hz.out]; exact H.out, Fr.refl _ _, rfl⟩
  · have q0 : (z == 0) = false := by simp; omega
    have q1 : decide ((0 : Int) < z) = true := decide_eq_true hp
    have hw : IntKind.i64.wrap (z - 1) = z - 1 := by rw [IntKind.wrap_i64]; omega
    obtain ⟨y, hy⟩ : ∃ y, z - 1 = y := ⟨_, rfl⟩
    rw [hy] at hw HP
    go_enter Tryd.func45, Tryd.ntmps45
    go_wp2
    go_ret
    obtain ⟨i1, i2⟩ := HP.out (by omega)
    exact ⟨by unfold Dk.burnE; rw [Hz.out, if_neg (by omega)]; rfl, by unfold Dk.burnt; rw [Hz.out, if_pos hp, hy]; exact i1, i2, by simp⟩
theorem fr_own {b : Nat} {w w' : World} (hf : Fr (fun x => x = b) w w') (hb : OwnB t f lm bm b) : Fr (OwnB t f lm bm) w w' := hf.mono (fun x hx => by subst hx; exact hb)
end
end Go.Proofs.YtoaodmidegkolaaDoor
namespace Go.Proofs.YtoaodmidegkolaaDoor
set_option maxRecDepth 20000
open Go.RowKit Go.Px Go.Maps
set_option linter.unusedVariables false
section
variable {w : World} {Q : Nat → Prop} {t f lm bm : Nat} {d : Dk}
def Dk.unread (d : Dk) (i : Int) : Bool := (d.loose i).isNone && d.bad i
theorem unread08_any (h : DIs w Q t f lm bm d) (i : Int) (h1 : -9223372036854775808 ≤ i) (h2 : i ≤ 9223372036854775807) :
    Calls Tryd.prog 79 #[.pointer (some ⟨t, 0, none⟩), .int .i64 i] w fun e w' => e = .returned (.bool (d.unread i)) ∧ Below w.heap.size w w' := by
  obtain ⟨cc, b1, _⟩ := h.blk
  have x2 := b1.cell (j := 2) rfl
  have x3 := b1.cell (j := 3) rfl
  have lb := h.look_ba h1 h2
  rcases h.look_lo h1 h2 with ⟨hl, ll⟩ | ⟨bs, A, n, c, hl, ll, _⟩
  · have hu : d.unread i = d.bad i := by unfold Dk.unread; rw [hl]; rfl
    rw [hu]
    obtain ⟨bb, hbb⟩ : ∃ bb, d.bad i = bb := ⟨_, rfl⟩
    rw [hbb] at lb ⊢
    have lb2 := ((Below.refl w.heap.size w).alloc (Nat.le_refl _) (.cells #[] 94))
    have y3 := ((b1.below lb2).cell (j := 3) rfl)
    have lb3 := (h.below lb2).look_ba h1 h2
    rw [hbb] at lb3
    clear h b1 hl hu hbb
    go_enter Tryd.func79, Tryd.ntmps79
    go_wp2
    go_ret
    exact ⟨rfl, lb2⟩
  · have hu : d.unread i = false := by unfold Dk.unread; rw [hl]; rfl
    rw [hu]
    clear h b1 hl hu
    go_enter Tryd.func79, Tryd.ntmps79
    go_wp2
    go_ret
    exact ⟨rfl, Below.refl _ _⟩
/-- What a sector holds: what is loose, else what is fast. -/
def Dk.bytesD (d : Dk) (i : Nat) : List UInt8 := (d.loose (i : Int)).getD (d.fast.getD i [])
theorem Dk.bytesD_len (ok : d.Ok) {i : Nat} (hi : i < d.fast.length) : (d.bytesD i).length = d.size := by
  unfold Dk.bytesD
  cases hl : d.loose (i : Int) with
  | none =>
    show (d.fast.getD i []).length = _
    rw [List.getD_eq_getElem?_getD, List.getElem?_eq_getElem hi]
    exact ok.fl _ (List.getElem_mem hi)
  | some bs => exact (ok.lo _ _ hl).2.2
theorem bytes08_any (h : DIs w Q t f lm bm d) (i : Nat) (hi : i < d.fast.length) :
    Calls Tryd.prog 80 #[.pointer (some ⟨t, 0, none⟩), .int .i64 (i : Int)] w fun e w' => ∃ A n c, e = .returned (.slice A n c) ∧ SecIs w Q (.slice A n c) (d.bytesD i) ∧ w = w' := by
  obtain ⟨cc, b1, _⟩ := h.blk
  have x1 := b1.cell (j := 1) rfl
  have x2 := b1.cell (j := 2) rfl
  have hN := h.ok.n2
  obtain ⟨v, hv, hs⟩ := h.sec hi
  obtain ⟨A, n, c, rfl, hsr⟩ := hs
  rcases h.look_lo (i := (i : Int)) (by omega) (by omega) with ⟨hl, ll⟩ | ⟨bs, A', n', c', hl, ll, hb1, hb2, hb3, hb4, hb5⟩
  · have he : d.bytesD i = d.fast[i] := by
      unfold Dk.bytesD
      rw [hl, List.getD_eq_getElem?_getD, List.getElem?_eq_getElem hi]; rfl
    rw [he]
    have HS := hide (show SecIs w Q (.slice A n c) d.fast[i] from ⟨A, n, c, rfl, hsr⟩)
    obtain ⟨N, hNe⟩ : ∃ N, d.fast.length = N := ⟨_, rfl⟩
    have hi' := hi
    rw [hNe] at hi' hN x1
    clear h b1 hl he hsr hNe
    go_enter Tryd.func80, Tryd.ntmps80
    go_wp2
    go_ret
    exact ⟨A, n, c, rfl, HS.out, rfl⟩
  · have he : d.bytesD i = bs := by unfold Dk.bytesD; rw [hl]; rfl
    rw [he]
    have HS := hide (show SecIs w Q (.slice A' n' c') bs from ⟨A', n', c', rfl, hb2, hb3, .inr ⟨hb1, hb4, hb5⟩⟩)
    clear h b1 hl he hsr hv x1
    go_enter Tryd.func80, Tryd.ntmps80
    go_wp2
    go_ret
    exact ⟨A', n', c', rfl, HS.out, rfl⟩
end
end Go.Proofs.YtoaodmidegkolaaDoor
namespace Go.Proofs.YtoaodmidegkolaaDoor
set_option maxRecDepth 20000
open Go.RowKit Go.Px Go.Maps
set_option linter.unusedVariables false
section
variable {w : World} {Q : Nat → Prop} {t f lm bm : Nat} {d : Dk}
theorem DIs.low (h : DIs w Q t f lm bm d) : DIs w (fun b => Q b ∧ b < w.heap.size) t f lm bm d := by
  obtain ⟨h1, ⟨cs, r1, r2, r3⟩, ⟨D, l1, l2⟩, h4, h5, h6, h7⟩ := h
  have hs : ∀ v b, SecIs w Q v b → b ≠ [] → SecIs w (fun b => Q b ∧ b < w.heap.size) v b := by
    rintro v b ⟨A, n, c, e1, e2, e3, e4 | ⟨e4, e5, e6⟩⟩ hne
    · exact ⟨A, n, c, e1, e2, e3, .inl e4⟩
    · refine ⟨A, n, c, e1, e2, e3, .inr ⟨e4, e5, fun a ha => ⟨e6 a ha, ?_⟩⟩⟩
      have : bys b ≠ [] := fun e => hne (by simpa [bys] using e)
      exact rd_block e5 this a ha
  refine ⟨h1, ⟨cs, r1, r2, fun i b hi => ?_⟩, ⟨D, l1, fun i => ?_⟩, h4, h5, h6, fun b hb => h7 b hb.1⟩
  · obtain ⟨v, hv, hsv⟩ := r3 i b hi
    refine ⟨v, hv, hs v b hsv fun e => ?_⟩
    have := h5.fl b (List.mem_of_getElem? hi)
    rw [e] at this
    have := h5.s1
    simp at *
    omega
  · have hl := l2 i
    cases hm : d.loose i with
    | none => rw [hm] at hl; exact hl
    | some bs =>
      rw [hm] at hl
      obtain ⟨q0, A, n, c, q1, q2, q3, q4, q5, q6⟩ := hl
      refine ⟨q0, A, n, c, q1, q2, q3, q4, q5, fun a ha => ⟨q6 a ha, ?_⟩⟩
      refine rd_block q5 (fun e => ?_) a ha
      have h8 := (h5.lo i bs hm).2.2
      have h9 := h5.s1
      have : bs = [] := by simpa [bys] using e
      rw [this] at h8
      simp at h8
      omega
theorem below_cell08 {w w' : World} (hb : Below w.heap.size w w') {a : Addr} {u : Value} (h : w.cell? a = some u) : w'.cell? a = some u := (hb.cell (p := a) (World.block_lt_of_cell? w _ h)).trans h
theorem blk_setRow {W : World} {g : Nat} {cs cs' : List Value} {T : TypeId} (h : Blk W g cs T) : Blk (W.setRow g cs'.toArray) g cs' T := h.setAll _
theorem fr_setRow (W : World) (g : Nat) (cs : List Value) : Fr (fun x => x = g) W (W.setRow g cs.toArray) := ⟨rfl, rfl, rfl, by simp [World.setRow], fun k _ hne => heap_setRow_other W g k _ (fun e => hne e)⟩
/-- n sectors from i on, one behind the other. -/
def Dk.flat (d : Dk) (i n : Nat) : List UInt8 := (List.range n).flatMap fun k => d.bytesD (i + k)
theorem Dk.flat_succ (d : Dk) (i n : Nat) : d.flat i (n + 1) = d.flat i n ++ d.bytesD (i + n) := by
  unfold Dk.flat; rw [List.range_succ, List.flatMap_append]; simp
theorem Dk.flat_len {d : Dk} (ok : d.Ok) {i : Nat} : ∀ {n : Nat}, i + n ≤ d.fast.length → (d.flat i n).length = n * d.size
  | 0, _ => by simp [Dk.flat]
  | n + 1, h => by rw [Dk.flat_succ, List.length_append, Dk.flat_len ok (by omega), Dk.bytesD_len ok (by omega), Nat.succ_mul]
def inN (N : Nat) (i n : Int) : Prop := 0 ≤ i ∧ 0 ≤ n ∧ i ≤ (N : Int) ∧ n ≤ (N : Int) - i
instance (N : Nat) (i n : Int) : Decidable (inN N i n) := by unfold inN; exact inferInstance
abbrev Dk.inR (d : Dk) (i n : Int) : Prop := inN d.fast.length i n
def Dk.readE (d : Dk) (i n : Int) : Int := if d.inR i n then (if (List.range n.toNat).any (fun k => d.unread (i + (k : Int))) = true then 81 else 0) else 5
def Dk.readB (d : Dk) (i n : Int) : List UInt8 := if d.readE i n = 0 then d.flat i.toNat n.toNat else []
/-- What a buffer holds behind j sectors. -/
def Dk.part (d : Dk) (i K j : Nat) : List UInt8 := d.flat i j ++ List.replicate ((K - j) * d.size) 0
theorem Dk.part_len {d : Dk} (ok : d.Ok) {i K j : Nat} (h : i + K ≤ d.fast.length) (hj : j ≤ K) : (d.part i K j).length = K * d.size := by
  unfold Dk.part
  rw [List.length_append, Dk.flat_len ok (by omega), List.length_replicate, ← Nat.add_mul, Nat.add_sub_cancel' hj]
theorem Dk.part_next {d : Dk} (ok : d.Ok) {i K j : Nat} (h : i + K ≤ d.fast.length) (hj : j < K) : bys (d.part i K (j + 1)) = spl (bys (d.part i K j)) (j * d.size) (bys (d.bytesD (i + j))) := by
  have hf := Dk.flat_len ok (i := i) (n := j) (by omega)
  have hb := Dk.bytesD_len ok (i := i + j) (by omega)
  have hz : List.replicate ((K - j) * d.size) (0 : UInt8) = List.replicate d.size 0 ++ List.replicate ((K - (j + 1)) * d.size) 0 := by
    rw [List.replicate_append_replicate]
    congr 1
    rw [show K - j = (K - (j + 1)) + 1 by omega, Nat.succ_mul]; omega
  unfold Dk.part spl
  rw [Dk.flat_succ, hz]
  simp only [bys_append]
  rw [List.take_left' (by rw [bys_length, hf]), bys_length, hb, show j * d.size + d.size = (bys (d.flat i j) ++ bys (List.replicate d.size 0)).length by simp [bys_length, hf], ← List.append_assoc (bys (d.flat i j)) (bys (List.replicate d.size 0)), List.drop_left]
theorem Dk.part_same {d : Dk} (ok : d.Ok) {i K j : Nat} (h : i + K ≤ d.fast.length) (hj : j < K) (hz : d.bytesD (i + j) = List.replicate (d.bytesD (i + j)).length 0) : d.part i K (j + 1) = d.part i K j := by
  have hb := Dk.bytesD_len ok (i := i + j) (by omega)
  rw [hb] at hz
  unfold Dk.part
  rw [Dk.flat_succ, hz, List.append_assoc, List.replicate_append_replicate]
  congr 2
  rw [show K - j = (K - (j + 1)) + 1 by omega, Nat.succ_mul]; omega
theorem read08_out (h : DIs w Q t f lm bm d) (i n : Int) (hi1 : -9223372036854775808 ≤ i) (hi2 : i ≤ 9223372036854775807) (hn1 : -9223372036854775808 ≤ n) (hn2 : n ≤ 9223372036854775807) (hno : ¬ d.inR i n) :
    Calls Tryd.prog 70 #[.pointer (some ⟨t, 0, none⟩), .int .i64 i, .int .i64 n] w fun e w' => e = .returned (.tuple #[.slice none 0 0, .int .i64 5]) ∧ w = w' := by
  obtain ⟨cc, b1, _⟩ := h.blk
  have x1 := b1.cell (j := 1) rfl
  have hN := h.ok.n2
  have HM := hide (made08_any h)
  obtain ⟨N, hNe⟩ : ∃ N, d.fast.length = N := ⟨_, rfl⟩
  unfold Dk.inR inN at hno
  rw [hNe] at hN x1 hno
  clear h b1 hNe
  rcases (show i < 0 ∨ (0 ≤ i ∧ n < 0) ∨ (0 ≤ i ∧ 0 ≤ n ∧ (N : Int) < i) ∨ (0 ≤ i ∧ 0 ≤ n ∧ i ≤ (N : Int) ∧ (N : Int) - i < n) by omega) with h1 | ⟨h1, h2⟩ | ⟨h1, h2, h3⟩ | ⟨h1, h2, h3, h4⟩
  · have q1 : decide (i < 0) = true := decide_eq_true h1
    clear hno
    go_enter Tryd.func70, Tryd.ntmps70
    go_wp2_with fail
    go_fit HM.out
    rintro x w1 ⟨rfl, rfl⟩
    go_wp2
    refine bodyPost_ret (results_tmp2 rfl _ _ _) rfl ?_
    exact ⟨rfl, rfl⟩
  · have q1 : decide (i < 0) = false := decide_eq_false (by omega)
    have q2 : decide (n < 0) = true := decide_eq_true h2
    clear hno
    go_enter Tryd.func70, Tryd.ntmps70
    go_wp2_with fail
    go_fit HM.out
    rintro x w1 ⟨rfl, rfl⟩
    go_wp2
    refine bodyPost_ret (results_tmp2 rfl _ _ _) rfl ?_
    exact ⟨rfl, rfl⟩
  · have q1 : decide (i < 0) = false := decide_eq_false (by omega)
    have q2 : decide (n < 0) = false := decide_eq_false (by omega)
    have q3 : decide ((N : Int) < i) = true := decide_eq_true h3
    clear hno
    go_enter Tryd.func70, Tryd.ntmps70
    go_wp2_with fail
    go_fit HM.out
    rintro x w1 ⟨rfl, rfl⟩
    go_wp2
    refine bodyPost_ret (results_tmp2 rfl _ _ _) rfl ?_
    exact ⟨rfl, rfl⟩
  · have q1 : decide (i < 0) = false := decide_eq_false (by omega)
    have q2 : decide (n < 0) = false := decide_eq_false (by omega)
    have q3 : decide ((N : Int) < i) = false := decide_eq_false (by omega)
    have hw : IntKind.i64.wrap ((N : Int) - i) = (N : Int) - i := by rw [IntKind.wrap_i64]; omega
    have q4 : decide ((N : Int) - i < n) = true := decide_eq_true h4
    clear hno
    go_enter Tryd.func70, Tryd.ntmps70
    go_wp2_with fail
    go_fit HM.out
    rintro x w1 ⟨rfl, rfl⟩
    go_wp2
    refine bodyPost_ret (results_tmp2 rfl _ _ _) rfl ?_
    exact ⟨rfl, rfl⟩
theorem read_step {W : World} {o I K p a L : Nat} {A : Option Addr} {n c : Nat} (ok : d.Ok) (hB : Blk W o (bys (d.part I K p)) 5) (hIK : I + K ≤ d.fast.length) (hp : p < K) (hs : SecIs W Q (.slice A n c) (d.bytesD (I + p))) (ha : p * d.size = a) (hL : K * d.size = L) (ty : TypeId) :
    (Builtin.copy_ #[26, 26] ty #[.slice (some ⟨o, a, none⟩) (L - a) (L - a), .slice A n c]).run Tryd.prog W = .ok (goInt (n : Nat)) (W.setRow o (bys (d.part I K (p + 1))).toArray) := by
  have hb := Dk.bytesD_len ok (i := I + p) (by omega)
  have hal : a + d.size ≤ L := by
    rw [← ha, ← hL, ← Nat.succ_mul]; exact Nat.mul_le_mul_right _ hp
  have hpl := Dk.part_len ok hIK (Nat.le_of_lt hp)
  obtain ⟨A', n', c', hv, hnc, hc, hcase⟩ := hs
  injection hv with e1 e2 e3
  subst e1 e2 e3
  rcases hcase with ⟨rfl, rfl, rfl, hz⟩ | ⟨hn, hr, _⟩
  · have := run_copyB (P := Tryd.prog) (w := W) (dT := 26) (sT := 26) (ty := ty) (dLen := L - a) (dCap := L - a) (off := a) (m := 0) (c := 0) (A := none) (ys := []) hB tBytes rfl Rd.nil (fun u hu => by cases hu) (by rw [bys_length, hpl, hL]; omega)
    rw [this, List.take_nil, spl_nil, Dk.part_same ok hIK hp hz, Nat.zero_min]
  · have := run_copyB (P := Tryd.prog) (w := W) (dT := 26) (sT := 26) (ty := ty) (dLen := L - a) (dCap := L - a) (off := a) (m := n) (c := c) (A := A) (ys := bys (d.bytesD (I + p))) hB tBytes (by rw [bys_length, hn]) hr (bys_one _) (by rw [bys_length, hpl, hL]; omega)
    rw [this, List.take_of_length_le (by rw [bys_length]; omega), Dk.part_next ok hIK hp, ha, show min n (L - a) = n by omega]
set_option maxHeartbeats 1600000 in
theorem read08_in (h : DIs w Q t f lm bm d) (I K : Nat) (hIK : I + K ≤ d.fast.length) :
    Calls Tryd.prog 70 #[.pointer (some ⟨t, 0, none⟩), .int .i64 (I : Int), .int .i64 (K : Int)] w fun e w' => ∃ A c, e = .returned (.tuple #[.slice A (d.readB (I : Int) (K : Int)).length c, .int .i64 (d.readE (I : Int) (K : Int))]) ∧ (d.readB (I : Int) (K : Int)).length ≤ c ∧ c ≤ 9223372036854775807 ∧ Rd w' A (bys (d.readB (I : Int) (K : Int))) ∧ (∀ a, A = some a → w.heap.size ≤ a.block) ∧ Below w.heap.size w w' := by
  obtain ⟨cc, b1, _⟩ := h.blk
  have x0 := b1.cell (j := 0) rfl
  have x1 := b1.cell (j := 1) rfl
  have hN := h.ok.n2
  have hs1 := h.ok.s1
  have hs2 := h.ok.s2
  have HM := hide (made08_any h)
  have HU := hide (fun (W : World) (hW : Below w.heap.size w W) (x : Nat) (hx : x < I + K) => unread08_any (h.below hW) (x : Int) (by omega) (by omega))
  have hin : d.inR (I : Int) (K : Int) := ⟨by omega, by omega, by omega, by omega⟩
  have hE1 : ∀ x : Nat, I ≤ x → x < I + K → d.unread (x : Int) = true → d.readE (I : Int) (K : Int) = 81 := fun x hx1 hx2 hu => by
    unfold Dk.readE
    rw [if_pos hin, if_pos]
    rw [List.any_eq_true]
    exact ⟨x - I, by simp; omega, by rw [show (I : Int) + ((x - I : Nat) : Int) = (x : Int) by omega]; exact hu⟩
  have hE0 : (∀ x : Nat, I ≤ x → x < I + K → d.unread (x : Int) = false) → d.readE (I : Int) (K : Int) = 0 := fun hu => by
    unfold Dk.readE
    rw [if_pos hin, if_neg]
    rw [List.any_eq_true]
    rintro ⟨j, hj, hj2⟩
    simp at hj
    have := hu (I + j) (by omega) (by omega)
    rw [show ((I + j : Nat) : Int) = (I : Int) + (j : Int) by omega, hj2] at this
    cases this
  have hE81 : d.readE (I : Int) (K : Int) = 81 → d.readB (I : Int) (K : Int) = [] := fun he => by unfold Dk.readB; rw [he]; rfl
  have hEB : d.readE (I : Int) (K : Int) = 0 → d.readB (I : Int) (K : Int) = d.flat I K := fun he => by unfold Dk.readB; rw [he, if_pos rfl, Int.toNat_natCast, Int.toNat_natCast]
  have H := hide h
  have HE1 := hide hE1
  have HE0 := hide hE0
  have HE81 := hide hE81
  have HEB := hide hEB
  have ok := h.ok
  have hfl := Dk.flat_len ok hIK
  obtain ⟨S, hSe⟩ : ∃ S, d.size = S := ⟨_, rfl⟩
  obtain ⟨N, hNe⟩ : ∃ N, d.fast.length = N := ⟨_, rfl⟩
  have HNe := hide hNe
  have HSe := hide hSe
  have Hok := hide ok
  have Hfl := hide hfl
  rw [hSe] at hs1 hs2 x0
  rw [hNe] at hN hIK x1
  have hKS : K * S ≤ 536870912 := by
    have : K * S ≤ 65536 * 8192 := Nat.mul_le_mul (by omega) hs2
    omega
  have B1 := hide b1
  clear h b1 hin hE1 hE0 hE81 hEB ok hfl hSe hNe
  have q1 : decide ((I : Int) < 0) = false := decide_eq_false (by omega)
  have q2 : decide ((K : Int) < 0) = false := decide_eq_false (by omega)
  have q3 : decide (N < I) = false := decide_eq_false (by omega)
  have hw : IntKind.i64.wrap ((N : Int) - (I : Int)) = (N : Int) - (I : Int) := by rw [IntKind.wrap_i64]; omega
  have q4 : decide ((N : Int) - (I : Int) < (K : Int)) = false := decide_eq_false (by omega)
  obtain ⟨M, hM⟩ : ∃ M, I + K = M := ⟨_, rfl⟩
  have hw2 : IntKind.i64.wrap ((I : Int) + (K : Int)) = (M : Int) := by rw [IntKind.wrap_i64]; omega
  have HMe := hide hM
  go_enter Tryd.func70, Tryd.ntmps70
  go_wp2_with fail
  go_fit HM.out
  rintro x w1 ⟨rfl, rfl⟩
  go_wp2_with fail
  rw [hM] at HU HE1 HE0
  have hMN : I ≤ M ∧ M ≤ N := by omega
  have hMK : M = I + K := hM.symm
  clear hM
  have HMK := hide hMK
  clear hMK
  go_loopw [8] (fun s8 W => ∃ k : Nat, s8 = .int .i64 (k : Int) ∧ I ≤ k ∧ k ≤ M ∧ Below w.heap.size w W ∧ Hid (∀ x : Nat, I ≤ x → x < k → d.unread (x : Int) = false)) (fun s _ => M - (RowKit.intOf s).toNat)
  case atStart => exact ⟨I, rfl, Nat.le_refl _, hMN.1, Below.refl _ _, hide (fun x h1 h2 => by omega)⟩
  case round =>
    obtain ⟨k, rfl, hIk, hkM, hbw, HJ⟩ := hrel
    by_cases hlt : k < M
    · have HUj := hide (HU.out wr hbw k hlt)
      go_wp2_with fail
      refine HUj.out.mono ?_
      cases hu : d.unread (k : Int) with
      | true =>
        have he := HE1.out k hIk hlt hu
        have HE := hide he
        have HB := hide (HE81.out he)
        clear he hu
        rintro x w3 ⟨rfl, hb3⟩
        have hb03 := hbw.trans (hb3.mono hbw.size)
        go_wp2
        refine bodyPost_ret (results_tmp2 rfl _ _ _) rfl ?_
        exact ⟨none, 0, by rw [HE.out, HB.out]; rfl, by rw [HB.out]; exact Nat.le_refl _, by omega, by rw [HB.out]; exact Rd.nil, fun a ha => (by cases ha), hb03⟩
      | false =>
        have Hu := hide hu
        clear hu
        rintro x w3 ⟨rfl, hb3⟩
        have hb03 := hbw.trans (hb3.mono hbw.size)
        go_wp2
        go_roundw
        case rel => exact ⟨k + 1, by go_num, by omega, by omega, hb03, hide (fun x h1 h2 => by
          rcases Nat.lt_or_ge x k with hxk | hxk
          · exact HJ.out x h1 hxk
          · rw [show x = k by omega]; exact Hu.out)⟩
        case measure => simp [RowKit.intOf]; omega
    · have hkM' : k = M := by omega
      subst hkM'
      have he := HE0.out HJ.out
      have HE := hide he
      have HB := hide (HEB.out he)
      have hD := H.out.below hbw
      have x0' := below_cell08 hbw x0
      have hw4 : IntKind.i64.wrap ((K : Int) * (S : Int)) = ((K * S : Nat) : Int) := by rw [Int.natCast_mul, IntKind.wrap_i64]; have : ((K * S : Nat) : Int) = (K : Int) * (S : Int) := Int.natCast_mul K S; omega
      have hm1 := fun W => run_mkB (P := Tryd.prog) (t := 26) (e := 5) (z := .int .u8 0) (bytes := 1) Tryd.underlying26 (by kernel_rfl) rfl (N := K * S) (by omega) (by omega) W
      rw [Int.natCast_mul] at hm1 hw4
      obtain ⟨L, hL⟩ : ∃ L, K * S = L := ⟨_, rfl⟩
      rw [hL] at hm1 hKS
      have HL := hide hL
      obtain ⟨w3, hw3⟩ : ∃ y, wr.alloc (.cells (Array.replicate L (.int .u8 0)) 5) = y := ⟨_, rfl⟩
      obtain ⟨o, ho⟩ : ∃ y, wr.heap.size = y := ⟨_, rfl⟩
      have hb3 : Below wr.heap.size wr w3 := by rw [← hw3]; exact (Below.refl _ _).alloc (Nat.le_refl _) _
      have hB3 : Blk w3 o (bys (d.part I K 0)) 5 := by
        rw [← hw3, ← ho]
        have : bys (d.part I K 0) = List.replicate L (.int .u8 0) := by
          unfold Dk.part Dk.flat
          rw [List.range_zero, List.flatMap_nil, List.nil_append, Nat.sub_zero, HSe.out, hL]
          simp [bys]
        rw [this, show Array.replicate L (Value.int .u8 0) = (List.replicate L (Value.int .u8 0)).toArray by simp]
        exact Blk.new wr _ _
      have Hw3 := hide hw3
      have Ho := hide ho
      clear hw3 hL ho
      have hDis := hide hD
      clear hD he HU HM
      go_wp2_with fail
      rw [Hw3.out, Ho.out]
      have hb03 : Below w.heap.size w w3 := hbw.trans (hb3.mono hbw.size)
      have hD3 := H.out.below hb03
      have hol : w.heap.size ≤ o := by rw [← Ho.out]; exact hbw.size
      have hk3 : ∀ A xs, Rd w A xs → Rd w3 A xs := fun A xs hr => hr.below hb03
      obtain ⟨Qn, hQn⟩ : ∃ Qn : Nat → Prop, Qn = fun b => Q b ∧ b < w.heap.size := ⟨_, rfl⟩
      have hDl : DIs w3 Qn t f lm bm d := by
        have h1 : DIs w Qn t f lm bm d := by
          rw [hQn]; exact H.out.low
        exact h1.below hb03
      have hQo : ∀ b, Qn b → b ≠ o := fun b hb e => by rw [hQn] at hb; omega
      have hlt := H.out.lts
      have HDl := hide hDl
      have HQo := hide hQo
      clear hk3 hQn hDl hQo hD3
      go_loopw [10, 59] (fun _ s59 W => ∃ p : Nat, s59 = .int .i64 (p : Int) ∧ p ≤ K ∧ Blk W o (bys (d.part I K p)) 5 ∧ Fr (fun b => b = o) w3 W) (fun _ s _ => K - (RowKit.intOf s).toNat)
      case atStart => exact ⟨0, rfl, by omega, hB3, Fr.refl _ _⟩
      case round =>
        obtain ⟨p, rfl, hpK, hBp, hFp⟩ := hrel
        by_cases hlp : p < K
        · have hDp : DIs wr Qn t f lm bm d := HDl.out.fr hFp (by omega) (by omega) (by omega) (by omega) HQo.out
          obtain ⟨a, ha⟩ : ∃ a, p * S = a := ⟨_, rfl⟩
          have haL : a + S ≤ L := by
            rw [← ha, ← HL.out, ← Nat.succ_mul]; exact Nat.mul_le_mul_right _ hlp
          have hw5 : IntKind.i64.wrap ((p : Int) * (S : Int)) = (a : Int) := by rw [← Int.natCast_mul, ha, IntKind.wrap_i64]; omega
          have hw6 : IntKind.i64.wrap ((I : Int) + (p : Int)) = ((I + p : Nat) : Int) := by rw [IntKind.wrap_i64]; omega
          have hIp : I + p < d.fast.length := by rw [HNe.out]; omega
          have hIKd : I + K ≤ d.fast.length := by rw [HNe.out]; exact hIK
          obtain ⟨x, hx⟩ : ∃ x, I + p = x := ⟨_, rfl⟩
          have HBY := bytes08_any (w := wr.drew) (hDp.below (Below.refl _ _).drew) (I + p) hIp
          have HST := hide (fun (A : Option Addr) (n c : Nat) (hs : SecIs wr.drew Qn (.slice A n c) (d.bytesD (I + p))) => read_step (W := wr.drew) (I := I) (K := K) (p := p) (a := a) (L := L) Hok.out hBp hIKd hlp hs (by rw [HSe.out]; exact ha) (by rw [HSe.out]; exact HL.out) 3)
          rw [hx] at HBY HST hw6
          have HBY' := hide HBY
          have xx0 : wr.cell? ⟨t, 0, none⟩ = some (.int .i64 (S : Int)) := by
            obtain ⟨c9, b9, _⟩ := hDp.blk
            have := b9.cell (j := 0) rfl
            rwa [HSe.out] at this
          have hB4 := fun (cs' : List Value) => blk_setRow (cs' := cs') (show Blk wr.drew o _ _ from hBp)
          have hF4 := fun (cs' : List Value) => (hFp.drew).trans (fr_setRow wr.drew o cs')
          have HB4 := hide hB4
          have HF4 := hide hF4
          have hcut : cutA (some ⟨o, 0, none⟩) L a 1 = some ⟨o, a, none⟩ := by
            unfold cutA; rw [if_neg (by omega)]
            show some ((⟨o, 0, none⟩ : Addr).add (a * 1)) = _
            rw [Nat.mul_one]; unfold Addr.add; split <;> simp_all
          clear HBY hDp hBp hx hB4 hF4 ha hIp hIKd
          go_wp2_with fail
          go_region_with (first
            | (refine HBY'.out.mono ?_; rintro e w5 ⟨A5, n5, c5, rfl, hsec, rfl⟩; have hcp := HST.out A5 n5 c5 hsec))
          all_goals
            go_wp2
            go_roundw
            case rel => exact ⟨p + 1, by go_num, by omega, HB4.out _, HF4.out _⟩
            case measure => simp [RowKit.intOf]; omega
        · have hpe : p = K := by omega
          subst hpe
          have hpart : d.part I p p = d.flat I p := by unfold Dk.part; rw [Nat.sub_self, Nat.zero_mul]; simp
          rw [hpart] at hBp
          have hL2 : (d.flat I p).length = L := by rw [Hfl.out, HSe.out]; exact HL.out
          have HR := hide (show Rd wr (some ⟨o, 0, none⟩) (bys (d.flat I p)) from Rd.of_some fun j u hu => by
            have := hBp.cell hu
            rwa [show (⟨o, 0, none⟩ : Addr).add j = ⟨o, j, none⟩ by unfold Addr.add; split <;> simp_all])
          have HL2 := hide hL2
          have Hb := hide (hFp.below hb03 hb03.size (fun b hb => by omega))
          clear hpart hBp hL2 hFp
          go_wp2
          refine bodyPost_ret (results_tmp2 rfl _ _ _) rfl ?_
          rw [HB.out, HE.out]
          exact ⟨some ⟨o, 0, none⟩, L, by rw [HL2.out]; rfl, by rw [HL2.out]; exact Nat.le_refl _, by omega, HR.out, fun a ha => by injection ha with ha; rw [← ha]; exact hol, Hb.out⟩
/-- What Read answers, whatever it is asked. -/
theorem read08_any (h : DIs w Q t f lm bm d) (i n : Int) (hi1 : -9223372036854775808 ≤ i) (hi2 : i ≤ 9223372036854775807) (hn1 : -9223372036854775808 ≤ n) (hn2 : n ≤ 9223372036854775807) :
    Calls Tryd.prog 70 #[.pointer (some ⟨t, 0, none⟩), .int .i64 i, .int .i64 n] w fun e w' => ∃ A c, e = .returned (.tuple #[.slice A (d.readB i n).length c, .int .i64 (d.readE i n)]) ∧ (d.readB i n).length ≤ c ∧ c ≤ 9223372036854775807 ∧ Rd w' A (bys (d.readB i n)) ∧ (∀ a, A = some a → w.heap.size ≤ a.block) ∧ Below w.heap.size w w' := by
  by_cases hin : d.inR i n
  · obtain ⟨g1, g2, g3, g4⟩ := hin
    obtain ⟨I, rfl⟩ : ∃ I : Nat, i = (I : Int) := ⟨i.toNat, by omega⟩
    obtain ⟨K, rfl⟩ : ∃ K : Nat, n = (K : Int) := ⟨n.toNat, by omega⟩
    exact read08_in h I K (by omega)
  · refine (read08_out h i n hi1 hi2 hn1 hn2 hin).mono ?_
    rintro e w' ⟨rfl, rfl⟩
    have he : d.readE i n = 5 := if_neg hin
    have hb : d.readB i n = [] := by unfold Dk.readB; rw [he]; rfl
    rw [he, hb]
    exact ⟨none, 0, rfl, Nat.le_refl _, by omega, Rd.nil, fun a ha => (by cases ha), Below.refl _ _⟩
end
end Go.Proofs.YtoaodmidegkolaaDoor
namespace Go.Proofs.YtoaodmidegkolaaDoor
set_option maxRecDepth 20000
open Go.RowKit Go.Px Go.Maps
set_option linter.unusedVariables false
section
variable {w : World} {Q : Nat → Prop} {t f lm bm : Nat} {d : Dk}
/-- The k-th sector's bytes of a row. -/
def secB (S : Nat) (b : List UInt8) (k : Nat) : List UInt8 := (b.drop (k * S)).take S
/-- Sectors laid from I on. -/
def Dk.lay (d : Dk) (I : Nat) (b : List UInt8) : Nat → Dk
  | 0 => d
  | k + 1 => (d.lay I b k).putL ((I + k : Nat) : Int) (some (secB d.size b k))
theorem Dk.lay_same (d : Dk) (I : Nat) (b : List UInt8) : ∀ k, (d.lay I b k).size = d.size ∧ (d.lay I b k).fast = d.fast ∧ (d.lay I b k).bad = d.bad ∧ (d.lay I b k).fuse = d.fuse
  | 0 => ⟨rfl, rfl, rfl, rfl⟩
  | k + 1 => Dk.lay_same d I b k
def Dk.writeE (d : Dk) (i : Int) (b : List UInt8) : Int := if b.length % d.size ≠ 0 then 1 else if d.inR i ((b.length / d.size : Nat) : Int) then d.burnE else 5
def Dk.write (d : Dk) (i : Int) (b : List UInt8) : Dk := if d.writeE i b = 0 then d.burnt.lay i.toNat b (b.length / d.size) else d
theorem Dk.burnt_same (d : Dk) : d.burnt.size = d.size ∧ d.burnt.fast = d.fast ∧ d.burnt.loose = d.loose ∧ d.burnt.bad = d.bad := by
  unfold Dk.burnt; split <;> exact ⟨rfl, rfl, rfl, rfl⟩
set_option maxHeartbeats 1600000 in
theorem write08_bad (h : DIs w Q t f lm bm d) (i : Int) (A : Option Addr) (m c : Nat) (b : List UInt8) (hi1 : -9223372036854775808 ≤ i) (hi2 : i ≤ 9223372036854775807) (hm : b.length = m) (hmc : m ≤ c) (hc : c ≤ 9223372036854775807) (he : d.writeE i b ≠ 0) :
    Calls Tryd.prog 40 #[.pointer (some ⟨t, 0, none⟩), .int .i64 i, .slice A m c] w fun e w' => e = .returned (.int .i64 (d.writeE i b)) ∧ DIs w' Q t f lm bm d ∧ Fr (fun x => x = t) w w' := by
  obtain ⟨cc, b1, _⟩ := h.blk
  have x0 := b1.cell (j := 0) rfl
  have x1 := b1.cell (j := 1) rfl
  have hN := h.ok.n2
  have hs1 := h.ok.s1
  have HM := hide (made08_any h)
  have HBU := hide (burn08_any h)
  have hwe : d.writeE i b = if m % d.size ≠ 0 then 1 else if d.inR i ((m / d.size : Nat) : Int) then d.burnE else 5 := by unfold Dk.writeE; rw [hm]
  have hbe : d.burnE ≠ 0 → d.burnE = 82 ∧ d.burnt = d := fun hb => by
    unfold Dk.burnE at hb
    by_cases h0 : d.fuse = 0
    · exact ⟨by unfold Dk.burnE; rw [if_pos h0], by unfold Dk.burnt; rw [if_neg (by omega)]⟩
    · rw [if_neg h0] at hb; exact absurd rfl hb
  have H := hide h
  have HWE := hide hwe
  unfold Dk.inR at hwe
  obtain ⟨S, hSe⟩ : ∃ S, d.size = S := ⟨_, rfl⟩
  obtain ⟨N, hNe⟩ : ∃ N, d.fast.length = N := ⟨_, rfl⟩
  rw [hNe] at hwe hN x1
  rw [hSe] at hwe hs1 x0
  have hS0 : (S : Int) ≠ 0 := by omega
  have hrem : ((m : Int).tmod (S : Int)) = ((m % S : Nat) : Int) := rfl
  have hquo : ((m : Int).tdiv (S : Int)) = ((m / S : Nat) : Int) := rfl
  have hdm : m / S ≤ m := Nat.div_le_self _ _
  obtain ⟨r, hr⟩ : ∃ r, m % S = r := ⟨_, rfl⟩
  obtain ⟨n, hn⟩ : ∃ n, m / S = n := ⟨_, rfl⟩
  have hwr : IntKind.i64.wrap (n : Int) = (n : Int) := by rw [IntKind.wrap_i64]; omega
  rw [hr] at hwe hrem
  rw [hn] at hwe hquo hdm
  obtain ⟨be, hbee⟩ : ∃ be, d.burnE = be := ⟨_, rfl⟩
  rw [hbee] at hwe hbe HBU
  rw [hwe] at he ⊢
  have Hbe := hide hbe
  clear h b1 hm hSe hNe hr hn hbee hbe hwe
  by_cases h0 : r = 0
  · subst h0
    rw [if_neg (by simp)] at he ⊢
    have hwN : ∀ z : Int, 0 ≤ z → z ≤ (N : Int) → IntKind.i64.wrap ((N : Int) - z) = (N : Int) - z := fun z h1 h2 => by rw [IntKind.wrap_i64]; omega
    rcases (show i < 0 ∨ (0 ≤ i ∧ (N : Int) < i) ∨ (0 ≤ i ∧ i ≤ (N : Int) ∧ (N : Int) - i < (n : Int)) ∨ (0 ≤ i ∧ i ≤ (N : Int) ∧ (n : Int) ≤ (N : Int) - i) by omega) with h1 | ⟨h1, h2⟩ | ⟨h1, h2, h3⟩ | ⟨h1, h2, h3⟩
    · have q1 : decide (i < 0) = true := decide_eq_true h1
      rw [if_neg (fun hh => by unfold inN at hh; omega)]
      clear hwN he
      go_enter Tryd.func40, Tryd.ntmps40
      go_wp2_with fail
      go_fit HM.out
      rintro x w1 ⟨rfl, rfl⟩
      go_wp2
      go_ret
      exact ⟨rfl, H.out, Fr.refl _ _⟩
    · have q1 : decide (i < 0) = false := decide_eq_false (by omega)
      have q2 : decide ((N : Int) < i) = true := decide_eq_true h2
      rw [if_neg (fun hh => by unfold inN at hh; omega)]
      clear hwN he
      go_enter Tryd.func40, Tryd.ntmps40
      go_wp2_with fail
      go_fit HM.out
      rintro x w1 ⟨rfl, rfl⟩
      go_wp2
      go_ret
      exact ⟨rfl, H.out, Fr.refl _ _⟩
    · have q1 : decide (i < 0) = false := decide_eq_false (by omega)
      have q2 : decide ((N : Int) < i) = false := decide_eq_false (by omega)
      have q3 : decide ((N : Int) - i < (n : Int)) = true := decide_eq_true h3
      have hw := hwN i h1 h2
      rw [if_neg (fun hh => by unfold inN at hh; omega)]
      clear hwN he
      go_enter Tryd.func40, Tryd.ntmps40
      go_wp2_with fail
      go_fit HM.out
      rintro x w1 ⟨rfl, rfl⟩
      go_wp2
      go_ret
      exact ⟨rfl, H.out, Fr.refl _ _⟩
    · have q1 : decide (i < 0) = false := decide_eq_false (by omega)
      have q2 : decide ((N : Int) < i) = false := decide_eq_false (by omega)
      have q3 : decide ((N : Int) - i < (n : Int)) = false := decide_eq_false (by omega)
      have hw := hwN i h1 h2
      rw [if_pos (show inN N i (n : Int) from ⟨by omega, by omega, by omega, by omega⟩)] at he ⊢
      obtain ⟨rfl, hbt⟩ := Hbe.out he
      have Hbt := hide hbt
      clear hwN he hbt
      go_enter Tryd.func40, Tryd.ntmps40
      go_wp2_with fail
      go_fit HM.out
      rintro x w1 ⟨rfl, rfl⟩
      go_wp2_with fail
      refine HBU.out.mono ?_
      rintro x w2 ⟨rfl, hD2, hF2, _⟩
      rw [Hbt.out] at hD2
      have HD2 := hide hD2
      clear hD2
      go_wp2
      go_ret
      exact ⟨rfl, HD2.out, hF2⟩
  · rw [if_pos h0]
    have q1 : ((r : Int) != 0) = true := by simp; omega
    clear he
    go_enter Tryd.func40, Tryd.ntmps40
    go_wp2_with fail
    go_fit HM.out
    rintro x w1 ⟨rfl, rfl⟩
    go_wp2
    go_ret
    exact ⟨rfl, H.out, Fr.refl _ _⟩
end
end Go.Proofs.YtoaodmidegkolaaDoor
namespace Go.Proofs.YtoaodmidegkolaaDoor
set_option maxRecDepth 20000
open Go.RowKit Go.Px Go.Maps
set_option linter.unusedVariables false
section
variable {w : World} {Q : Nat → Prop} {t f lm bm : Nat} {d : Dk}
theorem secB_len {S : Nat} {b : List UInt8} {k : Nat} (h : (k + 1) * S ≤ b.length) : (secB S b k).length = S := by
  unfold secB; rw [List.length_take, List.length_drop]; rw [Nat.succ_mul] at h; omega
theorem Dk.writeE_ok {i : Int} {b : List UInt8} (h : d.writeE i b = 0) : b.length % d.size = 0 ∧ d.inR i ((b.length / d.size : Nat) : Int) ∧ d.burnE = 0 := by
  unfold Dk.writeE at h
  by_cases h0 : b.length % d.size ≠ 0
  · rw [if_pos h0] at h; cases h
  · rw [if_neg h0] at h
    by_cases h1 : d.inR i ((b.length / d.size : Nat) : Int)
    · rw [if_pos h1] at h; exact ⟨by omega, h1, h⟩
    · rw [if_neg h1] at h; cases h
set_option maxHeartbeats 1600000 in
theorem write08_ok (h : DIs w Q t f lm bm d) (hQ : ∀ b, w.heap.size ≤ b → Q b) (i : Int) (A : Option Addr) (m c : Nat) (b : List UInt8) (hm : b.length = m) (hmc : m ≤ c) (hc : c ≤ 9223372036854775807) (hrb : Rd w A (bys b)) (hA : bys b ≠ [] → ∀ a, A = some a → ¬ OwnB t f lm bm a.block) (he : d.writeE i b = 0) :
    Calls Tryd.prog 40 #[.pointer (some ⟨t, 0, none⟩), .int .i64 i, .slice A m c] w fun e w' => e = .returned (.int .i64 0) ∧ DIs w' Q t f lm bm (d.write i b) ∧ Fr (OwnB t f lm bm) w w' := by
  obtain ⟨cc, b1, _⟩ := h.blk
  have x0 := b1.cell (j := 0) rfl
  have x1 := b1.cell (j := 1) rfl
  have hN := h.ok.n2
  have hs1 := h.ok.s1
  have hs2 := h.ok.s2
  have HM := hide (made08_any h)
  have hBU := burn08_any h
  obtain ⟨hr0, hin, hbe⟩ := Dk.writeE_ok he
  rw [hbe] at hBU
  have HBU := hide hBU
  have hwr : d.write i b = d.burnt.lay i.toNat b (b.length / d.size) := by unfold Dk.write; rw [if_pos he]
  obtain ⟨hb1, hb2, hb3, hb4⟩ := d.burnt_same
  obtain ⟨g1, g2, g3, g4⟩ := hin
  obtain ⟨I, rfl⟩ : ∃ I : Nat, i = (I : Int) := ⟨i.toNat, by omega⟩
  rw [Int.toNat_natCast] at hwr
  have hlts := h.lts
  have HO := hide h.out
  obtain ⟨d', hd'⟩ : ∃ d', d.burnt = d' := ⟨_, rfl⟩
  rw [hd'] at HBU hwr hb1 hb2
  obtain ⟨n, hn⟩ : ∃ n, m / d.size = n := ⟨_, rfl⟩
  rw [hm] at hr0 g2 g4 hwr
  rw [hn] at g2 g4 hwr
  rw [hwr]
  have hmn : m = n * d.size := by
    have := Nat.div_add_mod m d.size
    rw [hn, hr0, Nat.mul_comm] at this; omega
  obtain ⟨S, hSe⟩ : ∃ S, d.size = S := ⟨_, rfl⟩
  obtain ⟨N, hNe⟩ : ∃ N, d.fast.length = N := ⟨_, rfl⟩
  have hdS : d'.size = S := by rw [hb1, hSe]
  have hdN : d'.fast.length = N := by rw [hb2, hNe]
  rw [hNe] at g3 g4 hN x1
  rw [hSe] at hs1 hs2 x0 hr0 hn hmn
  have hS0 : (S : Int) ≠ 0 := by omega
  have hrem : ((m : Int).tmod (S : Int)) = 0 := by
    show ((m % S : Nat) : Int) = 0
    rw [hr0]; rfl
  have hquo : ((m : Int).tdiv (S : Int)) = (n : Int) := by
    show ((m / S : Nat) : Int) = _
    rw [hn]
  have hIn : I + n ≤ N := by omega
  have hw0 : IntKind.i64.wrap (n : Int) = (n : Int) := by rw [IntKind.wrap_i64]; omega
  have q1 : decide ((I : Int) < 0) = false := decide_eq_false (by omega)
  have q2 : decide (N < I) = false := decide_eq_false (by omega)
  have hw : IntKind.i64.wrap ((N : Int) - (I : Int)) = (N : Int) - (I : Int) := by rw [IntKind.wrap_i64]; omega
  have q3 : decide ((N : Int) - (I : Int) < (n : Int)) = false := decide_eq_false (by omega)
  have HQ := hide hQ
  have Hm := hide hm
  have Hmn := hide hmn
  have HdS := hide hdS
  have HdN := hide hdN
  have hmb : m ≤ 536870912 := by
    rw [hmn]
    have : n * S ≤ 65536 * 8192 := Nat.mul_le_mul (by omega) hs2
    omega
  clear h b1 hm hQ hr0 hn hmn hdS hdN hSe hNe he hBU hwr hb1 hb2 hb3 hb4 hbe hd' g1 g2 g3 g4
  go_enter Tryd.func40, Tryd.ntmps40
  go_wp2_with fail
  go_fit HM.out
  rintro x w1 ⟨rfl, rfl⟩
  go_wp2_with fail
  refine HBU.out.mono ?_
  rintro x w2 ⟨rfl, hD2, hF2, hz2⟩
  have hrb2 : Rd w2 A (bys b) := hrb.fr hF2 (fun hne a ha e => hA hne a ha (.inl e))
  have HCL := hide (clone_any A m c b w2 Hm.out (by omega) hrb2)
  have HD2 := hide hD2
  clear hrb2 hD2
  go_wp2_with fail
  go_fit HCL.out
  rintro x w3 ⟨v, rfl, hO3, hb3⟩
  obtain ⟨A3, c3, rfl, _, hc3, hcm3, hr3, ha3⟩ := own_out hO3
  have hD3 := HD2.out.below hb3
  have hF3 : Fr (OwnB t f lm bm) w w3 := (fr_own hF2 (.inl rfl)).trans (Fr.of_below hb3)
  unfold maxLen at hcm3
  clear HCL hO3
  go_wp2_with fail
  go_loopw [10, 11, 12, 61] (fun _ _ _ s61 W => ∃ p : Nat, s61 = .int .i64 (p : Int) ∧ p ≤ n ∧ DIs W Q t f lm bm (d'.lay I b p) ∧ Fr (OwnB t f lm bm) w W ∧ Rd W A3 (bys b)) (fun _ _ _ s _ => n - (RowKit.intOf s).toNat)
  case atStart => exact ⟨0, rfl, by omega, hD3, hF3, hr3⟩
  case round =>
    obtain ⟨p, rfl, hpn, hDp, hFp, hrp⟩ := hrel
    by_cases hlp : p < n
    · obtain ⟨a, ha⟩ : ∃ a, p * S = a := ⟨_, rfl⟩
      obtain ⟨a2, ha2⟩ : ∃ a2, (p + 1) * S = a2 := ⟨_, rfl⟩
      have haS : a2 = a + S := by rw [← ha, ← ha2, Nat.succ_mul]
      have ham : a2 ≤ m := by rw [← ha2, Hmn.out]; exact Nat.mul_le_mul_right _ hlp
      have hw5 : IntKind.i64.wrap ((p : Int) * (S : Int)) = (a : Int) := by rw [← Int.natCast_mul, ha, IntKind.wrap_i64]; omega
      have hw6 : IntKind.i64.wrap (((p : Int) + 1) * (S : Int)) = (a2 : Int) := by rw [show ((p : Int) + 1) = ((p + 1 : Nat) : Int) by omega, ← Int.natCast_mul, ha2, IntKind.wrap_i64]; omega
      have hw8 : IntKind.i64.wrap ((I : Int) + (p : Int)) = ((I + p : Nat) : Int) := by rw [IntKind.wrap_i64]; omega
      obtain ⟨cp, bp, _⟩ := hDp.blk
      have y0 := bp.cell (j := 0) rfl
      rw [(d'.lay_same I b p).1, HdS.out] at y0
      have haa : a ≤ a2 := by omega
      have hac : a2 ≤ c3 := by omega
      have hsub : a2 - a = S := by omega
      have Hsub := hide hsub
      have HaS := hide haS
      clear bp haS hsub
      go_wp2_with fail
      go_quiet (fail)
      have hbq : Below wr.heap.size wr (wr.drewN nq) := ⟨rfl, rfl, rfl, Nat.le_refl _, fun _ _ => rfl⟩
      obtain ⟨wd, hwd⟩ : ∃ y, wr.drewN nq = y := ⟨_, rfl⟩
      rw [hwd] at hbq ⊢
      have hDd := (hDp.below hbq).below (Below.refl _ _).drew
      have hFd := (hFp.trans (Fr.of_below hbq)).drew
      have hrd := hrp.below hbq
      have hrd' : Rd wd.drew A3 (bys b) := hrd
      have hpl : Rd wd.drew (cutA A3 a2 a 1) (bys (secB S b p)) := by
        have h0 := hrd'.take a2
        have h1 := h0.cutA (n := a2) (k := a) (cap := a2) (by rw [List.length_take]; omega) (by omega) (Nat.le_refl _)
        have h2 := h1.take S
        have e : bys (secB S b p) = (List.drop a (List.take a2 (bys b))).take S := by
          unfold secB
          rw [ha, bys_take, bys_drop, HaS.out, List.drop_take, Nat.add_sub_cancel_left, List.take_take, Nat.min_self]
        rw [e]; exact h2
      have hsl : (secB S b p).length = S := secB_len (by rw [ha2, Hm.out]; exact ham)
      obtain ⟨cq, bq, _⟩ := hDd.blk
      have z2 := bq.cell (j := 2) rfl
      have hkey : ((I + p : Nat) : Int) = (I : Int) + (p : Int) := by omega
      obtain ⟨w5, hput, hD5, hF5⟩ := hDd.put_lo (i := (I : Int) + (p : Int)) (by omega) (by rw [(d'.lay_same I b p).2.1, HdN.out]; omega) (A := cutA A3 a2 a 1) (n := a2 - a) (c := a2 - a) (bs := secB S b p) (by rw [hsl, (d'.lay_same I b p).1, HdS.out]) (by rw [hsl, Hsub.out]) (Nat.le_refl _) (by rw [Hsub.out]; omega) hpl (fun x hx => by
        have : w.heap.size ≤ x.block := by
          unfold cutA at hx
          split at hx
          · have := ha3 x hx; omega
          · rw [Option.map_eq_some_iff] at hx
            obtain ⟨y, hy, rfl⟩ := hx
            rw [add_block]
            have := ha3 y hy; omega
        exact HQ.out _ this)
      have hD5' : DIs w5 Q t f lm bm (d'.lay I b (p + 1)) := by
        show DIs w5 Q t f lm bm ((d'.lay I b p).putL ((I + p : Nat) : Int) (some (secB d'.size b p)))
        rw [hkey, HdS.out]; exact hD5
      have HD5 := hide hD5'
      have HF5 := hide (hFd.trans (fr_own hF5 (.inr (.inr (.inl rfl)))))
      have Hr5 := hide (hrd'.fr hF5 (fun _ x hx e => by have := ha3 x hx; omega))
      clear hD5 hD5' hF5 bq hDd hFd hrd hrd' hpl hDp hFp hrp y0 hwd hbq hkey hw8 ha ha2
      go_wp2_with fail
      go_region
      go_wp2
      go_roundw
      case rel => exact ⟨p + 1, by go_num, by omega, HD5.out, HF5.out, Hr5.out⟩
      case measure => simp [RowKit.intOf]; omega
    · have hpe : p = n := by omega
      subst hpe
      have HD := hide hDp
      have HF := hide hFp
      clear hDp hFp hrp
      go_wp2
      go_ret
      exact ⟨rfl, HD.out, HF.out⟩
end
end Go.Proofs.YtoaodmidegkolaaDoor
namespace Go.Proofs.YtoaodmidegkolaaDoor
set_option maxRecDepth 20000
open Go.RowKit Go.Px Go.Maps
set_option linter.unusedVariables false
section
variable {w : World} {Q : Nat → Prop} {t f lm bm : Nat} {d : Dk}
def inI (N : Nat) (i : Int) : Prop := 0 ≤ i ∧ i < (N : Int)
instance (N : Nat) (i : Int) : Decidable (inI N i) := by unfold inI; exact inferInstance
end
end Go.Proofs.YtoaodmidegkolaaDoor
namespace Go.Proofs.YtoaodmidegkolaaDoor
set_option maxRecDepth 20000
open Go.RowKit Go.Px Go.Maps
set_option linter.unusedVariables false
section
variable {w : World} {Q : Nat → Prop} {t f lm bm : Nat} {d : Dk}
def Dk.new (n s : Nat) : Dk := ⟨s, List.replicate n (List.replicate s 0), fun _ => none, fun _ => false, -1⟩
theorem Dk.new_ok {n s : Nat} (h1 : 1 ≤ n) (h2 : n ≤ 65536) (h3 : 1 ≤ s) (h4 : s ≤ 8192) : (Dk.new n s).Ok :=
  ⟨h3, h4, by simp [Dk.new]; omega, by simp [Dk.new]; omega, fun b hb => by rw [List.eq_of_mem_replicate hb]; simp [Dk.new], fun i b h => (by cases h), fun i h => (by cases h), by show (-1 : Int) ≤ -1; omega, by show (-1 : Int) ≤ _; omega⟩
set_option maxHeartbeats 800000 in
theorem new08_ok (w : World) (n s : Nat) (h1 : 1 ≤ n) (h2 : n ≤ 65536) (h3 : 1 ≤ s) (h4 : s ≤ 8192) :
    Calls Tryd.prog 14 #[.int .i64 (n : Int), .int .i64 (s : Int)] w fun e w' => e = .returned (.tuple #[.pointer (some ⟨w.heap.size + 3, 0, none⟩), .int .i64 0]) ∧ DIs w' (fun _ => False) (w.heap.size + 3) w.heap.size (w.heap.size + 1) (w.heap.size + 2) (Dk.new n s) ∧ w'.heap.size = w.heap.size + 4 ∧ Below w.heap.size w w' := by
  have hmm := @run_makeMap Tryd.prog
  have hm1 := fun W => run_mkB (P := Tryd.prog) (t := 77) (e := 26) (z := .slice none 0 0) (bytes := 24) Tryd.underlying77 (by kernel_rfl) rfl (N := n) (by omega) (by omega) W
  have q1 : decide ((n : Int) < 1) = false := decide_eq_false (by omega)
  have q2 : decide ((65536 : Int) < (n : Int)) = false := decide_eq_false (by omega)
  have q3 : decide ((s : Int) < 1) = false := decide_eq_false (by omega)
  have q4 : decide ((8192 : Int) < (s : Int)) = false := decide_eq_false (by omega)
  go_enter Tryd.func14, Tryd.ntmps14
  go_wp2
  refine bodyPost_ret (results_tmp2 rfl _ _ _) rfl ?_
  obtain ⟨w1, hw1⟩ : ∃ y, w.alloc (.cells (Array.replicate n (.slice none 0 0)) 26) = y := ⟨_, rfl⟩
  rw [hw1]
  have z1 : w1.heap.size = w.heap.size + 1 := by rw [← hw1]; simp
  have B1 : Blk w1 w.heap.size (List.replicate n (.slice none 0 0)) 26 := by
    rw [← hw1, show Array.replicate n (Value.slice none 0 0) = (List.replicate n (Value.slice none 0 0)).toArray by simp]
    exact Blk.new w _ _
  have b1 : Below w.heap.size w w1 := by rw [← hw1]; exact (Below.refl _ _).alloc (Nat.le_refl _) _
  have M1 := World.ownsMap_made w1 Tryd.prog 3 rdS
  obtain ⟨w2, hw2⟩ : ∃ y, w1.alloc (.map #[] 0) = y := ⟨_, rfl⟩
  rw [hw2] at M1 ⊢
  have z2 : w2.heap.size = w.heap.size + 2 := by rw [← hw2]; simp [z1]
  have b2 : Below w1.heap.size w1 w2 := by rw [← hw2]; exact (Below.refl _ _).alloc (Nat.le_refl _) _
  have M2 := World.ownsMap_made w2 Tryd.prog 3 (unitElem (H := Value))
  obtain ⟨w3, hw3⟩ : ∃ y, w2.alloc (.map #[] 0) = y := ⟨_, rfl⟩
  rw [hw3] at M2 ⊢
  have z3 : w3.heap.size = w.heap.size + 3 := by rw [← hw3]; simp [z2]
  have b3 : Below w2.heap.size w2 w3 := by rw [← hw3]; exact (Below.refl _ _).alloc (Nat.le_refl _) _
  rw [z1] at M1
  rw [z2] at M2
  have z3' : w3.heap.size = w.heap.size + 3 := z3
  obtain ⟨w4, hw4⟩ : ∃ y, w3.alloc (.cells #[.int .i64 (s : Int), .slice (some ⟨w.heap.size, 0, none⟩) n n, .map (some (w.heap.size + 1)), .map (some (w.heap.size + 1 + 1)), .int .i64 (-1)] 81) = y := ⟨_, rfl⟩
  have B4 : Blk w4 (w.heap.size + 3) [.int .i64 (s : Int), .slice (some ⟨w.heap.size, 0, none⟩) n n, .map (some (w.heap.size + 1)), .map (some (w.heap.size + 2)), .int .i64 (-1)] 81 := by
    rw [← hw4, ← z3]; exact Blk.new w3 _ _
  have b4 : Below w3.heap.size w3 w4 := by rw [← hw4]; exact (Below.refl _ _).alloc (Nat.le_refl _) _
  have z4 : w4.heap.size = w.heap.size + 4 := by rw [← hw4]; simp [z3]
  rw [hw4]
  have b04 : Below w.heap.size w w4 := ((b1.trans (b2.mono (by omega))).trans (b3.mono (by omega))).trans (b4.mono (by omega))
  have b14 : Below w1.heap.size w1 w4 := (b2.trans (b3.mono (by omega))).trans (b4.mono (by omega))
  have f24 : Fr (fun _ => False) w2 w4 := Fr.of_below (b3.trans (b4.mono (by omega)))
  have f34 : Fr (fun _ => False) w3 w4 := Fr.of_below b4
  refine ⟨rfl, ⟨⟨n, ?_, ?_, ?_⟩, ⟨_, B1.below b14, ?_, fun i b hb => ?_⟩, ⟨_, own_tight (own_fr M1 f24 (fun h => h)), fun i => rfl⟩, ⟨_, own_tight (own_fr M2 f34 (fun h => h)), fun i => rfl⟩, Dk.new_ok h1 h2 h3 h4, ⟨by omega, by omega, by omega, by omega, by omega, by omega⟩, fun b hb => hb.elim⟩, z4, b04⟩
  · have e : (Dk.new n s).fast.length = n := by simp [Dk.new]
    rw [e]; exact B4
  · simp [Dk.new]
  · omega
  · simp [Dk.new]
  · have hb' : (List.replicate n (List.replicate s (0 : UInt8)))[i]? = some b := hb
    obtain ⟨hi, hbi⟩ := List.getElem?_eq_some_iff.1 hb'
    rw [List.getElem_replicate] at hbi
    rw [List.length_replicate] at hi
    subst hbi
    exact ⟨.slice none 0 0, by rw [List.getElem?_replicate, if_pos hi], none, 0, 0, rfl, Nat.le_refl _, by omega, .inl ⟨rfl, rfl, rfl, by simp⟩⟩
end
end Go.Proofs.YtoaodmidegkolaaDoor
namespace Go.Proofs.YtoaodmidegkolaaDoor
set_option maxRecDepth 20000
open Go.RowKit Go.Px Go.Maps
set_option linter.unusedVariables false
section
variable {w : World} {Q : Nat → Prop} {t f lm bm : Nat} {d : Dk}
/-- Write, whatever it is told. -/
theorem write08_any (h : DIs w Q t f lm bm d) (hQ : ∀ b, w.heap.size ≤ b → Q b) (i : Int) (A : Option Addr) (m c : Nat) (b : List UInt8) (hi1 : -9223372036854775808 ≤ i) (hi2 : i ≤ 9223372036854775807) (hm : b.length = m) (hmc : m ≤ c) (hc : c ≤ 9223372036854775807) (hrb : Rd w A (bys b)) (hA : bys b ≠ [] → ∀ a, A = some a → ¬ OwnB t f lm bm a.block) :
    Calls Tryd.prog 40 #[.pointer (some ⟨t, 0, none⟩), .int .i64 i, .slice A m c] w fun e w' => e = .returned (.int .i64 (d.writeE i b)) ∧ DIs w' Q t f lm bm (d.write i b) ∧ Fr (OwnB t f lm bm) w w' := by
  by_cases he : d.writeE i b = 0
  · rw [he]; exact write08_ok h hQ i A m c b hm hmc hc hrb hA he
  · have hw : d.write i b = d := if_neg he
    rw [hw]
    refine (write08_bad h i A m c b hi1 hi2 hm hmc hc he).mono ?_
    rintro e w' ⟨h1, h2, h3⟩
    exact ⟨h1, h2, fr_own h3 (.inl rfl)⟩
def NotOwn (t f lm bm : Nat) (b : Nat) : Prop := ¬ OwnB t f lm bm b
theorem DIs.notOwn (h : DIs w Q t f lm bm d) : DIs w (NotOwn t f lm bm) t f lm bm d :=
  h.mono (fun b hb hx => by have := h.out b hb; rcases hx with h | h | h | h <;> simp_all) (fun b hb => ⟨fun e => hb (.inl e), fun e => hb (.inr (.inl e)), fun e => hb (.inr (.inr (.inl e))), fun e => hb (.inr (.inr (.inr e)))⟩)
theorem DIs.notOwn_new (h : DIs w Q t f lm bm d) : ∀ b, w.heap.size ≤ b → NotOwn t f lm bm b := fun b hb hx => by
  have := h.lts
  rcases hx with h | h | h | h <;> omega
end
end Go.Proofs.YtoaodmidegkolaaDoor
