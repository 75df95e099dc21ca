/- Package sector: Read. -/
import Derived.Test.YtdianokikhggnaaF08d
import Derived.Deep.RegionWith
namespace Go.Proofs.Ytdianokikhggnaa
set_option maxRecDepth 20000
open Go.RowKit Go.Px Go.Maps
set_option linter.unusedVariables false
section
variable {w : World} {Q : Nat → Prop} {t f lm bm : Nat} {d : Dk}
theorem DIs.low (h : DIs w Q t f lm bm d) : DIs w (fun b => Q b ∧ b < w.heap.size) t f lm bm d := by
  obtain ⟨h1, ⟨cs, r1, r2, r3⟩, ⟨D, l1, l2⟩, h4, h5, h6, h7⟩ := h
  have hs : ∀ v b, SecIs w Q v b → b ≠ [] → SecIs w (fun b => Q b ∧ b < w.heap.size) v b := by
    rintro v b ⟨A, n, c, e1, e2, e3, e4 | ⟨e4, e5, e6⟩⟩ hne
    · exact ⟨A, n, c, e1, e2, e3, .inl e4⟩
    · refine ⟨A, n, c, e1, e2, e3, .inr ⟨e4, e5, fun a ha => ⟨e6 a ha, ?_⟩⟩⟩
      have : bys b ≠ [] := fun e => hne (by simpa [bys] using e)
      exact rd_block e5 this a ha
  refine ⟨h1, ⟨cs, r1, r2, fun i b hi => ?_⟩, ⟨D, l1, fun i => ?_⟩, h4, h5, h6, fun b hb => h7 b hb.1⟩
  · obtain ⟨v, hv, hsv⟩ := r3 i b hi
    refine ⟨v, hv, hs v b hsv fun e => ?_⟩
    have := h5.fl b (List.mem_of_getElem? hi)
    rw [e] at this
    have := h5.s1
    simp at *
    omega
  · have hl := l2 i
    cases hm : d.loose i with
    | none => rw [hm] at hl; exact hl
    | some bs =>
      rw [hm] at hl
      obtain ⟨q0, A, n, c, q1, q2, q3, q4, q5, q6⟩ := hl
      refine ⟨q0, A, n, c, q1, q2, q3, q4, q5, fun a ha => ⟨q6 a ha, ?_⟩⟩
      refine rd_block q5 (fun e => ?_) a ha
      have h8 := (h5.lo i bs hm).2.2
      have h9 := h5.s1
      have : bs = [] := by simpa [bys] using e
      rw [this] at h8
      simp at h8
      omega
theorem below_cell08 {w w' : World} (hb : Below w.heap.size w w') {a : Addr} {u : Value} (h : w.cell? a = some u) : w'.cell? a = some u := (hb.cell (p := a) (World.block_lt_of_cell? w _ h)).trans h
theorem blk_setRow {W : World} {g : Nat} {cs cs' : List Value} {T : TypeId} (h : Blk W g cs T) : Blk (W.setRow g cs'.toArray) g cs' T := h.setAll _
theorem fr_setRow (W : World) (g : Nat) (cs : List Value) : Fr (fun x => x = g) W (W.setRow g cs.toArray) := ⟨rfl, rfl, rfl, by simp [World.setRow], fun k _ hne => heap_setRow_other W g k _ (fun e => hne e)⟩
/-- n sectors from i on, one behind the other. -/
def Dk.flat (d : Dk) (i n : Nat) : List UInt8 := (List.range n).flatMap fun k => d.bytesD (i + k)
theorem Dk.flat_succ (d : Dk) (i n : Nat) : d.flat i (n + 1) = d.flat i n ++ d.bytesD (i + n) := by
  unfold Dk.flat; rw [List.range_succ, List.flatMap_append]; simp
theorem Dk.flat_len {d : Dk} (ok : d.Ok) {i : Nat} : ∀ {n : Nat}, i + n ≤ d.fast.length → (d.flat i n).length = n * d.size
  | 0, _ => by simp [Dk.flat]
  | n + 1, h => by rw [Dk.flat_succ, List.length_append, Dk.flat_len ok (by omega), Dk.bytesD_len ok (by omega), Nat.succ_mul]
def inN (N : Nat) (i n : Int) : Prop := 0 ≤ i ∧ 0 ≤ n ∧ i ≤ (N : Int) ∧ n ≤ (N : Int) - i
instance (N : Nat) (i n : Int) : Decidable (inN N i n) := by unfold inN; exact inferInstance
abbrev Dk.inR (d : Dk) (i n : Int) : Prop := inN d.fast.length i n
def Dk.readE (d : Dk) (i n : Int) : Int := if d.inR i n then (if (List.range n.toNat).any (fun k => d.unread (i + (k : Int))) = true then 81 else 0) else 5
def Dk.readB (d : Dk) (i n : Int) : List UInt8 := if d.readE i n = 0 then d.flat i.toNat n.toNat else []
/-- What a buffer holds behind j sectors. -/
def Dk.part (d : Dk) (i K j : Nat) : List UInt8 := d.flat i j ++ List.replicate ((K - j) * d.size) 0
theorem Dk.part_len {d : Dk} (ok : d.Ok) {i K j : Nat} (h : i + K ≤ d.fast.length) (hj : j ≤ K) : (d.part i K j).length = K * d.size := by
  unfold Dk.part
  rw [List.length_append, Dk.flat_len ok (by omega), List.length_replicate, ← Nat.add_mul, Nat.add_sub_cancel' hj]
theorem Dk.part_next {d : Dk} (ok : d.Ok) {i K j : Nat} (h : i + K ≤ d.fast.length) (hj : j < K) : bys (d.part i K (j + 1)) = spl (bys (d.part i K j)) (j * d.size) (bys (d.bytesD (i + j))) := by
  have hf := Dk.flat_len ok (i := i) (n := j) (by omega)
  have hb := Dk.bytesD_len ok (i := i + j) (by omega)
  have hz : List.replicate ((K - j) * d.size) (0 : UInt8) = List.replicate d.size 0 ++ List.replicate ((K - (j + 1)) * d.size) 0 := by
    rw [List.replicate_append_replicate]
    congr 1
    rw [show K - j = (K - (j + 1)) + 1 by omega, Nat.succ_mul]; omega
  unfold Dk.part spl
  rw [Dk.flat_succ, hz]
  simp only [bys_append]
  rw [List.take_left' (by rw [bys_length, hf]), bys_length, hb, show j * d.size + d.size = (bys (d.flat i j) ++ bys (List.replicate d.size 0)).length by simp [bys_length, hf], ← List.append_assoc (bys (d.flat i j)) (bys (List.replicate d.size 0)), List.drop_left]
theorem Dk.part_same {d : Dk} (ok : d.Ok) {i K j : Nat} (h : i + K ≤ d.fast.length) (hj : j < K) (hz : d.bytesD (i + j) = List.replicate (d.bytesD (i + j)).length 0) : d.part i K (j + 1) = d.part i K j := by
  have hb := Dk.bytesD_len ok (i := i + j) (by omega)
  rw [hb] at hz
  unfold Dk.part
  rw [Dk.flat_succ, hz, List.append_assoc, List.replicate_append_replicate]
  congr 2
  rw [show K - j = (K - (j + 1)) + 1 by omega, Nat.succ_mul]; omega
theorem read08_out (h : DIs w Q t f lm bm d) (i n : Int) (hi1 : -9223372036854775808 ≤ i) (hi2 : i ≤ 9223372036854775807) (hn1 : -9223372036854775808 ≤ n) (hn2 : n ≤ 9223372036854775807) (hno : ¬ d.inR i n) :
    Calls Try.prog 18 #[.pointer (some ⟨t, 0, none⟩), .int .i64 i, .int .i64 n] w fun e w' => e = .returned (.tuple #[.slice none 0 0, .int .i64 5]) ∧ w = w' := by
  obtain ⟨cc, b1, _⟩ := h.blk
  have x1 := b1.cell (j := 1) rfl
  have hN := h.ok.n2
  have HM := hide (made08_any h)
  obtain ⟨N, hNe⟩ : ∃ N, d.fast.length = N := ⟨_, rfl⟩
  unfold Dk.inR inN at hno
  rw [hNe] at hN x1 hno
  clear h b1 hNe
  rcases (show i < 0 ∨ (0 ≤ i ∧ n < 0) ∨ (0 ≤ i ∧ 0 ≤ n ∧ (N : Int) < i) ∨ (0 ≤ i ∧ 0 ≤ n ∧ i ≤ (N : Int) ∧ (N : Int) - i < n) by omega) with h1 | ⟨h1, h2⟩ | ⟨h1, h2, h3⟩ | ⟨h1, h2, h3, h4⟩
  · have q1 : decide (i < 0) = true := decide_eq_true h1
    clear hno
    go_enter Try.func18, Try.ntmps18
    go_wp2_with fail
    go_fit HM.out
    rintro x w1 ⟨rfl, rfl⟩
    go_wp2
    refine bodyPost_ret (results_tmp2 rfl _ _ _) rfl ?_
    exact ⟨rfl, rfl⟩
  · have q1 : decide (i < 0) = false := decide_eq_false (by omega)
    have q2 : decide (n < 0) = true := decide_eq_true h2
    clear hno
    go_enter Try.func18, Try.ntmps18
    go_wp2_with fail
    go_fit HM.out
    rintro x w1 ⟨rfl, rfl⟩
    go_wp2
    refine bodyPost_ret (results_tmp2 rfl _ _ _) rfl ?_
    exact ⟨rfl, rfl⟩
  · have q1 : decide (i < 0) = false := decide_eq_false (by omega)
    have q2 : decide (n < 0) = false := decide_eq_false (by omega)
    have q3 : decide ((N : Int) < i) = true := decide_eq_true h3
    clear hno
    go_enter Try.func18, Try.ntmps18
    go_wp2_with fail
    go_fit HM.out
    rintro x w1 ⟨rfl, rfl⟩
    go_wp2
    refine bodyPost_ret (results_tmp2 rfl _ _ _) rfl ?_
    exact ⟨rfl, rfl⟩
  · have q1 : decide (i < 0) = false := decide_eq_false (by omega)
    have q2 : decide (n < 0) = false := decide_eq_false (by omega)
    have q3 : decide ((N : Int) < i) = false := decide_eq_false (by omega)
    have hw : IntKind.i64.wrap ((N : Int) - i) = (N : Int) - i := by rw [IntKind.wrap_i64]; omega
    have q4 : decide ((N : Int) - i < n) = true := decide_eq_true h4
    clear hno
    go_enter Try.func18, Try.ntmps18
    go_wp2_with fail
    go_fit HM.out
    rintro x w1 ⟨rfl, rfl⟩
    go_wp2
    refine bodyPost_ret (results_tmp2 rfl _ _ _) rfl ?_
    exact ⟨rfl, rfl⟩
theorem read_step {W : World} {o I K p a L : Nat} {A : Option Addr} {n c : Nat} (ok : d.Ok) (hB : Blk W o (bys (d.part I K p)) 5) (hIK : I + K ≤ d.fast.length) (hp : p < K) (hs : SecIs W Q (.slice A n c) (d.bytesD (I + p))) (ha : p * d.size = a) (hL : K * d.size = L) (ty : TypeId) :
    (Builtin.copy_ #[29, 29] ty #[.slice (some ⟨o, a, none⟩) (L - a) (L - a), .slice A n c]).run Try.prog W = .ok (goInt (n : Nat)) (W.setRow o (bys (d.part I K (p + 1))).toArray) := by
  have hb := Dk.bytesD_len ok (i := I + p) (by omega)
  have hal : a + d.size ≤ L := by
    rw [← ha, ← hL, ← Nat.succ_mul]; exact Nat.mul_le_mul_right _ hp
  have hpl := Dk.part_len ok hIK (Nat.le_of_lt hp)
  obtain ⟨A', n', c', hv, hnc, hc, hcase⟩ := hs
  injection hv with e1 e2 e3
  subst e1 e2 e3
  rcases hcase with ⟨rfl, rfl, rfl, hz⟩ | ⟨hn, hr, _⟩
  · have := run_copyB (P := Try.prog) (w := W) (dT := 29) (sT := 29) (ty := ty) (dLen := L - a) (dCap := L - a) (off := a) (m := 0) (c := 0) (A := none) (ys := []) hB tBytes rfl Rd.nil (fun u hu => by cases hu) (by rw [bys_length, hpl, hL]; omega)
    rw [this, List.take_nil, spl_nil, Dk.part_same ok hIK hp hz, Nat.zero_min]
  · have := run_copyB (P := Try.prog) (w := W) (dT := 29) (sT := 29) (ty := ty) (dLen := L - a) (dCap := L - a) (off := a) (m := n) (c := c) (A := A) (ys := bys (d.bytesD (I + p))) hB tBytes (by rw [bys_length, hn]) hr (bys_one _) (by rw [bys_length, hpl, hL]; omega)
    rw [this, List.take_of_length_le (by rw [bys_length]; omega), Dk.part_next ok hIK hp, ha, show min n (L - a) = n by omega]
set_option maxHeartbeats 1600000 in
theorem read08_in (h : DIs w Q t f lm bm d) (I K : Nat) (hIK : I + K ≤ d.fast.length) :
    Calls Try.prog 18 #[.pointer (some ⟨t, 0, none⟩), .int .i64 (I : Int), .int .i64 (K : Int)] w fun e w' => ∃ A c, e = .returned (.tuple #[.slice A (d.readB (I : Int) (K : Int)).length c, .int .i64 (d.readE (I : Int) (K : Int))]) ∧ (d.readB (I : Int) (K : Int)).length ≤ c ∧ c ≤ 9223372036854775807 ∧ Rd w' A (bys (d.readB (I : Int) (K : Int))) ∧ (∀ a, A = some a → w.heap.size ≤ a.block) ∧ Below w.heap.size w w' := by
  obtain ⟨cc, b1, _⟩ := h.blk
  have x0 := b1.cell (j := 0) rfl
  have x1 := b1.cell (j := 1) rfl
  have hN := h.ok.n2
  have hs1 := h.ok.s1
  have hs2 := h.ok.s2
  have HM := hide (made08_any h)
  have HU := hide (fun (W : World) (hW : Below w.heap.size w W) (x : Nat) (hx : x < I + K) => unread08_any (h.below hW) (x : Int) (by omega) (by omega))
  have hin : d.inR (I : Int) (K : Int) := ⟨by omega, by omega, by omega, by omega⟩
  have hE1 : ∀ x : Nat, I ≤ x → x < I + K → d.unread (x : Int) = true → d.readE (I : Int) (K : Int) = 81 := fun x hx1 hx2 hu => by
    unfold Dk.readE
    rw [if_pos hin, if_pos]
    rw [List.any_eq_true]
    exact ⟨x - I, by simp; omega, by rw [show (I : Int) + ((x - I : Nat) : Int) = (x : Int) by omega]; exact hu⟩
  have hE0 : (∀ x : Nat, I ≤ x → x < I + K → d.unread (x : Int) = false) → d.readE (I : Int) (K : Int) = 0 := fun hu => by
    unfold Dk.readE
    rw [if_pos hin, if_neg]
    rw [List.any_eq_true]
    rintro ⟨j, hj, hj2⟩
    simp at hj
    have := hu (I + j) (by omega) (by omega)
    rw [show ((I + j : Nat) : Int) = (I : Int) + (j : Int) by omega, hj2] at this
    cases this
  have hE81 : d.readE (I : Int) (K : Int) = 81 → d.readB (I : Int) (K : Int) = [] := fun he => by unfold Dk.readB; rw [he]; rfl
  have hEB : d.readE (I : Int) (K : Int) = 0 → d.readB (I : Int) (K : Int) = d.flat I K := fun he => by unfold Dk.readB; rw [he, if_pos rfl, Int.toNat_natCast, Int.toNat_natCast]
  have H := hide h
  have HE1 := hide hE1
  have HE0 := hide hE0
  have HE81 := hide hE81
  have HEB := hide hEB
  have ok := h.ok
  have hfl := Dk.flat_len ok hIK
  obtain ⟨S, hSe⟩ : ∃ S, d.size = S := ⟨_, rfl⟩
  obtain ⟨N, hNe⟩ : ∃ N, d.fast.length = N := ⟨_, rfl⟩
  have HNe := hide hNe
  have HSe := hide hSe
  have Hok := hide ok
  have Hfl := hide hfl
  rw [hSe] at hs1 hs2 x0
  rw [hNe] at hN hIK x1
  have hKS : K * S ≤ 536870912 := by
    have : K * S ≤ 65536 * 8192 := Nat.mul_le_mul (by omega) hs2
    omega
  have B1 := hide b1
  clear h b1 hin hE1 hE0 hE81 hEB ok hfl hSe hNe
  have q1 : decide ((I : Int) < 0) = false := decide_eq_false (by omega)
  have q2 : decide ((K : Int) < 0) = false := decide_eq_false (by omega)
  have q3 : decide (N < I) = false := decide_eq_false (by omega)
  have hw : IntKind.i64.wrap ((N : Int) - (I : Int)) = (N : Int) - (I : Int) := by rw [IntKind.wrap_i64]; omega
  have q4 : decide ((N : Int) - (I : Int) < (K : Int)) = false := decide_eq_false (by omega)
  obtain ⟨M, hM⟩ : ∃ M, I + K = M := ⟨_, rfl⟩
  have hw2 : IntKind.i64.wrap ((I : Int) + (K : Int)) = (M : Int) := by rw [IntKind.wrap_i64]; omega
  have HMe := hide hM
  go_enter Try.func18, Try.ntmps18
  go_wp2_with fail
  go_fit HM.out
  rintro x w1 ⟨rfl, rfl⟩
  go_wp2_with fail
  rw [hM] at HU HE1 HE0
  have hMN : I ≤ M ∧ M ≤ N := by omega
  have hMK : M = I + K := hM.symm
  clear hM
  have HMK := hide hMK
  clear hMK
  go_loopw [8] (fun s8 W => ∃ k : Nat, s8 = .int .i64 (k : Int) ∧ I ≤ k ∧ k ≤ M ∧ Below w.heap.size w W ∧ Hid (∀ x : Nat, I ≤ x → x < k → d.unread (x : Int) = false)) (fun s _ => M - (RowKit.intOf s).toNat)
  case atStart => exact ⟨I, rfl, Nat.le_refl _, hMN.1, Below.refl _ _, hide (fun x h1 h2 => by omega)⟩
  case round =>
    obtain ⟨k, rfl, hIk, hkM, hbw, HJ⟩ := hrel
    by_cases hlt : k < M
    · have HUj := hide (HU.out wr hbw k hlt)
      go_wp2_with fail
      refine HUj.out.mono ?_
      cases hu : d.unread (k : Int) with
      | true =>
        have he := HE1.out k hIk hlt hu
        have HE := hide he
        have HB := hide (HE81.out he)
        clear he hu
        rintro x w3 ⟨rfl, hb3⟩
        have hb03 := hbw.trans (hb3.mono hbw.size)
        go_wp2
        refine bodyPost_ret (results_tmp2 rfl _ _ _) rfl ?_
        exact ⟨none, 0, by rw [HE.out, HB.out]; rfl, by rw [HB.out]; exact Nat.le_refl _, by omega, by rw [HB.out]; exact Rd.nil, fun a ha => (by cases ha), hb03⟩
      | false =>
        have Hu := hide hu
        clear hu
        rintro x w3 ⟨rfl, hb3⟩
        have hb03 := hbw.trans (hb3.mono hbw.size)
        go_wp2
        go_roundw
        case rel => exact ⟨k + 1, by go_num, by omega, by omega, hb03, hide (fun x h1 h2 => by
          rcases Nat.lt_or_ge x k with hxk | hxk
          · exact HJ.out x h1 hxk
          · rw [show x = k by omega]; exact Hu.out)⟩
        case measure => simp [RowKit.intOf]; omega
    · have hkM' : k = M := by omega
      subst hkM'
      have he := HE0.out HJ.out
      have HE := hide he
      have HB := hide (HEB.out he)
      have hD := H.out.below hbw
      have x0' := below_cell08 hbw x0
      have hw4 : IntKind.i64.wrap ((K : Int) * (S : Int)) = ((K * S : Nat) : Int) := by rw [Int.natCast_mul, IntKind.wrap_i64]; have : ((K * S : Nat) : Int) = (K : Int) * (S : Int) := Int.natCast_mul K S; omega
      have hm1 := fun W => run_mkB (P := Try.prog) (t := 29) (e := 5) (z := .int .u8 0) (bytes := 1) Try.underlying29 (by kernel_rfl) rfl (N := K * S) (by omega) (by omega) W
      rw [Int.natCast_mul] at hm1 hw4
      obtain ⟨L, hL⟩ : ∃ L, K * S = L := ⟨_, rfl⟩
      rw [hL] at hm1 hKS
      have HL := hide hL
      obtain ⟨w3, hw3⟩ : ∃ y, wr.alloc (.cells (Array.replicate L (.int .u8 0)) 5) = y := ⟨_, rfl⟩
      obtain ⟨o, ho⟩ : ∃ y, wr.heap.size = y := ⟨_, rfl⟩
      have hb3 : Below wr.heap.size wr w3 := by rw [← hw3]; exact (Below.refl _ _).alloc (Nat.le_refl _) _
      have hB3 : Blk w3 o (bys (d.part I K 0)) 5 := by
        rw [← hw3, ← ho]
        have : bys (d.part I K 0) = List.replicate L (.int .u8 0) := by
          unfold Dk.part Dk.flat
          rw [List.range_zero, List.flatMap_nil, List.nil_append, Nat.sub_zero, HSe.out, hL]
          simp [bys]
        rw [this, show Array.replicate L (Value.int .u8 0) = (List.replicate L (Value.int .u8 0)).toArray by simp]
        exact Blk.new wr _ _
      have Hw3 := hide hw3
      have Ho := hide ho
      clear hw3 hL ho
      have hDis := hide hD
      clear hD he HU HM
      go_wp2_with fail
      rw [Hw3.out, Ho.out]
      have hb03 : Below w.heap.size w w3 := hbw.trans (hb3.mono hbw.size)
      have hD3 := H.out.below hb03
      have hol : w.heap.size ≤ o := by rw [← Ho.out]; exact hbw.size
      have hk3 : ∀ A xs, Rd w A xs → Rd w3 A xs := fun A xs hr => hr.below hb03
      obtain ⟨Qn, hQn⟩ : ∃ Qn : Nat → Prop, Qn = fun b => Q b ∧ b < w.heap.size := ⟨_, rfl⟩
      have hDl : DIs w3 Qn t f lm bm d := by
        have h1 : DIs w Qn t f lm bm d := by
          rw [hQn]; exact H.out.low
        exact h1.below hb03
      have hQo : ∀ b, Qn b → b ≠ o := fun b hb e => by rw [hQn] at hb; omega
      have hlt := H.out.lts
      have HDl := hide hDl
      have HQo := hide hQo
      clear hk3 hQn hDl hQo hD3
      go_loopw [10, 59] (fun _ s59 W => ∃ p : Nat, s59 = .int .i64 (p : Int) ∧ p ≤ K ∧ Blk W o (bys (d.part I K p)) 5 ∧ Fr (fun b => b = o) w3 W) (fun _ s _ => K - (RowKit.intOf s).toNat)
      case atStart => exact ⟨0, rfl, by omega, hB3, Fr.refl _ _⟩
      case round =>
        obtain ⟨p, rfl, hpK, hBp, hFp⟩ := hrel
        by_cases hlp : p < K
        · have hDp : DIs wr Qn t f lm bm d := HDl.out.fr hFp (by omega) (by omega) (by omega) (by omega) HQo.out
          obtain ⟨a, ha⟩ : ∃ a, p * S = a := ⟨_, rfl⟩
          have haL : a + S ≤ L := by
            rw [← ha, ← HL.out, ← Nat.succ_mul]; exact Nat.mul_le_mul_right _ hlp
          have hw5 : IntKind.i64.wrap ((p : Int) * (S : Int)) = (a : Int) := by rw [← Int.natCast_mul, ha, IntKind.wrap_i64]; omega
          have hw6 : IntKind.i64.wrap ((I : Int) + (p : Int)) = ((I + p : Nat) : Int) := by rw [IntKind.wrap_i64]; omega
          have hIp : I + p < d.fast.length := by rw [HNe.out]; omega
          have hIKd : I + K ≤ d.fast.length := by rw [HNe.out]; exact hIK
          obtain ⟨x, hx⟩ : ∃ x, I + p = x := ⟨_, rfl⟩
          have HBY := bytes08_any (w := wr.drew) (hDp.below (Below.refl _ _).drew) (I + p) hIp
          have HST := hide (fun (A : Option Addr) (n c : Nat) (hs : SecIs wr.drew Qn (.slice A n c) (d.bytesD (I + p))) => read_step (W := wr.drew) (I := I) (K := K) (p := p) (a := a) (L := L) Hok.out hBp hIKd hlp hs (by rw [HSe.out]; exact ha) (by rw [HSe.out]; exact HL.out) 3)
          rw [hx] at HBY HST hw6
          have HBY' := hide HBY
          have xx0 : wr.cell? ⟨t, 0, none⟩ = some (.int .i64 (S : Int)) := by
            obtain ⟨c9, b9, _⟩ := hDp.blk
            have := b9.cell (j := 0) rfl
            rwa [HSe.out] at this
          have hB4 := fun (cs' : List Value) => blk_setRow (cs' := cs') (show Blk wr.drew o _ _ from hBp)
          have hF4 := fun (cs' : List Value) => (hFp.drew).trans (fr_setRow wr.drew o cs')
          have HB4 := hide hB4
          have HF4 := hide hF4
          have hcut : cutA (some ⟨o, 0, none⟩) L a 1 = some ⟨o, a, none⟩ := by
            unfold cutA; rw [if_neg (by omega)]
            show some ((⟨o, 0, none⟩ : Addr).add (a * 1)) = _
            rw [Nat.mul_one]; unfold Addr.add; split <;> simp_all
          clear HBY hDp hBp hx hB4 hF4 ha hIp hIKd
          go_wp2_with fail
          go_region_with (first
            | (refine HBY'.out.mono ?_; rintro e w5 ⟨A5, n5, c5, rfl, hsec, rfl⟩; have hcp := HST.out A5 n5 c5 hsec))
          all_goals
            go_wp2
            go_roundw
            case rel => exact ⟨p + 1, by go_num, by omega, HB4.out _, HF4.out _⟩
            case measure => simp [RowKit.intOf]; omega
        · have hpe : p = K := by omega
          subst hpe
          have hpart : d.part I p p = d.flat I p := by unfold Dk.part; rw [Nat.sub_self, Nat.zero_mul]; simp
          rw [hpart] at hBp
          have hL2 : (d.flat I p).length = L := by rw [Hfl.out, HSe.out]; exact HL.out
          have HR := hide (show Rd wr (some ⟨o, 0, none⟩) (bys (d.flat I p)) from Rd.of_some fun j u hu => by
            have := hBp.cell hu
            rwa [show (⟨o, 0, none⟩ : Addr).add j = ⟨o, j, none⟩ by unfold Addr.add; split <;> simp_all])
          have HL2 := hide hL2
          have Hb := hide (hFp.below hb03 hb03.size (fun b hb => by omega))
          clear hpart hBp hL2 hFp
          go_wp2
          refine bodyPost_ret (results_tmp2 rfl _ _ _) rfl ?_
          rw [HB.out, HE.out]
          exact ⟨some ⟨o, 0, none⟩, L, by rw [HL2.out]; rfl, by rw [HL2.out]; exact Nat.le_refl _, by omega, HR.out, fun a ha => by injection ha with ha; rw [← ha]; exact hol, Hb.out⟩
/-- What Read answers, whatever it is asked. -/
theorem read08_any (h : DIs w Q t f lm bm d) (i n : Int) (hi1 : -9223372036854775808 ≤ i) (hi2 : i ≤ 9223372036854775807) (hn1 : -9223372036854775808 ≤ n) (hn2 : n ≤ 9223372036854775807) :
    Calls Try.prog 18 #[.pointer (some ⟨t, 0, none⟩), .int .i64 i, .int .i64 n] w fun e w' => ∃ A c, e = .returned (.tuple #[.slice A (d.readB i n).length c, .int .i64 (d.readE i n)]) ∧ (d.readB i n).length ≤ c ∧ c ≤ 9223372036854775807 ∧ Rd w' A (bys (d.readB i n)) ∧ (∀ a, A = some a → w.heap.size ≤ a.block) ∧ Below w.heap.size w w' := by
  by_cases hin : d.inR i n
  · obtain ⟨g1, g2, g3, g4⟩ := hin
    obtain ⟨I, rfl⟩ : ∃ I : Nat, i = (I : Int) := ⟨i.toNat, by omega⟩
    obtain ⟨K, rfl⟩ : ∃ K : Nat, n = (K : Int) := ⟨n.toNat, by omega⟩
    exact read08_in h I K (by omega)
  · refine (read08_out h i n hi1 hi2 hn1 hn2 hin).mono ?_
    rintro e w' ⟨rfl, rfl⟩
    have he : d.readE i n = 5 := if_neg hin
    have hb : d.readB i n = [] := by unfold Dk.readB; rw [he]; rfl
    rw [he, hb]
    exact ⟨none, 0, rfl, Nat.le_refl _, by omega, Rd.nil, fun a ha => (by cases ha), Below.refl _ _⟩
end
end Go.Proofs.Ytdianokikhggnaa
