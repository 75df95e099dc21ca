/- Texts joined (shake.py). -/
import Derived.Deep.RegionHeldLaw
import Derived.Test.YtkknkdjdneldlaaGreatK71
import Derived.Test.YtkknkdjdneldlaaGreatK74
import Derived.Test.YtkknkdjdneldlaaGreatK75
import Derived.Test.YtkknkdjdneldlaaGreatK78
import Derived.Test.YtkknkdjdneldlaaGreatK710
import Derived.Test.YtkknkdjdneldlaaGreatK712
namespace Go.Proofs.YtkknkdjdneldlaaGreat
set_option maxRecDepth 20000
open Go.RowKit Go.Px Go.Maps
set_option linter.unusedVariables false
theorem RwRows.loQ {w w' : World} {B : Nat} {Q : Nat → Prop} {cs : List Value} {es : List RowT} (h : RwRows w (fun b => Q b ∧ b < B) cs es) (hb : Below B w w') : RwRows w' (fun b => Q b ∧ b < B) cs es := h.keep (fun A xs hr hq => hr.lo (fun a ha => (hq a ha).2) hb) (fun _ h => h)
theorem finQ {w : World} {r n c B : Nat} {A : Option Addr} (hB : Blk w r [.slice A n c] 98) {Q : Nat → Prop} {acc : List RowT} {vs : List Value} (hacc : RwRows w (fun b => Q b ∧ b < B) vs acc) (u : Value) :
    RwRows (w.setCell ⟨r, 0, none⟩ u) Q vs acc := by
  have hg := grown_set w ⟨r, 0, none⟩ u
  refine ⟨hacc.1, fun j e he => ?_⟩
  obtain ⟨D, d, dc, h1, h2, h3, h4, h5, h6, h7, h8, h9, h10⟩ := hacc.2 j e he
  refine ⟨D, d, dc, h1, h2, h3, h4, h5, h6, h7, h8, ?_, fun hne a ha => (h10 hne a ha).1⟩
  cases hb : e.2.2.2 with
  | nil => exact Rd.nil
  | cons b bs =>
    rw [hb] at h9
    exact h9.grown hg (fun a ha e' => rd_sepV hB h9 (k := .u8) (y := (b.toNat : Int)) rfl a ha (Option.some.inj e'))
set_option maxRecDepth 20000 in
set_option maxHeartbeats 3200000 in
theorem rput_okQ {w : World} {r : Nat} {A : Option Addr} {n c : Nat} {cs : List Value} {es : List RowT} (h : RfIs w r A n c cs es) {m : TM} (ht : TbOf m es) (x s : Int) (k : Nat) (D : Option Addr) (d dc : Nat) (bs : List UInt8) (hk : k < 256) (hd : bs.length = d) (hdc : d ≤ dc) (hdm : dc ≤ 9223372036854775807) (hr : Rd w D (bys bs)) (hE : (askV m n x s).2.1 = 0) (hR : rsE k d = 0) (hV : (askV m n x s).1 = 1) (hn64 : n ≤ 4096) {QQ : Nat → Prop} (hrq : RwRows w QQ cs es) (hDQ : bs ≠ [] → ∀ a, D = some a → QQ a.block) : Calls Tryz.prog 48 #[.pointer (some ⟨r, 0, none⟩), .int .i64 x, .int .i64 s, resv k D d dc] w fun e w' => e = .returned (.int .i64 0) ∧ (∃ A' c' cs', RfIs w' r A' (insG (x, s, k, bs) false es).length c' cs' (insG (x, s, k, bs) false es) ∧ RwRows w' QQ cs' (insG (x, s, k, bs) false es) ∧ (∀ a, A' = some a → w.heap.size ≤ a.block)) ∧ w.grownBy w' (some r) := by
  obtain ⟨w0, hw0⟩ : ∃ x, w.alloc (.cells #[.int .u8 k, .slice D d dc] 40) = x := ⟨_, rfl⟩
  have hBP : Blk w0 w.heap.size [.int .u8 k, .slice D d dc] 40 := by rw [← hw0]; exact Blk.new w [.int .u8 k, .slice D d dc] _
  have hbw0 : Below w.heap.size w w0 := by rw [← hw0]; exact (Below.refl _ _).alloc (Nat.le_refl _) _
  have Hw0 := hide hw0
  clear hw0
  have h0 := h.below hbw0
  have p0 := hBP.cell (j := 0) rfl
  have p1 := hBP.cell (j := 1) rfl
  have Hd := hide hd
  clear hd
  go_enter Tryz.func48, Tryz.ntmps48
  go_wp2_with fail
  rw [Hw0.out]
  go_fit (rask_any h0 ht x s)
  rintro xx w1 ⟨D1, d1, dc1, rfl, hd1, hdc1, hdm1, hk1, hr1, hb1⟩
  have hb01 := hbw0.trans (hb1.mono hbw0.size)
  obtain ⟨V, hVV⟩ : ∃ V, (askV m n x s).1 = V := ⟨_, rfl⟩
  rw [hE]
  first | rw [hVV] at hV ⊢ | rw [hVV]
  obtain ⟨k1, hkk⟩ : ∃ k1, (askV m n x s).2.2.1 = k1 := ⟨_, rfl⟩
  rw [hkk]
  clear hVV hkk hd1 hr1 hk1 hE
  have hbA : Below w1.heap.size w1 (w1.alloc (.cells #[.int .u8 k1, .slice D1 d1 dc1] 40)) := (Below.refl _ _).alloc (Nat.le_refl _) _
  have hb02 := hb01.trans (hbA.mono hb01.size)
  have hP1 := hBP.below hb1
  clear p0 p1
  have p0 := (hP1.alloc (.cells #[.int .u8 k1, .slice D1 d1 dc1] 40)).cell (j := 0) rfl
  have p1 := (hP1.alloc (.cells #[.int .u8 k1, .slice D1 d1 dc1] 40)).cell (j := 1) rfl
  have HV := hide hV
  clear hV
  go_wp2_with fail
  go_fit (rresult_any k D d dc _ hk)
  rintro xx w3 ⟨rfl, hb3⟩
  have hb03 := hb02.trans (hb3.mono hb02.size)
  rw [HV.out]
  rw [hR]
  have hP3 := (hP1.alloc (.cells #[.int .u8 k1, .slice D1 d1 dc1] 40)).below hb3
  clear p0 p1
  have p0 := hP3.cell (j := 0) rfl
  have p1 := hP3.cell (j := 1) rfl
  obtain ⟨w4, hw4⟩ : ∃ y, w3.alloc (.cells #[.int .i64 x, .int .i64 s, .int .u8 k, .slice D d dc] 100) = y := ⟨_, rfl⟩
  have hB4 : Blk w4 w3.heap.size [.int .i64 x, .int .i64 s, .int .u8 k, .slice D d dc] 100 := by rw [← hw4]; exact Blk.new w3 [.int .i64 x, .int .i64 s, .int .u8 k, .slice D d dc] _
  have hb34 : Below w3.heap.size w3 w4 := by rw [← hw4]; exact (Below.refl _ _).alloc (Nat.le_refl _) _
  have hb04 := hb03.trans (hb34.mono hb03.size)
  have h4 := h.below hb04
  have hrq4 := hrq.below hb04
  have s04 := hb04.size
  have hrD := hr.below hb04
  have hqD : bs ≠ [] → ∀ a, D = some a → a.block < w4.heap.size := rd_ltB hrD
  have hqP : bs ≠ [] → ∀ a, D = some a → QQ a.block ∧ a.block < w4.heap.size := fun h1 a h2 => ⟨hDQ h1 a h2, hqD h1 a h2⟩
  have Hw4 := hide hw4
  have g3 := hB4.lt
  have hl4 := h4.rows.1
  have hlen := h4.len
  clear hw4 HV hR ht hb1 hbA hb02 hb01 hbw0 hb3 hb34 hP1 hP3 hr
  go_wp2_with fail
  rw [Hw4.out]
  go_loopw [13, 14, 15] (fun o b iv wr => ∃ (i : Nat) (bi : Bool) (acc : List RowT) (vs : List Value), i ≤ n ∧ iv = .int .i64 i ∧ b = .bool bi ∧ acc ++ insG (x, s, k, bs) bi (es.drop i) = insG (x, s, k, bs) false es ∧ wr.ownsRow w4.heap.size 100 4 o acc.length vs ∧ RwRows wr (fun b => QQ b ∧ b < w4.heap.size) vs acc ∧ Below w4.heap.size w4 wr ∧ acc.length ≤ i + 1 ∧ (bi = false → acc.length ≤ i)) (fun _ _ iv _ => n - (intOf iv).toNat)
  case atStart => exact ⟨0, false, [], [], by omega, rfl, rfl, by simp, ⟨by simp, .inl ⟨rfl, rfl⟩⟩, RwRows.nil, Below.refl _ _, by simp, by simp⟩
  case round =>
    obtain ⟨i, bi, acc, vs, hin, rfl, rfl, hI, hown, hacc, hbw, hal, hal2⟩ := hrel
    have HI := hide hI
    have hr' := h4.below hbw
    have x0 := hr'.blk.cell (j := 0) rfl
    have hcm := h4.cm
    have hnc := h4.nc
    clear hI
    by_cases hlt : i < n
    · obtain ⟨e, he⟩ : ∃ e, es[i]? = some e := ⟨_, List.getElem?_eq_getElem (by omega)⟩
      obtain ⟨a, hAa, hat⟩ := hr'.rd.some_of (xs := cs) (by rw [hl4, hlen]; omega)
      obtain ⟨A9, d9, dc9, e0, e1, e2, e3, h98, h9d, h9c, h9m, h9r, h9w⟩ := hrq4.2 i e he
      have y0 := rd4_0 hat e0
      have y1 := rd4_S (i := 0) hat e1
      have y2 := rd4_S (i := 1) hat e2
      have y3 := rd4_S (i := 2) hat e3
      have E0 := hide e0
      have E1 := hide e1
      have E2 := hide e2
      have E3 := hide e3
      clear e0 e1 e2 e3
      have hS := fun bi => insG_step (row := (x, s, k, bs)) (bi := bi) he
      obtain ⟨c9, s9, k9, b9⟩ := e
      simp only at y0 y1 y2 h98 h9d h9r h9w hS
      have h9q : b9 ≠ [] → ∀ a, A9 = some a → a.block < w4.heap.size := rd_ltB h9r
      have h9P : b9 ≠ [] → ∀ a, A9 = some a → QQ a.block ∧ a.block < w4.heap.size := fun h1 a h2 => ⟨h9w h1 a h2, h9q h1 a h2⟩
      have H9d := hide h9d
      rw [hAa] at x0
      have hAa0 := hide hAa
      clear hat he h9d hAa
      have hZ := hbw.size
      have R' := hB4.below hbw
      have r0 := R'.cell (j := 0) rfl
      have r1 := R'.cell (j := 1) rfl
      have r2 := R'.cell (j := 2) rfl
      have r3 := R'.cell (j := 3) rfl
      have hlo := own_lt hown
      by_cases hin2 : bi = false ∧ x ≤ c9
      · obtain ⟨rfl, hle⟩ := hin2
        have hal3 := hal2 rfl
        clear hal2
        by_cases heq : c9 = x
        · have q : (c9 != x) = false := by simpa using heq
          have HS := hide (hS false)
          rw [show decide (x ≤ c9) = true by simpa using hle, if_pos heq] at HS
          clear hS heq
          obtain ⟨wN1, hwN1⟩ : ∃ y, wr.alloc (.cells #[.int .i64 x, .int .i64 s, .int .u8 k, .slice D d dc] 100) = y := ⟨_, rfl⟩
          have hbN1 : Below wr.heap.size wr wN1 := by rw [← hwN1]; exact (Below.refl _ _).alloc (Nat.le_refl _) _
          have hrN1 : Rd wN1 (some ⟨wr.heap.size, 0, none⟩) [.int .i64 x, .int .i64 s, .int .u8 k, .slice D d dc] := by rw [← hwN1]; exact Rd.newN wr [.int .i64 x, .int .i64 s, .int .u8 k, .slice D d dc] _ (0, 0)
          have HwN1 := hide hwN1
          have hoN1 := own_below hown hbN1
          have szN1 := hbN1.size
          clear hwN1
          go_wp2_with (first | (with_reducible refine stop_append rfl ?_) | (with_reducible refine stop_copy rfl ?_) | (with_reducible refine stop_make rfl ?_))
          rw [HwN1.out]
          refine go_append (v := u13) rfl rfl tRows rfl hoN1 rfl (m := 1) (news := [.int .i64 x, .int .i64 s, .int .u8 k, .slice D d dc]) rfl hrN1 (by intro u hu; simp at hu; rcases hu with rfl | rfl | rfl | rfl <;> rfl) (by omega) (by omega) (by omega) ?_
          intro v5 w5 how5 hgw5 hvw5
          have hsw5 : Below w4.heap.size wr w5 := (hbN1.mono (by omega)).grown hgw5 (by omega) (fun q hq => (own_lt hown q hq).1)
          have hbw5 : Below w4.heap.size wr w5 := Below.trans (b := wr) (Below.refl _ _) hsw5
          have szw5 := hgw5.size
          have haw5 := (hacc.loQ hsw5).snoc (c := x) (s := s) (k := k) (A := D) (dc := dc) hk Hd.out hdc hdm (rd_loB hrD (hbw.trans hbw5) hqD) hqP
          have hrw5 := h4.below (hbw.trans hbw5)
          have hat : ∀ (j : Nat) (u : Value), cs[j]? = some u → w5.cell? (a.add j) = some u := fun j u hu => by obtain ⟨a', ha', hc⟩ := hrw5.rd j u hu; rw [hAa0.out] at ha'; injection ha' with ha'; subst ha'; exact hc
          clear x0 y0 y1 y2 y3
          have x0 := hrw5.blk.cell (j := 0) rfl
          rw [hAa0.out] at x0
          have y0 := rd4_0 hat E0.out
          have y1 := rd4_S (i := 0) hat E1.out
          have y2 := rd4_S (i := 1) hat E2.out
          have y3 := rd4_S (i := 2) hat E3.out
          clear hat
          go_wp2
          go_roundw
          case rel => exact ⟨i + 1, true, acc ++ [(x, s, k, bs)], _, by omega, by go_num, rfl, by rw [← HI.out, HS.out]; simp, by simpa using how5, haw5, (hbw.trans hbw5), by (try simp only [List.length_append, List.length_cons, List.length_nil]); omega, by simp⟩
          case measure => simp [intOf]; omega
        · have q : (c9 != x) = true := by simpa using heq
          have HS := hide (hS false)
          rw [show decide (x ≤ c9) = true by simpa using hle, if_neg heq] at HS
          clear hS heq
          obtain ⟨wN1, hwN1⟩ : ∃ y, wr.alloc (.cells #[.int .i64 x, .int .i64 s, .int .u8 k, .slice D d dc] 100) = y := ⟨_, rfl⟩
          have hbN1 : Below wr.heap.size wr wN1 := by rw [← hwN1]; exact (Below.refl _ _).alloc (Nat.le_refl _) _
          have hrN1 : Rd wN1 (some ⟨wr.heap.size, 0, none⟩) [.int .i64 x, .int .i64 s, .int .u8 k, .slice D d dc] := by rw [← hwN1]; exact Rd.newN wr [.int .i64 x, .int .i64 s, .int .u8 k, .slice D d dc] _ (0, 0)
          have HwN1 := hide hwN1
          have hoN1 := own_below hown hbN1
          have szN1 := hbN1.size
          clear hwN1
          go_wp2_with (first | (with_reducible refine stop_append rfl ?_) | (with_reducible refine stop_copy rfl ?_) | (with_reducible refine stop_make rfl ?_))
          rw [HwN1.out]
          refine go_append (v := u13) rfl rfl tRows rfl hoN1 rfl (m := 1) (news := [.int .i64 x, .int .i64 s, .int .u8 k, .slice D d dc]) rfl hrN1 (by intro u hu; simp at hu; rcases hu with rfl | rfl | rfl | rfl <;> rfl) (by omega) (by omega) (by omega) ?_
          intro v5 w5 how5 hgw5 hvw5
          have hsw5 : Below w4.heap.size wr w5 := (hbN1.mono (by omega)).grown hgw5 (by omega) (fun q hq => (own_lt hown q hq).1)
          have hbw5 : Below w4.heap.size wr w5 := Below.trans (b := wr) (Below.refl _ _) hsw5
          have szw5 := hgw5.size
          have haw5 := (hacc.loQ hsw5).snoc (c := x) (s := s) (k := k) (A := D) (dc := dc) hk Hd.out hdc hdm (rd_loB hrD (hbw.trans hbw5) hqD) hqP
          have hrw5 := h4.below (hbw.trans hbw5)
          have hat : ∀ (j : Nat) (u : Value), cs[j]? = some u → w5.cell? (a.add j) = some u := fun j u hu => by obtain ⟨a', ha', hc⟩ := hrw5.rd j u hu; rw [hAa0.out] at ha'; injection ha' with ha'; subst ha'; exact hc
          clear x0 y0 y1 y2 y3
          have x0 := hrw5.blk.cell (j := 0) rfl
          rw [hAa0.out] at x0
          have y0 := rd4_0 hat E0.out
          have y1 := rd4_S (i := 0) hat E1.out
          have y2 := rd4_S (i := 1) hat E2.out
          have y3 := rd4_S (i := 2) hat E3.out
          clear hat
          obtain ⟨wN2, hwN2⟩ : ∃ y, w5.alloc (.cells #[.int .i64 c9, .int .i64 s9, .int .u8 k9, .slice A9 d9 dc9] 100) = y := ⟨_, rfl⟩
          have hbN2 : Below w5.heap.size w5 wN2 := by rw [← hwN2]; exact (Below.refl _ _).alloc (Nat.le_refl _) _
          have hrN2 : Rd wN2 (some ⟨w5.heap.size, 0, none⟩) [.int .i64 c9, .int .i64 s9, .int .u8 k9, .slice A9 d9 dc9] := by rw [← hwN2]; exact Rd.newN w5 [.int .i64 c9, .int .i64 s9, .int .u8 k9, .slice A9 d9 dc9] _ (0, 0)
          have HwN2 := hide hwN2
          have hoN2 := own_below how5 hbN2
          have szN2 := hbN2.size
          clear hwN2
          go_wp2_with (first | (with_reducible refine stop_append rfl ?_) | (with_reducible refine stop_copy rfl ?_) | (with_reducible refine stop_make rfl ?_))
          rw [HwN2.out]
          refine go_append (v := v5) rfl rfl tRows rfl hoN2 rfl (m := 1) (news := [.int .i64 c9, .int .i64 s9, .int .u8 k9, .slice A9 d9 dc9]) rfl hrN2 (by intro u hu; simp at hu; rcases hu with rfl | rfl | rfl | rfl <;> rfl) (by omega) (by omega) (by omega) ?_
          intro v6 w6 how6 hgw6 hvw6
          have hsw6 : Below w4.heap.size w5 w6 := (hbN2.mono (by omega)).grown hgw6 (by omega) (fun q hq => (own_lt how5 q hq).1)
          have hbw6 : Below w4.heap.size wr w6 := Below.trans (b := w5) hbw5 hsw6
          have szw6 := hgw6.size
          have haw6 := (haw5.loQ hsw6).snoc (c := c9) (s := s9) (k := k9) (A := A9) (dc := dc9) h98 H9d.out h9c h9m (rd_loB h9r (hbw.trans hbw6) h9q) h9P
          go_wp2
          go_roundw
          case rel => exact ⟨i + 1, true, acc ++ [(x, s, k, bs)] ++ [(c9, s9, k9, b9)], _, by omega, by go_num, rfl, by rw [← HI.out, HS.out]; simp, by simpa using how6, haw6, (hbw.trans hbw6), by (try simp only [List.length_append, List.length_cons, List.length_nil]); omega, by simp⟩
          case measure => simp [intOf]; omega
      · have hq1 : (bi = false → decide (x ≤ c9) = false) := fun hb => by simpa using fun hl => hin2 ⟨hb, hl⟩
        have HS := hide (hS bi)
        have hcon : (!bi && decide (x ≤ c9)) = false := by cases bi <;> simp_all
        have hor : (bi || decide (x ≤ c9)) = bi := by cases bi <;> simp_all
        rw [show ((!bi && decide ((x, s, k, bs).1 ≤ (c9, s9, k9, b9).1)) = false) from hcon, show ((bi || decide ((x, s, k, bs).1 ≤ (c9, s9, k9, b9).1)) = bi) from hor] at HS
        have hbi : bi = true ∨ (bi = false ∧ ¬ x ≤ c9) := by
          cases bi
          · exact .inr ⟨rfl, fun hl => hin2 ⟨rfl, hl⟩⟩
          · exact .inl rfl
        clear hS hq1 hcon hor hin2
        by_cases heq : c9 = x
        · have q : (c9 != x) = false := by simpa using heq
          rcases hbi with rfl | ⟨rfl, hno⟩
          · rw [if_pos heq] at HS
            clear heq
            go_wp2
            go_roundw
            case rel => exact ⟨i + 1, true, acc, _, by omega, by go_num, rfl, by rw [← HI.out, HS.out]; simp, by simpa using hown, hacc, hbw, by (try simp only [List.length_append, List.length_cons, List.length_nil]); omega, by simp⟩
            case measure => simp [intOf]; omega
          · exact absurd (by omega) hno
        · have q : (c9 != x) = true := by simpa using heq
          rw [if_neg heq] at HS
          clear heq
          rcases hbi with rfl | ⟨rfl, hno⟩
          · obtain ⟨wN1, hwN1⟩ : ∃ y, wr.alloc (.cells #[.int .i64 c9, .int .i64 s9, .int .u8 k9, .slice A9 d9 dc9] 100) = y := ⟨_, rfl⟩
            have hbN1 : Below wr.heap.size wr wN1 := by rw [← hwN1]; exact (Below.refl _ _).alloc (Nat.le_refl _) _
            have hrN1 : Rd wN1 (some ⟨wr.heap.size, 0, none⟩) [.int .i64 c9, .int .i64 s9, .int .u8 k9, .slice A9 d9 dc9] := by rw [← hwN1]; exact Rd.newN wr [.int .i64 c9, .int .i64 s9, .int .u8 k9, .slice A9 d9 dc9] _ (0, 0)
            have HwN1 := hide hwN1
            have hoN1 := own_below hown hbN1
            have szN1 := hbN1.size
            clear hwN1
            go_wp2_with (first | (with_reducible refine stop_append rfl ?_) | (with_reducible refine stop_copy rfl ?_) | (with_reducible refine stop_make rfl ?_))
            rw [HwN1.out]
            refine go_append (v := u13) rfl rfl tRows rfl hoN1 rfl (m := 1) (news := [.int .i64 c9, .int .i64 s9, .int .u8 k9, .slice A9 d9 dc9]) rfl hrN1 (by intro u hu; simp at hu; rcases hu with rfl | rfl | rfl | rfl <;> rfl) (by omega) (by omega) (by omega) ?_
            intro v5 w5 how5 hgw5 hvw5
            have hsw5 : Below w4.heap.size wr w5 := (hbN1.mono (by omega)).grown hgw5 (by omega) (fun q hq => (own_lt hown q hq).1)
            have hbw5 : Below w4.heap.size wr w5 := Below.trans (b := wr) (Below.refl _ _) hsw5
            have szw5 := hgw5.size
            have haw5 := (hacc.loQ hsw5).snoc (c := c9) (s := s9) (k := k9) (A := A9) (dc := dc9) h98 H9d.out h9c h9m (rd_loB h9r (hbw.trans hbw5) h9q) h9P
            go_wp2
            go_roundw
            case rel => exact ⟨i + 1, true, acc ++ [(c9, s9, k9, b9)], _, by omega, by go_num, rfl, by rw [← HI.out, HS.out]; simp, by simpa using how5, haw5, (hbw.trans hbw5), by (try simp only [List.length_append, List.length_cons, List.length_nil]); omega, by simp⟩
            case measure => simp [intOf]; omega
          · have q3 := hal2 rfl
            obtain ⟨wN1, hwN1⟩ : ∃ y, wr.alloc (.cells #[.int .i64 c9, .int .i64 s9, .int .u8 k9, .slice A9 d9 dc9] 100) = y := ⟨_, rfl⟩
            have hbN1 : Below wr.heap.size wr wN1 := by rw [← hwN1]; exact (Below.refl _ _).alloc (Nat.le_refl _) _
            have hrN1 : Rd wN1 (some ⟨wr.heap.size, 0, none⟩) [.int .i64 c9, .int .i64 s9, .int .u8 k9, .slice A9 d9 dc9] := by rw [← hwN1]; exact Rd.newN wr [.int .i64 c9, .int .i64 s9, .int .u8 k9, .slice A9 d9 dc9] _ (0, 0)
            have HwN1 := hide hwN1
            have hoN1 := own_below hown hbN1
            have szN1 := hbN1.size
            clear hwN1
            go_wp2_with (first | (with_reducible refine stop_append rfl ?_) | (with_reducible refine stop_copy rfl ?_) | (with_reducible refine stop_make rfl ?_))
            rw [HwN1.out]
            refine go_append (v := u13) rfl rfl tRows rfl hoN1 rfl (m := 1) (news := [.int .i64 c9, .int .i64 s9, .int .u8 k9, .slice A9 d9 dc9]) rfl hrN1 (by intro u hu; simp at hu; rcases hu with rfl | rfl | rfl | rfl <;> rfl) (by omega) (by omega) (by omega) ?_
            intro v5 w5 how5 hgw5 hvw5
            have hsw5 : Below w4.heap.size wr w5 := (hbN1.mono (by omega)).grown hgw5 (by omega) (fun q hq => (own_lt hown q hq).1)
            have hbw5 : Below w4.heap.size wr w5 := Below.trans (b := wr) (Below.refl _ _) hsw5
            have szw5 := hgw5.size
            have haw5 := (hacc.loQ hsw5).snoc (c := c9) (s := s9) (k := k9) (A := A9) (dc := dc9) h98 H9d.out h9c h9m (rd_loB h9r (hbw.trans hbw5) h9q) h9P
            go_wp2
            go_roundw
            case rel => exact ⟨i + 1, false, acc ++ [(c9, s9, k9, b9)], _, by omega, by go_num, rfl, by rw [← HI.out, HS.out]; simp, by simpa using how5, haw5, (hbw.trans hbw5), by (try simp only [List.length_append, List.length_cons, List.length_nil]); omega, (fun _ => by simp only [List.length_append, List.length_cons, List.length_nil]; omega)⟩
            case measure => simp [intOf]; omega
    · obtain rfl : i = n := by omega
      have R' := hB4.below hbw
      have hZ := hbw.size
      have rl := h4.blk.lt
      have fr := hr'.blk.frozen 0
      rw [List.drop_eq_nil_of_le (by omega)] at HI
      cases bi with
      | true =>
        have hF : insG (x, s, k, bs) false es = acc := HI.out.symm.trans (by simp [insG])
        obtain ⟨A1, c1, hv1, hl1, hc1, hcm1, hr1, ha1⟩ := own_out hown
        have hbf := hb04.trans ((hbw.trans (Below.refl _ _)).mono (hb04.size))
        have hszf := hbf.size
        obtain ⟨M, hM⟩ : ∃ M, acc.length = M := ⟨_, rfl⟩
        have hmm : M = acc.length := hM.symm
        have hMc : M ≤ c1 := by rw [hmm]; simpa using hc1
        have hfq := finQ (r := r) (h4.below (hbw.trans (Below.refl _ _))).blk hacc (.slice A1 M c1)
        have Hfq := hide hfq
        clear hfq
        have hfin := finR (T := 0) (h4.below (hbw.trans (Below.refl _ _))).blk hacc hM hr1 (fun a ha e => by have := (ha1 a ha).1; omega) hMc (by unfold maxLen at hcm1; omega)
        have hvM : (.slice A1 (acc.length) c1 : Value) = .slice A1 M c1 := by rw [hM]
        have HF := hide hF
        have Hfin := hide hfin
        have HM := hide hM
        have Hv1 := hide hv1
        clear hF hv1 hfin hM hmm hvM hl1 hr1
        have hvv := Hv1.out
        have hg := grown_chain (grown_of_below hbf (some r)) (grown_set wr ⟨r, 0, none⟩ (.slice A1 M c1)) (.inl rfl)
        have Hg := hide hg
        clear hg
        obtain rfl : u13 = .slice A1 M c1 := by first | (rw [hvv, HM.out]) | (rw [hvv, ← HM.out]; simp)
        clear hvv
        go_wp2
        go_ret
        exact ⟨rfl, ⟨A1, c1, by rw [HF.out, HM.out]; exact ⟨_, Hfin.out, Hfq.out, fun a ha => by have := (ha1 a ha).1; omega⟩⟩, Hg.out⟩
      | false =>
        have q3 := hal2 rfl
        have r0 := R'.cell (j := 0) rfl
        have r1 := R'.cell (j := 1) rfl
        have r2 := R'.cell (j := 2) rfl
        have r3 := R'.cell (j := 3) rfl
        obtain ⟨wN1, hwN1⟩ : ∃ y, wr.alloc (.cells #[.int .i64 x, .int .i64 s, .int .u8 k, .slice D d dc] 100) = y := ⟨_, rfl⟩
        have hbN1 : Below wr.heap.size wr wN1 := by rw [← hwN1]; exact (Below.refl _ _).alloc (Nat.le_refl _) _
        have hrN1 : Rd wN1 (some ⟨wr.heap.size, 0, none⟩) [.int .i64 x, .int .i64 s, .int .u8 k, .slice D d dc] := by rw [← hwN1]; exact Rd.newN wr [.int .i64 x, .int .i64 s, .int .u8 k, .slice D d dc] _ (0, 0)
        have HwN1 := hide hwN1
        have hoN1 := own_below hown hbN1
        have szN1 := hbN1.size
        clear hwN1
        go_wp2_with (first | (with_reducible refine stop_append rfl ?_) | (with_reducible refine stop_copy rfl ?_) | (with_reducible refine stop_make rfl ?_))
        rw [HwN1.out]
        refine go_append (v := u13) rfl rfl tRows rfl hoN1 rfl (m := 1) (news := [.int .i64 x, .int .i64 s, .int .u8 k, .slice D d dc]) rfl hrN1 (by intro u hu; simp at hu; rcases hu with rfl | rfl | rfl | rfl <;> rfl) (by omega) (by omega) (by omega) ?_
        intro v5 w5 how5 hgw5 hvw5
        have hsw5 : Below w4.heap.size wr w5 := (hbN1.mono (by omega)).grown hgw5 (by omega) (fun q hq => (own_lt hown q hq).1)
        have hbw5 : Below w4.heap.size wr w5 := Below.trans (b := wr) (Below.refl _ _) hsw5
        have szw5 := hgw5.size
        have haw5 := (hacc.loQ hsw5).snoc (c := x) (s := s) (k := k) (A := D) (dc := dc) hk Hd.out hdc hdm (rd_loB hrD (hbw.trans hbw5) hqD) hqP
        have hrw5 := h4.below (hbw.trans hbw5)
        clear x0 fr
        have x0 := hrw5.blk.cell (j := 0) rfl
        have fr := hrw5.blk.frozen 0
        have hF : insG (x, s, k, bs) false es = (acc ++ [(x, s, k, bs)]) := HI.out.symm.trans (by simp [insG])
        obtain ⟨A1, c1, hv1, hl1, hc1, hcm1, hr1, ha1⟩ := own_out how5
        have hbf := hb04.trans ((hbw.trans hbw5).mono (hb04.size))
        have hszf := hbf.size
        obtain ⟨M, hM⟩ : ∃ M, (acc ++ [(x, s, k, bs)]).length = M := ⟨_, rfl⟩
        have hmm : M = (acc ++ [(x, s, k, bs)]).length := hM.symm
        have hMc : M ≤ c1 := by rw [hmm]; simpa using hc1
        have hfq := finQ (r := r) (h4.below (hbw.trans hbw5)).blk haw5 (.slice A1 M c1)
        have Hfq := hide hfq
        clear hfq
        have hfin := finR (T := 0) (h4.below (hbw.trans hbw5)).blk haw5 hM hr1 (fun a ha e => by have := (ha1 a ha).1; omega) hMc (by unfold maxLen at hcm1; omega)
        have hvM : (.slice A1 ((acc ++ [(x, s, k, bs)]).length) c1 : Value) = .slice A1 M c1 := by rw [hM]
        have HF := hide hF
        have Hfin := hide hfin
        have HM := hide hM
        have Hv1 := hide hv1
        clear hF hv1 hfin hM hmm hvM hl1 hr1
        have hvv := Hv1.out
        have hg := grown_chain (grown_of_below hbf (some r)) (grown_set w5 ⟨r, 0, none⟩ (.slice A1 M c1)) (.inl rfl)
        have Hg := hide hg
        clear hg
        obtain rfl : v5 = .slice A1 M c1 := by first | (rw [hvv, HM.out]) | (rw [hvv, ← HM.out]; simp)
        clear hvv
        go_wp2
        go_ret
        exact ⟨rfl, ⟨A1, c1, by rw [HF.out, HM.out]; exact ⟨_, Hfin.out, Hfq.out, fun a ha => by have := (ha1 a ha).1; omega⟩⟩, Hg.out⟩

section
variable {w w' : World} {r : Nat} {A : Option Addr} {n c : Nat} {cs : List Value} {es : List RowT} {m : TM}
/-- What Put of the document's leaves; Q: where its rows may lie. -/
def PutQ (Q : Nat → Prop) (r : Nat) (es' : List RowT) (w w' : World) : Prop := (∃ A' c' cs', RfIs w' r A' es'.length c' cs' es' ∧ RwRows w' Q cs' es' ∧ (es' ≠ [] → ∀ a, A' = some a → Q a.block)) ∧ w.grownBy w' (some r)
theorem PutQ.same {Q : Nat → Prop} (h : RfIs w r A n c cs es) (hq : RwRows w Q cs es) (hA : es ≠ [] → ∀ a, A = some a → Q a.block) (hb : Below w.heap.size w w') : PutQ Q r es w w' := ⟨⟨A, c, cs, by have := h.below hb; rwa [← h.len] at this, hq.below hb, hA⟩, grown_of_below hb _⟩
theorem rput_any7 {Q : Nat → Prop} (h : RfIs w r A n c cs es) (hok : rowsB es = true) (hq : RwRows w Q cs es) (hA : es ≠ [] → ∀ a, A = some a → Q a.block) (hnew : ∀ b, w.heap.size ≤ b → Q b) (x s : Int) (k : Nat) (D : Option Addr) (d dc : Nat) (bs : List UInt8) (hk : k < 256) (hd : bs.length = d) (hdc : d ≤ dc) (hdm : dc ≤ 9223372036854775807) (hr : Rd w D (bys bs)) (hD : bs ≠ [] → ∀ a, D = some a → Q a.block) :
    Calls Tryz.prog 48 #[.pointer (some ⟨r, 0, none⟩), .int .i64 x, .int .i64 s, resv k D d dc] w fun e w' => (∃ E, e = .returned (.int .i64 E)) ∧ PutQ Q r (putR es x s k bs) w w' := by
  have ht : TbOf (tmOf es) es := ⟨tmOf_mem (rowsB_out hok).2.2, (rowsB_out hok).2.2⟩
  have hn : n ≤ 4096 := by have := (rowsB_out hok).1; have := h.len; omega
  have hl := h.len
  unfold putR putV
  rw [hl, hd]
  by_cases h1 : (askV (tmOf es) n x s).2.1 = 0
  · simp only [if_pos h1]
    by_cases h2 : rsE k d = 0
    · simp only [if_pos h2]
      by_cases h3 : (askV (tmOf es) n x s).1 = 4
      · simp only [if_pos h3]
        exact (rput_full h ht x s k D d dc bs hk hd hdc hdm hr h1 h2 h3).mono fun e w' ⟨he, hb⟩ => ⟨⟨_, he⟩, by simpa using PutQ.same h hq hA hb⟩
      · simp only [if_neg h3]
        by_cases h4 : (askV (tmOf es) n x s).1 = 1
        · simp only [if_pos h4]
          refine (rput_okQ h ht x s k D d dc bs hk hd hdc hdm hr h1 h2 h4 hn hq hD).mono fun e w' ⟨he, ⟨A', c', cs', hR, hQ', hA'⟩, hg⟩ => ⟨⟨_, he⟩, ?_⟩
          simp only [if_true]
          exact ⟨⟨A', c', cs', hR, hQ', fun _ a ha => hnew _ (hA' a ha)⟩, hg⟩
        · simp only [if_neg h4]
          exact (rput_arg h ht x s k D d dc bs hk hd hdc hdm hr h1 h2 ⟨h4, h3⟩).mono fun e w' ⟨he, hb⟩ => ⟨⟨_, he⟩, by simpa using PutQ.same h hq hA hb⟩
    · simp only [if_neg h2]
      exact (rput_badR h ht x s k D d dc bs hk hd hdc hdm hr h1 h2).mono fun e w' ⟨he, hb⟩ => ⟨⟨_, he⟩, by simpa [h2] using PutQ.same h hq hA hb⟩
  · simp only [if_neg h1]
    exact (rput_bad h ht x s k D d dc bs hk hd hdc hdm hr h1).mono fun e w' ⟨he, hb⟩ => ⟨⟨_, he⟩, by simpa [h1] using PutQ.same h hq hA hb⟩
end
end Go.Proofs.YtkknkdjdneldlaaGreat
namespace Go.Proofs.YtkknkdjdneldlaaGreat
set_option maxRecDepth 20000
open Go.RowKit Go.Px Go.Maps
set_option linter.unusedVariables false
set_option maxRecDepth 20000 in
set_option maxHeartbeats 1600000 in
theorem trload_at (A : Option Addr) (n c : Nat) (cs : List Value) (es : List RowT) (Q : Nat → Prop) (w : World) (hn : es.length = n) (hr : Rd w A cs) (hE : RwRows w Q cs es) (hB : rowsB es = true) :
    Calls Tryz.prog 63 #[.slice A n c] w fun e w' => ∃ r A' c', e = .returned (.tuple #[.pointer (some ⟨r, 0, none⟩), .int .i64 0]) ∧ RfIs w' r A' n c' cs es ∧ w.heap.size ≤ r ∧ (∀ a, A' = some a → w.heap.size ≤ a.block) ∧ Below w.heap.size w w' := by
  obtain ⟨h64, _, _⟩ := rowsB_out hB
  have HB := hide hB
  have hl := hE.1
  clear hB
  go_enter Tryz.func63, Tryz.ntmps63
  go_wp2_with fail
  go_fit (right_any A n c cs es Q w hn hr hE)
  rw [HB.out]
  rintro x w1 ⟨rfl, hb1⟩
  have hown : (w1.alloc (.cells #[] 100)).ownsRow w1.heap.size 100 4 (.slice (some ⟨w1.heap.size, 0, none⟩) 0 0) 0 [] := own_made #[] 0 0 (Nat.le_refl _) (Nat.le_refl _) (by decide) (by simp)
  have hb2 : Below w.heap.size w (w1.alloc (.cells #[] 100)) := hb1.alloc hb1.size _
  have hr2 := hr.below hb2
  have sz1 := hb1.size
  have ho0 : ∀ g, (Value.slice (some ⟨w1.heap.size, 0, none⟩) 0 0).ownBlock = some g → w.heap.size ≤ g := by
    intro g hg
    have hg' : w1.heap.size = g := by simpa [Value.ownBlock] using hg
    omega
  go_wp2_with (first | (with_reducible refine stop_append rfl ?_) | (with_reducible refine stop_copy rfl ?_) | (with_reducible refine stop_make rfl ?_))
  refine go_append rfl rfl tRows rfl hown rfl (m := n) (news := cs) (by omega) hr2 (rows_one hE) (by omega) (by omega) (by simp) ?_
  intro v w3 ho3 hg3 hv3
  have hb3 : Below w.heap.size w w3 := hb2.grown hg3 (by simp; omega) ho0
  obtain ⟨A1, c1, hv1, hl1, hc1, hcm1, hr1, ha1⟩ := own_out ho3
  subst hv1
  have sz3 := hb3.size
  go_wp2
  go_ret2
  refine ⟨w3.heap.size, A1, c1, by simp, ?_, sz3, (fun a ha => by have := (ha1 a ha).1; omega), hb3.alloc sz3 _⟩
  have hbz : Below w3.heap.size w3 (w3.alloc (.cells #[.slice A1 (0 + n) c1] 98)) := (Below.refl _ _).alloc (Nat.le_refl _) _
  rw [Nat.zero_add] at *
  exact ⟨Blk.new w3 [.slice A1 n c1] _, hn, hc1, by unfold maxLen at hcm1; omega, by simpa using hr1.below hbz, (hE.below (hb3.trans (hbz.mono sz3))).keep (fun _ _ h _ => h) (fun _ _ => trivial)⟩
/-- The blocks that the document's machine writes. -/
structure RFp where
  rb : Nat
  rv : Nat
  gb : Nat
  gv : Nat
  rt : Nat
def RFp.W (f : RFp) (k : Nat) : Prop := k = f.rb ∨ k = f.rv ∨ k = f.gb ∨ k = f.gv ∨ k = f.rt
/-- The document's machine in memory: nothing of it lies in Y; its volume's lies from lo on. -/
structure RMIs (w : World) (lo : Nat) (Y : Nat → Prop) (f : RFp) (a : MA) (NN cb cv n c : Nat) (rows sv cs : List Value) (A G : Option Addr) (gn gc : Nat) : Prop where
  blk : Blk w f.rb [.int .i64 a.num, .pointer (some ⟨f.rv, 0, none⟩), .pointer (some ⟨f.rt, 0, none⟩), .int .i64 a.ep, .slice G gn gc] 56
  vol : RVolIs w lo f.rv f.gb f.gv cb cv a.b a.z NN rows sv a.bs a.vs a.last
  tab : RfIs w f.rt A n c cs a.rows
  rq : RwRows w (fun b => ¬ Y b ∧ ¬ f.W b) cs a.rows
  aq : a.rows ≠ [] → ∀ x, A = some x → ¬ Y x.block ∧ ¬ f.W x.block
  gr : Rd w G (ints a.ms)
  gl : a.ms.length = gn
  gc_ : gn ≤ gc ∧ gc ≤ 9223372036854775807
  ok : grpOk a.ep a.ms = true
  gq : ∀ x, G = some x → ¬ Y x.block ∧ ¬ f.W x.block
  vq : ∀ i A c, i < a.b → rows[i]? = some (.slice A a.z c) → ∀ x, A = some x → ¬ Y x.block
  yA : ¬ Y f.rb ∧ ¬ Y f.rv ∧ ¬ Y f.gb ∧ ¬ Y f.gv ∧ ¬ Y f.rt
  lo2 : lo ≤ f.rb ∧ lo ≤ f.rt
  ne : f.rb ≠ f.rv ∧ f.rb ≠ f.gb ∧ f.rb ≠ f.gv ∧ f.rb ≠ f.rt ∧ f.rt ≠ f.rv ∧ f.rt ≠ f.gb ∧ f.rt ≠ f.gv
/-- .. somehow. -/
def RMX (w : World) (lo : Nat) (Y : Nat → Prop) (f : RFp) (a : MA) : Prop := ∃ NN cb cv n c rows sv cs A G gn gc, RMIs w lo Y f a NN cb cv n c rows sv cs A G gn gc
section
variable {X Y : Nat → Prop} {w w' : World} {lo : Nat} {f : RFp} {a : MA} {NN cb cv n c : Nat} {rows sv cs : List Value} {A G : Option Addr} {gn gc : Nat}
theorem RVolIs.frQ {rv gb gv b z N : Nat} {bs : List UInt8} {vs : List Int} {last : Int} (h : RVolIs w lo rv gb gv cb cv b z N rows sv bs vs last) (hq : ∀ i A c, i < b → rows[i]? = some (.slice A z c) → ∀ x, A = some x → ¬ Y x.block) (h1 : ¬ Y rv) (h2 : ¬ Y gb) (h3 : ¬ Y gv) (hf : Fr X w w') (hx : ∀ b, X b → b < w.heap.size → Y b) : RVolIs w' lo rv gb gv cb cv b z N rows sv bs vs last := by
  exact { h with
    blk := h.blk.fr hf (fun hX => h1 (hx _ hX h.blk.lt))
    row := h.row.fr hf (fun hX => h2 (hx _ hX h.row.lt))
    ver := h.ver.fr hf (fun hX => h3 (hx _ hX h.ver.lt))
    cells := fun i hi => by
      obtain ⟨A, c, q1, q2, q3, q4, q5⟩ := h.cells i hi
      exact ⟨A, c, q1, q2, q3, q4.fr hf (fun hne a ha hX => hq i A c hi q1 a ha (hx _ hX (rd_block q4 hne a ha))), q5⟩ }
theorem RVolIs.page_ne {rv gb gv b z N : Nat} {bs : List UInt8} {vs : List Int} {last : Int} (h : RVolIs w lo rv gb gv cb cv b z N rows sv bs vs last) {i : Nat} (hi : i < b) : bys (segB bs i 1 z) ≠ [] := by
  intro e
  have h1 := segB_length (p := i) (n := 1) h.lb h.hN (by omega)
  have h2 := congrArg List.length e
  rw [bys_length, h1] at h2
  have := h.hz.1
  simp at h2
  omega
theorem RfIs.fr {Q : Nat → Prop} {r : Nat} {es : List RowT} (h : RfIs w r A n c cs es) (hq : RwRows w Q cs es) (hA : es ≠ [] → ∀ x, A = some x → Q x.block) (hf : Fr X w w') (h1 : ¬ X r) (hx : ∀ b, X b → b < w.heap.size → ¬ Q b) : RfIs w' r A n c cs es ∧ RwRows w' Q cs es := by
  have hq' : RwRows w' Q cs es := by
    refine ⟨hq.1, fun j e he => ?_⟩
    obtain ⟨D, d, dc, q1, q2, q3, q4, q5, q6, q7, q8, q9, q10⟩ := hq.2 j e he
    refine ⟨D, d, dc, q1, q2, q3, q4, q5, q6, q7, q8, q9.fr hf (fun hne a ha hX => ?_), q10⟩
    exact hx _ hX (rd_block q9 hne a ha) (q10 (fun e0 => hne (by rw [e0]; rfl)) a ha)
  refine ⟨⟨h.blk.fr hf h1, h.len, h.nc, h.cm, h.rd.fr hf (fun hne a ha hX => ?_), hq'.keep (fun _ _ h _ => h) (fun _ _ => trivial)⟩, hq'⟩
  refine hx _ hX (rd_block h.rd hne a ha) (hA (fun e0 => hne ?_) a ha)
  have := hq.1
  rw [e0] at this
  exact List.eq_nil_of_length_eq_zero (by simpa using this)
theorem RMIs.fr (h : RMIs w lo Y f a NN cb cv n c rows sv cs A G gn gc) (hf : Fr X w w') (hX : ∀ b, X b → b < w.heap.size → Y b) : RMIs w' lo Y f a NN cb cv n c rows sv cs A G gn gc := by
  obtain ⟨y1, y2, y3, y4, y5⟩ := h.yA
  obtain ⟨t1, t2⟩ := h.tab.fr h.rq h.aq hf (fun hx => y5 (hX _ hx h.tab.blk.lt)) (fun b h1 h2 h3 => h3.1 (hX b h1 h2))
  exact { h with
    blk := h.blk.fr hf (fun hx => y1 (hX _ hx h.blk.lt))
    vol := h.vol.frQ h.vq y2 y3 y4 hf hX
    tab := t1
    rq := t2
    gr := h.gr.fr hf (fun hne x hx hX' => (h.gq x hx).1 (hX _ hX' (rd_block h.gr hne x hx))) }
theorem RwRows.imp {Q Q' : Nat → Prop} {es : List RowT} (h : RwRows w Q cs es) (hQ : ∀ b, b < w.heap.size → Q b → Q' b) : RwRows w Q' cs es := by
  refine ⟨h.1, fun j e he => ?_⟩
  obtain ⟨D, d, dc, q1, q2, q3, q4, q5, q6, q7, q8, q9, q10⟩ := h.2 j e he
  exact ⟨D, d, dc, q1, q2, q3, q4, q5, q6, q7, q8, q9, fun hne a ha => hQ _ (rd_block q9 (fun e0 => hne (List.map_eq_nil_iff.1 e0)) a ha) (q10 hne a ha)⟩
theorem RMIs.ms_ne (h : RMIs w lo Y f a NN cb cv n c rows sv cs A G gn gc) : ints a.ms ≠ [] := fun e => by
  have h1 : a.ms.length = 0 := by simpa [ints] using congrArg List.length e
  have := grp_len h.ok
  omega
theorem RMIs.cs_ne (h : RMIs w lo Y f a NN cb cv n c rows sv cs A G gn gc) (hne : a.rows ≠ []) : cs ≠ [] := fun e => hne (by
  have := h.rq.1
  rw [e] at this
  simp only [List.length_nil] at this
  exact List.eq_nil_of_length_eq_zero (by omega))
theorem RMIs.avoid {Z : Nat → Prop} (h : RMIs w lo Y f a NN cb cv n c rows sv cs A G gn gc) (hZ : ∀ b, Z b → w.heap.size ≤ b) : RMIs w lo (fun b => Y b ∨ Z b) f a NN cb cv n c rows sv cs A G gn gc := by
  obtain ⟨y1, y2, y3, y4, y5⟩ := h.yA
  have no : ∀ b, b < w.heap.size → ¬ Y b → ¬ (Y b ∨ Z b) := fun b h1 h2 h3 => by
    rcases h3 with h3 | h3
    · exact h2 h3
    · have := hZ b h3; omega
  exact { h with
    vq := fun i A c hi hr x hx => by
      obtain ⟨A', c', q1, q2, q3, q4, q5⟩ := h.vol.cells i hi
      rw [hr] at q1
      injection q1 with q1
      injection q1 with e1
      subst e1
      exact no _ (rd_block q4 (h.vol.page_ne hi) x hx) (h.vq i A c hi hr x hx)
    rq := h.rq.imp fun b hb hq => ⟨no b hb hq.1, hq.2⟩
    aq := fun hne x hx => ⟨no _ (rd_block h.tab.rd (h.cs_ne hne) x hx) (h.aq hne x hx).1, (h.aq hne x hx).2⟩
    gq := fun x hx => ⟨no _ (rd_block h.gr h.ms_ne x hx) (h.gq x hx).1, (h.gq x hx).2⟩
    yA := ⟨no _ h.blk.lt y1, no _ h.vol.blk.lt y2, no _ h.vol.row.lt y3, no _ h.vol.ver.lt y4, no _ h.tab.blk.lt y5⟩ }
theorem RMIs.free {Y' : Nat → Prop} (h : RMIs w lo Y f a NN cb cv n c rows sv cs A G gn gc) (hY : ∀ b, Y' b → Y b) : RMIs w lo Y' f a NN cb cv n c rows sv cs A G gn gc := by
  obtain ⟨y1, y2, y3, y4, y5⟩ := h.yA
  exact { h with
    vq := fun i A c hi hr x hx hy => h.vq i A c hi hr x hx (hY _ hy)
    rq := h.rq.imp fun b _ hq => ⟨fun hy => hq.1 (hY _ hy), hq.2⟩
    aq := fun hne x hx => ⟨fun hy => (h.aq hne x hx).1 (hY _ hy), (h.aq hne x hx).2⟩
    gq := fun x hx => ⟨fun hy => (h.gq x hx).1 (hY _ hy), (h.gq x hx).2⟩
    yA := ⟨fun hy => y1 (hY _ hy), fun hy => y2 (hY _ hy), fun hy => y3 (hY _ hy), fun hy => y4 (hY _ hy), fun hy => y5 (hY _ hy)⟩ }
theorem RMIs.below (h : RMIs w lo Y f a NN cb cv n c rows sv cs A G gn gc) (hb : Below w.heap.size w w') : RMIs w' lo Y f a NN cb cv n c rows sv cs A G gn gc :=
  h.fr (X := fun _ => False) (Fr.of_below hb) (fun b h => h.elim)
theorem RMX.fr (h : RMX w lo Y f a) (hf : Fr X w w') (hX : ∀ b, X b → b < w.heap.size → Y b) : RMX w' lo Y f a := by
  obtain ⟨NN, cb, cv, n, c, rows, sv, cs, A, G, gn, gc, h⟩ := h
  exact ⟨NN, cb, cv, n, c, rows, sv, cs, A, G, gn, gc, h.fr hf hX⟩
theorem RMX.below (h : RMX w lo Y f a) (hb : Below w.heap.size w w') : RMX w' lo Y f a :=
  h.fr (X := fun _ => False) (Fr.of_below hb) (fun b h => h.elim)
theorem RMX.avoid {Z : Nat → Prop} (h : RMX w lo Y f a) (hZ : ∀ b, Z b → w.heap.size ≤ b) : RMX w lo (fun b => Y b ∨ Z b) f a := by
  obtain ⟨NN, cb, cv, n, c, rows, sv, cs, A, G, gn, gc, h⟩ := h
  exact ⟨NN, cb, cv, n, c, rows, sv, cs, A, G, gn, gc, h.avoid hZ⟩
theorem RMX.free {Y' : Nat → Prop} (h : RMX w lo Y f a) (hY : ∀ b, Y' b → Y b) : RMX w lo Y' f a := by
  obtain ⟨NN, cb, cv, n, c, rows, sv, cs, A, G, gn, gc, h⟩ := h
  exact ⟨NN, cb, cv, n, c, rows, sv, cs, A, G, gn, gc, h.free hY⟩
theorem RMX.low (h : RMX w lo Y f a) : ∀ k, f.W k → lo ≤ k := by
  obtain ⟨NN, cb, cv, n, c, rows, sv, cs, A, G, gn, gc, h⟩ := h
  obtain ⟨l1, l2, l3⟩ := h.vol.hlo
  obtain ⟨l4, l5⟩ := h.lo2
  rintro k (rfl | rfl | rfl | rfl | rfl) <;> assumption
theorem RMX.lts (h : RMX w lo Y f a) : ∀ k, f.W k → k < w.heap.size := by
  obtain ⟨NN, cb, cv, n, c, rows, sv, cs, A, G, gn, gc, h⟩ := h
  rintro k (rfl | rfl | rfl | rfl | rfl)
  · exact h.blk.lt
  · exact h.vol.blk.lt
  · exact h.vol.row.lt
  · exact h.vol.ver.lt
  · exact h.tab.blk.lt
end
set_option maxRecDepth 20000 in
set_option maxHeartbeats 3200000 in
theorem rload7_bad {w : World} {Q : Nat → Prop} {x : StateD} {cs : List Value} (h : tyState.Is w Q x cs) (hx : stateB x = false) : Calls Tryz.prog 41 #[.agg cs.toArray] w fun e w' => e = .returned (.tuple #[.pointer none, .int .i64 72]) ∧ Below w.heap.size w w' := by
  have h' := h
  obtain ⟨sNum, sShapeBlocks, sShapeSize, sPages, sPagesA, sPagesn, sPagesc, sPagesv, sRows, sRowsA, sRowsn, sRowsc, sRowsv, sGroupEpoch, sGroupMembers, sGroupMembersA, sGroupMembersn, sGroupMembersc, sGroupMembersv, rfl, rfl, h1_sNum, h2_sNum, h1_sShapeBlocks, h2_sShapeBlocks, h1_sShapeSize, h2_sShapeSize, hl_sPages, hc_sPages, hm_sPages, hr_sPages, hq_sPages, he_sPages, hl_sRows, hc_sRows, hm_sRows, hr_sRows, hq_sRows, he_sRows, h1_sGroupEpoch, h2_sGroupEpoch, hl_sGroupMembers, hc_sGroupMembers, hm_sGroupMembers, hr_sGroupMembers, hq_sGroupMembers, he_sGroupMembers⟩ := State_out h'
  obtain ⟨w0, hw0⟩ : ∃ x, w.alloc (.cells #[.int .i64 sNum, .int .i64 sShapeBlocks, .int .i64 sShapeSize, .slice sPagesA sPagesn sPagesc, .slice sRowsA sRowsn sRowsc, .int .i64 sGroupEpoch, .slice sGroupMembersA sGroupMembersn sGroupMembersc] 30) = x := ⟨_, rfl⟩; have hBw0 : Blk w0 w.heap.size [.int .i64 sNum, .int .i64 sShapeBlocks, .int .i64 sShapeSize, .slice sPagesA sPagesn sPagesc, .slice sRowsA sRowsn sRowsc, .int .i64 sGroupEpoch, .slice sGroupMembersA sGroupMembersn sGroupMembersc] 30 := (by rw [← hw0]; exact Blk.new w [.int .i64 sNum, .int .i64 sShapeBlocks, .int .i64 sShapeSize, .slice sPagesA sPagesn sPagesc, .slice sRowsA sRowsn sRowsc, .int .i64 sGroupEpoch, .slice sGroupMembersA sGroupMembersn sGroupMembersc] _); have hbw0 : Below w.heap.size w w0 := (by rw [← hw0]; exact (Below.refl _ _).alloc (Nat.le_refl _) _); have Hw0 := hide hw0; clear hw0
  have h0 := h.below hbw0
  have y0 := Blk.cell hBw0 (j := 0) rfl; have y1 := Blk.cell hBw0 (j := 1) rfl; have y2 := Blk.cell hBw0 (j := 2) rfl; have y3 := Blk.cell hBw0 (j := 3) rfl; have y4 := Blk.cell hBw0 (j := 4) rfl; have y5 := Blk.cell hBw0 (j := 5) rfl; have y6 := Blk.cell hBw0 (j := 6) rfl
  have HX := hide hx
  clear hx
  go_enter Tryz.func41, Tryz.ntmps41
  go_wp2_with fail
  rw [Hw0.out]
  go_fit (rstate_any h0)
  rw [stE_no HX.out]
  rintro xx w1 ⟨rfl, hb1⟩
  go_wp2
  go_ret2
  exact ⟨rfl, hbw0.trans (hb1.mono hbw0.size)⟩
set_option maxRecDepth 20000 in
set_option maxHeartbeats 6400000 in
theorem rload7_any {w : World} {Q Y : Nat → Prop} {x : StateD} {cs : List Value} (h : tyState.Is w Q x cs) (hx : stateB x = true) (hQ : ∀ b, Q b → ¬ Y b) (hY : ∀ b, Y b → b < w.heap.size) : Calls Tryz.prog 41 #[.agg cs.toArray] w fun e w' =>
    ∃ f, e = .returned (.tuple #[.pointer (some ⟨f.rb, 0, none⟩), .int .i64 0]) ∧ RMX w' w.heap.size Y f (MA.of x) ∧ Below w.heap.size w w' := by
  have h' := h.here
  obtain ⟨sNum, sShapeBlocks, sShapeSize, sPages, sPagesA, sPagesn, sPagesc, sPagesv, sRows, sRowsA, sRowsn, sRowsc, sRowsv, sGroupEpoch, sGroupMembers, sGroupMembersA, sGroupMembersn, sGroupMembersc, sGroupMembersv, rfl, rfl, h1_sNum, h2_sNum, h1_sShapeBlocks, h2_sShapeBlocks, h1_sShapeSize, h2_sShapeSize, hl_sPages, hc_sPages, hm_sPages, hr_sPages, hq_sPages, he_sPages, hl_sRows, hc_sRows, hm_sRows, hr_sRows, hq_sRows, he_sRows, h1_sGroupEpoch, h2_sGroupEpoch, hl_sGroupMembers, hc_sGroupMembers, hm_sGroupMembers, hr_sGroupMembers, hq_sGroupMembers, he_sGroupMembers⟩ := State_out h'
  obtain ⟨x1, x2, x3, x4, x5, x6⟩ := stateB_out hx
  simp only at x1 x2 x3 x4 x5 x6
  obtain ⟨sShapeBlocks, sShapeSize, rfl, rfl, hb, hz⟩ := shE_out x2
  have hP := pg_of he_sPages
  have hE := rw_of he_sRows
  obtain ⟨hmi, _⟩ := i64rows he_sGroupMembers
  subst hmi
  obtain ⟨w0, hw0⟩ : ∃ x, w.alloc (.cells #[.int .i64 sNum, .int .i64 sShapeBlocks, .int .i64 sShapeSize, .slice sPagesA sPagesn sPagesc, .slice sRowsA sRowsn sRowsc, .int .i64 sGroupEpoch, .slice sGroupMembersA sGroupMembersn sGroupMembersc] 30) = x := ⟨_, rfl⟩; have hBw0 : Blk w0 w.heap.size [.int .i64 sNum, .int .i64 sShapeBlocks, .int .i64 sShapeSize, .slice sPagesA sPagesn sPagesc, .slice sRowsA sRowsn sRowsc, .int .i64 sGroupEpoch, .slice sGroupMembersA sGroupMembersn sGroupMembersc] 30 := (by rw [← hw0]; exact Blk.new w [.int .i64 sNum, .int .i64 sShapeBlocks, .int .i64 sShapeSize, .slice sPagesA sPagesn sPagesc, .slice sRowsA sRowsn sRowsc, .int .i64 sGroupEpoch, .slice sGroupMembersA sGroupMembersn sGroupMembersc] _); have hbw0 : Below w.heap.size w w0 := (by rw [← hw0]; exact (Below.refl _ _).alloc (Nat.le_refl _) _); have Hw0 := hide hw0; clear hw0
  have h0 := h.below hbw0
  have hP0 := hP.below hbw0
  have hE0 := hE.below hbw0
  have hrP := hr_sPages.below hbw0
  have hrE := hr_sRows.below hbw0
  have hrM := hr_sGroupMembers.below hbw0
  have gl := grp_len x5
  have hgd := good_of_mpA (by omega) x3
  have HlP := hide hl_sPages
  have HlE := hide hl_sRows
  have HlM := hide hl_sGroupMembers
  have HqE := hide hq_sRows
  have HqM := hide hq_sGroupMembers
  have HX := hide hx
  have X3 := hide x3
  have X4 := hide x4
  have X5 := hide x5
  have r64 := (rowsB_out x4).1
  have hgn : sGroupMembersn ≤ 9 := by rw [← HlM.out]; exact gl.2
  have hgp : 1 ≤ sGroupMembersn := by rw [← HlM.out]; exact gl.1
  have y0 := Blk.cell hBw0 (j := 0) rfl; have y1 := Blk.cell hBw0 (j := 1) rfl; have y2 := Blk.cell hBw0 (j := 2) rfl; have y3 := Blk.cell hBw0 (j := 3) rfl; have y4 := Blk.cell hBw0 (j := 4) rfl; have y5 := Blk.cell hBw0 (j := 5) rfl; have y6 := Blk.cell hBw0 (j := 6) rfl
  clear hl_sPages hl_sRows hl_sGroupMembers hq_sPages hq_sRows hq_sGroupMembers he_sPages he_sRows he_sGroupMembers hP hE hr_sPages hr_sRows hr_sGroupMembers hx x1 x2 x3 x4 x5 x6 h
  go_enter Tryz.func41, Tryz.ntmps41
  go_wp2_with fail
  rw [Hw0.out]
  go_fit (rstate_any h0)
  rw [stE_ok HX.out]
  rintro xx w1 ⟨rfl, hb1⟩
  have h01 : Below w0.heap.size w0 w1 := hb1
  have hB1 := hBw0.below h01
  have hP1 := hP0.below h01
  have hrP1 := hrP.below h01
  clear y0 y1 y2 y3 y4 y5 y6
  have y0 := Blk.cell hB1 (j := 0) rfl; have y1 := Blk.cell hB1 (j := 1) rfl; have y2 := Blk.cell hB1 (j := 2) rfl; have y3 := Blk.cell hB1 (j := 3) rfl; have y4 := Blk.cell hB1 (j := 4) rfl; have y5 := Blk.cell hB1 (j := 5) rfl; have y6 := Blk.cell hB1 (j := 6) rfl
  go_wp2_with fail
  go_fit (rload_okP sShapeBlocks sShapeSize (sShapeBlocks * sShapeSize) w1 hb hz rfl sPagesA sPagesn sPagesc sPagesv sPages HlP.out hc_sPages hm_sPages hrP1 hP1 (fun hne => rd_cells_lt hrP1 hP1.1 hne) (hP1.goodlt hgd hz.1) X3.out)
  rintro xx w2 ⟨rv, gb, gv, cb, cv, rows, sv, rfl, hV2, hb2⟩
  have h02 := h01.trans (hb2.mono h01.size)
  have hB2 := hBw0.below h02
  clear y0 y1 y2 y3 y4 y5 y6
  have y0 := Blk.cell hB2 (j := 0) rfl; have y1 := Blk.cell hB2 (j := 1) rfl; have y2 := Blk.cell hB2 (j := 2) rfl; have y3 := Blk.cell hB2 (j := 3) rfl; have y4 := Blk.cell hB2 (j := 4) rfl; have y5 := Blk.cell hB2 (j := 5) rfl; have y6 := Blk.cell hB2 (j := 6) rfl
  go_wp2_with fail
  go_fit (trload_at sRowsA sRowsn sRowsc sRowsv sRows _ w2 HlE.out (hrE.below h02) (hE0.below h02) X4.out)
  rintro xx w3 ⟨rt, A', c', rfl, hT3, hrt, hA', hb3⟩
  have h03 := h02.trans (hb3.mono h02.size)
  have hB3 := hBw0.below h03
  have hV3 := hV2.below hb3
  have hrM3 := hrM.below h03
  have hE3 := hE0.below h03
  have z0 := hbw0.size
  have z1 := h01.size
  have z2 := hb2.size
  have z3 := hb3.size
  have v1 := hV2.blk.lt
  have v2 := hV2.row.lt
  have v3 := hV2.ver.lt
  obtain ⟨l1, l2, l3⟩ := hV2.hlo
  have tl := hT3.blk.lt
  clear y0 y1 y2 y3 y4 y5 y6 hV2
  have y0 := hB3.cell (j := 0) rfl
  have y5 := hB3.cell (j := 5) rfl
  have y6 := hB3.cell (j := 6) rfl
  obtain ⟨w4, hw4⟩ : ∃ y, w3.alloc (.cells #[.int .i64 sNum, .pointer (some ⟨rv, 0, none⟩), .pointer (some ⟨rt, 0, none⟩), .int .i64 sGroupEpoch, .slice sGroupMembersA sGroupMembersn sGroupMembersc] 56) = y := ⟨_, rfl⟩
  have hM4 : Blk w4 w3.heap.size [.int .i64 sNum, .pointer (some ⟨rv, 0, none⟩), .pointer (some ⟨rt, 0, none⟩), .int .i64 sGroupEpoch, .slice sGroupMembersA sGroupMembersn sGroupMembersc] 56 := by rw [← hw4]; exact Blk.new w3 [.int .i64 sNum, .pointer (some ⟨rv, 0, none⟩), .pointer (some ⟨rt, 0, none⟩), .int .i64 sGroupEpoch, .slice sGroupMembersA sGroupMembersn sGroupMembersc] _
  have hb34 : Below w3.heap.size w3 w4 := by rw [← hw4]; exact (Below.refl _ _).alloc (Nat.le_refl _) _
  have Hw4 := hide hw4
  clear hw4
  go_wp2
  rw [Hw4.out]
  go_ret2
  have hWlo : ∀ b, (⟨w3.heap.size, rv, gb, gv, rt⟩ : RFp).W b → w.heap.size ≤ b := by
    rintro b (h | h | h | h | h) <;> simp only at h <;> omega
  have q1 : ∀ b, (Q b ∧ b < w.heap.size) → ¬ Y b ∧ ¬ (⟨w3.heap.size, rv, gb, gv, rt⟩ : RFp).W b := fun b hb => ⟨hQ b hb.1, fun hW => by have := hWlo b hW; omega⟩
  refine ⟨⟨w3.heap.size, rv, gb, gv, rt⟩, rfl, ⟨sShapeBlocks * sShapeSize, cb, cv, sRowsn, c', rows, sv, sRowsv, A', sGroupMembersA, sGroupMembersn, sGroupMembersc, ?_⟩, (hbw0.trans (h03.mono hbw0.size)).trans (hb34.mono (by omega))⟩
  have hT4 := hT3.below hb34
  have hE4 := (hE3.below hb34).keep (fun _ _ h _ => h) q1
  have haq : sRows ≠ [] → ∀ x, A' = some x → ¬ Y x.block ∧ ¬ (⟨w3.heap.size, rv, gb, gv, rt⟩ : RFp).W x.block := by
    intro hne x hx
    have h1 := hA' x hx
    obtain ⟨e0, er, he⟩ := List.exists_cons_of_ne_nil hne
    obtain ⟨D, d, dc, k0, _⟩ := hT3.rows.2 0 e0 (by rw [he]; rfl)
    have h2 := rd_block hT3.rd (fun e => by rw [e] at k0; simp at k0) x hx
    refine ⟨fun hy => by have := hY _ hy; omega, ?_⟩
    rintro (h | h | h | h | h) <;> simp only at h
    · omega
    · omega
    · omega
    · omega
    · exact rd_sepV hT3.blk hT3.rd (k := .i64) k0 x hx h
  exact { blk := hM4, vol := (hV3.below hb34).lower (by omega), tab := hT4, rq := hE4
          aq := haq
          gr := hrM3.below hb34, gl := HlM.out, gc_ := ⟨hc_sGroupMembers, hm_sGroupMembers⟩, ok := X5.out
          gq := fun x hx => q1 _ (HqM.out (fun e0 => by have := HlM.out; rw [e0] at this; simp at this; omega) x hx)
          vq := fun i A c hi hr x hx hy => by
            obtain ⟨A2, c2, q1, q2, q3, q4, q5⟩ := hV3.cells i hi
            rw [hr] at q1
            injection q1 with q1
            injection q1 with e1
            subst e1
            have := (q5 x hx).1
            have := hY _ hy
            omega
          yA := ⟨fun hy => by have := hY _ hy; simp only at this; omega, fun hy => by have := hY _ hy; simp only at this; omega, fun hy => by have := hY _ hy; simp only at this; omega, fun hy => by have := hY _ hy; simp only at this; omega, fun hy => by have := hY _ hy; simp only at this; omega⟩
          lo2 := by simp only; omega, ne := by simp only; omega }
end Go.Proofs.YtkknkdjdneldlaaGreat
namespace Go.Proofs.YtkknkdjdneldlaaGreat
set_option maxRecDepth 20000
open Go.RowKit Go.Px Go.Maps
set_option linter.unusedVariables false
theorem below_far7 {B : Nat} {X0 X : World} {g : Nat} (v0 v1 v2 v3 v4 v5 v6 : Value) (h : Below B X0 X) (hg : B ≤ g) : Below B X0 (((((((X.setCell ⟨g, 0, none⟩ v0).setCell ⟨g, 1, none⟩ v1).setCell ⟨g, 2, none⟩ v2).setCell ⟨g, 3, none⟩ v3).setCell ⟨g, 4, none⟩ v4).setCell ⟨g, 5, none⟩ v5).setCell ⟨g, 6, none⟩ v6) :=
  ((((((h.setCell (leBk hg) _).setCell (leBk hg) _).setCell (leBk hg) _).setCell (leBk hg) _).setCell (leBk hg) _).setCell (leBk hg) _).setCell (leBk hg) _
section
variable {Y : Nat → Prop} {w : World} {lo : Nat} {f : RFp} {a : MA} {NN cb cv n c : Nat} {rows sv cs : List Value} {A G : Option Addr} {gn gc : Nat}
set_option maxRecDepth 20000 in
set_option maxHeartbeats 6400000 in
theorem rstate7_any (h : RMIs w lo Y f a NN cb cv n c rows sv cs A G gn gc) (hok : a.Ok) (since : Int) : Calls Tryz.prog 18 #[.pointer (some ⟨f.rb, 0, none⟩), .int .i64 since] w fun e w' =>
    ∃ cs, e = .returned (.agg cs.toArray) ∧ tyState.Is w' (fun _ => True) (a.st since) cs ∧ Below w.heap.size w w' := by
  have hr64 := (rowsB_out hok.rows).1
  have hrng := pgL_range (b := a.b) (z := a.z) (bs := a.bs) (since := since) h.vol.hb.2 hok.num hok.vs
  have gl := grp_len h.ok
  have hn64 : n ≤ 64 := by rw [← h.tab.len]; exact hr64
  obtain ⟨g, hg⟩ : ∃ g, w.heap.size = g := ⟨_, rfl⟩
  obtain ⟨w0, hw0⟩ : ∃ x, w.alloc (.cells #[.int .i64 0, .int .i64 0, .int .i64 0, .slice none 0 0, .slice none 0 0, .int .i64 0, .slice none 0 0] 30) = x := ⟨_, rfl⟩
  have hZ : Blk w0 g [.int .i64 0, .int .i64 0, .int .i64 0, .slice none 0 0, .slice none 0 0, .int .i64 0, .slice none 0 0] 30 := by rw [← hw0, ← hg]; exact Blk.new w [.int .i64 0, .int .i64 0, .int .i64 0, .slice none 0 0, .slice none 0 0, .int .i64 0, .slice none 0 0] _
  have hb0 : Below w.heap.size w w0 := by rw [← hw0]; exact (Below.refl _ _).alloc (Nat.le_refl _) _
  have Hw0 := hide hw0
  have h0 := h.below hb0
  have HOk := hide hok
  have Hrng := hide hrng
  have zl := hZ.lt
  clear hw0 hok hrng
  have HM := hide (show ∀ X, Below w0.heap.size w0 X → RMIs X lo Y f a NN cb cv n c rows sv cs A G gn gc from fun X hX => h0.below hX)
  have Mk := hide (show ∀ X, Below w0.heap.size w0 X → (X.cell? ⟨f.rb, 0, none⟩ = some (.int .i64 a.num) ∧ X.cell? ⟨f.rb, 1, none⟩ = some (.pointer (some ⟨f.rv, 0, none⟩)) ∧ X.cell? ⟨f.rb, 2, none⟩ = some (.pointer (some ⟨f.rt, 0, none⟩)) ∧ X.cell? ⟨f.rb, 3, none⟩ = some (.int .i64 a.ep) ∧ X.cell? ⟨f.rb, 4, none⟩ = some (.slice G gn gc) ∧ X.cell? ⟨f.rv, 0, none⟩ = some (.int .i64 a.b) ∧ X.cell? ⟨f.rv, 1, none⟩ = some (.int .i64 a.z) ∧ X.cell? ⟨f.rt, 0, none⟩ = some (.slice A n c)) from fun X hX => ⟨(h0.below hX).blk.cell (j := 0) rfl, (h0.below hX).blk.cell (j := 1) rfl, (h0.below hX).blk.cell (j := 2) rfl, (h0.below hX).blk.cell (j := 3) rfl, (h0.below hX).blk.cell (j := 4) rfl, (h0.below hX).vol.blk.cell (j := 0) rfl, (h0.below hX).vol.blk.cell (j := 1) rfl, (h0.below hX).tab.blk.cell (j := 0) rfl⟩)
  have HAl := hide (show ∀ X o, Below w0.heap.size w0 X → Below w0.heap.size w0 (X.alloc o) from fun X o hX => hX.alloc hX.size o)
  have KZ := hide (show ∀ X, Below w0.heap.size w0 X → (X.cell? ⟨g, 0, none⟩ = some (.int .i64 0) ∧ X.cell? ⟨g, 1, none⟩ = some (.int .i64 0) ∧ X.cell? ⟨g, 2, none⟩ = some (.int .i64 0) ∧ X.cell? ⟨g, 3, none⟩ = some (.slice none 0 0) ∧ X.cell? ⟨g, 4, none⟩ = some (.slice none 0 0) ∧ X.cell? ⟨g, 5, none⟩ = some (.int .i64 0) ∧ X.cell? ⟨g, 6, none⟩ = some (.slice none 0 0) ∧ X.frozen? ⟨g, 0, none⟩ = false ∧ X.frozen? ⟨g, 1, none⟩ = false ∧ X.frozen? ⟨g, 2, none⟩ = false ∧ X.frozen? ⟨g, 3, none⟩ = false ∧ X.frozen? ⟨g, 4, none⟩ = false ∧ X.frozen? ⟨g, 5, none⟩ = false ∧ X.frozen? ⟨g, 6, none⟩ = false) from fun X hX => ⟨(hZ.below hX).cell (j := 0) rfl, (hZ.below hX).cell (j := 1) rfl, (hZ.below hX).cell (j := 2) rfl, (hZ.below hX).cell (j := 3) rfl, (hZ.below hX).cell (j := 4) rfl, (hZ.below hX).cell (j := 5) rfl, (hZ.below hX).cell (j := 6) rfl, (hZ.below hX).frozen 0, (hZ.below hX).frozen 1, (hZ.below hX).frozen 2, (hZ.below hX).frozen 3, (hZ.below hX).frozen 4, (hZ.below hX).frozen 5, (hZ.below hX).frozen 6⟩)
  have hmg : f.rb ≠ g := by have := h.blk.lt; omega
  have hvg : f.rv ≠ g := by have := h.vol.blk.lt; omega
  have htg : f.rt ≠ g := by have := h.tab.blk.lt; omega
  have KS := hide (show ∀ (X : World) (v0 v1 v2 v3 v4 v5 v6 : Value), (X.cell? ⟨f.rb, 0, none⟩ = some (.int .i64 a.num) ∧ X.cell? ⟨f.rb, 1, none⟩ = some (.pointer (some ⟨f.rv, 0, none⟩)) ∧ X.cell? ⟨f.rb, 2, none⟩ = some (.pointer (some ⟨f.rt, 0, none⟩)) ∧ X.cell? ⟨f.rb, 3, none⟩ = some (.int .i64 a.ep) ∧ X.cell? ⟨f.rb, 4, none⟩ = some (.slice G gn gc) ∧ X.cell? ⟨f.rv, 0, none⟩ = some (.int .i64 a.b) ∧ X.cell? ⟨f.rv, 1, none⟩ = some (.int .i64 a.z) ∧ X.cell? ⟨f.rt, 0, none⟩ = some (.slice A n c)) → ((((((((X.setCell ⟨g, 0, none⟩ v0).setCell ⟨g, 1, none⟩ v1).setCell ⟨g, 2, none⟩ v2).setCell ⟨g, 3, none⟩ v3).setCell ⟨g, 4, none⟩ v4).setCell ⟨g, 5, none⟩ v5).setCell ⟨g, 6, none⟩ v6).cell? ⟨f.rb, 0, none⟩ = some (.int .i64 a.num) ∧ (((((((X.setCell ⟨g, 0, none⟩ v0).setCell ⟨g, 1, none⟩ v1).setCell ⟨g, 2, none⟩ v2).setCell ⟨g, 3, none⟩ v3).setCell ⟨g, 4, none⟩ v4).setCell ⟨g, 5, none⟩ v5).setCell ⟨g, 6, none⟩ v6).cell? ⟨f.rb, 1, none⟩ = some (.pointer (some ⟨f.rv, 0, none⟩)) ∧ (((((((X.setCell ⟨g, 0, none⟩ v0).setCell ⟨g, 1, none⟩ v1).setCell ⟨g, 2, none⟩ v2).setCell ⟨g, 3, none⟩ v3).setCell ⟨g, 4, none⟩ v4).setCell ⟨g, 5, none⟩ v5).setCell ⟨g, 6, none⟩ v6).cell? ⟨f.rb, 2, none⟩ = some (.pointer (some ⟨f.rt, 0, none⟩)) ∧ (((((((X.setCell ⟨g, 0, none⟩ v0).setCell ⟨g, 1, none⟩ v1).setCell ⟨g, 2, none⟩ v2).setCell ⟨g, 3, none⟩ v3).setCell ⟨g, 4, none⟩ v4).setCell ⟨g, 5, none⟩ v5).setCell ⟨g, 6, none⟩ v6).cell? ⟨f.rb, 3, none⟩ = some (.int .i64 a.ep) ∧ (((((((X.setCell ⟨g, 0, none⟩ v0).setCell ⟨g, 1, none⟩ v1).setCell ⟨g, 2, none⟩ v2).setCell ⟨g, 3, none⟩ v3).setCell ⟨g, 4, none⟩ v4).setCell ⟨g, 5, none⟩ v5).setCell ⟨g, 6, none⟩ v6).cell? ⟨f.rb, 4, none⟩ = some (.slice G gn gc) ∧ (((((((X.setCell ⟨g, 0, none⟩ v0).setCell ⟨g, 1, none⟩ v1).setCell ⟨g, 2, none⟩ v2).setCell ⟨g, 3, none⟩ v3).setCell ⟨g, 4, none⟩ v4).setCell ⟨g, 5, none⟩ v5).setCell ⟨g, 6, none⟩ v6).cell? ⟨f.rv, 0, none⟩ = some (.int .i64 a.b) ∧ (((((((X.setCell ⟨g, 0, none⟩ v0).setCell ⟨g, 1, none⟩ v1).setCell ⟨g, 2, none⟩ v2).setCell ⟨g, 3, none⟩ v3).setCell ⟨g, 4, none⟩ v4).setCell ⟨g, 5, none⟩ v5).setCell ⟨g, 6, none⟩ v6).cell? ⟨f.rv, 1, none⟩ = some (.int .i64 a.z) ∧ (((((((X.setCell ⟨g, 0, none⟩ v0).setCell ⟨g, 1, none⟩ v1).setCell ⟨g, 2, none⟩ v2).setCell ⟨g, 3, none⟩ v3).setCell ⟨g, 4, none⟩ v4).setCell ⟨g, 5, none⟩ v5).setCell ⟨g, 6, none⟩ v6).cell? ⟨f.rt, 0, none⟩ = some (.slice A n c)) from fun X v0 v1 v2 v3 v4 v5 v6 hS => ⟨cell_far7 _ _ _ _ _ _ _ hS.1 (by show _ ≠ g; first | exact hmg | exact hvg | exact htg), cell_far7 _ _ _ _ _ _ _ hS.2.1 (by show _ ≠ g; first | exact hmg | exact hvg | exact htg), cell_far7 _ _ _ _ _ _ _ hS.2.2.1 (by show _ ≠ g; first | exact hmg | exact hvg | exact htg), cell_far7 _ _ _ _ _ _ _ hS.2.2.2.1 (by show _ ≠ g; first | exact hmg | exact hvg | exact htg), cell_far7 _ _ _ _ _ _ _ hS.2.2.2.2.1 (by show _ ≠ g; first | exact hmg | exact hvg | exact htg), cell_far7 _ _ _ _ _ _ _ hS.2.2.2.2.2.1 (by show _ ≠ g; first | exact hmg | exact hvg | exact htg), cell_far7 _ _ _ _ _ _ _ hS.2.2.2.2.2.2.1 (by show _ ≠ g; first | exact hmg | exact hvg | exact htg), cell_far7 _ _ _ _ _ _ _ hS.2.2.2.2.2.2.2 (by show _ ≠ g; first | exact hmg | exact hvg | exact htg)⟩)
  have HT := hide (show ∀ X X', Below w0.heap.size w0 X → Below X.heap.size X X' → Below w0.heap.size w0 X' from fun X X' h1 h2 => h1.trans (h2.mono h1.size))
  have S0 := Mk.out w0.drew (Below.refl _ _).drew
  have c0 : Below w0.heap.size w0 w0.drew := (Below.refl _ _).drew
  have cA0 : Below w0.heap.size w0 (w0.alloc (.cells #[] 100)).drew := (HAl.out _ (.cells #[] 100) (Below.refl _ _)).drew
  have SA0 := Mk.out _ cA0
  go_enter Tryz.func18, Tryz.ntmps18
  go_wp2_with fail
  rw [Hw0.out]
  have HOwn := hide (show ∀ X : World, (X.alloc (.cells #[] 100)).ownsRow X.heap.size 100 4 (.slice (some ⟨X.heap.size, 0, none⟩) 0 0) 0 [] from fun X => own_made #[] 0 0 (Nat.le_refl _) (Nat.le_refl _) (by decide) (by simp))
  have HRd := hide (show ∀ X, Below w0.heap.size w0 X → Rd X A cs from fun X hX => (h0.below hX).tab.rd)
  have hcl : cs.length = n * 4 := by have := h.rq.1; have := h.tab.len; omega
  have h1c := rows_one h.rq
  have hL0 : (0 + n) * 48 ≤ 140737488355328 := by omega
  have hL1 : 0 + n ≤ 140737488355328 := by omega
  have HSz := hide (show ∀ X o, Below w0.heap.size w0 X → w0.heap.size ≤ X.heap.size ∧ X.heap.size ≤ (X.alloc o).heap.size from fun X o hX => ⟨hX.size, by simp⟩)
  have HG := hide (show ∀ X Z Z' : World, Below w0.heap.size w0 Z → w0.heap.size ≤ X.heap.size → Z.grownBy Z' (Value.slice (some ⟨X.heap.size, 0, none⟩) 0 0).ownBlock → Below w0.heap.size w0 Z' from fun X Z Z' h1 h2 h3 => h1.grown h3 h1.size (fun k hk => by have : X.heap.size = k := by simpa [Value.ownBlock] using hk
                                                                                                                                                                                                                                                                  omega))
  go_region_held_law (fun X => X.cell? ⟨f.rb, 0, none⟩ = some (.int .i64 a.num) ∧ X.cell? ⟨f.rb, 1, none⟩ = some (.pointer (some ⟨f.rv, 0, none⟩)) ∧ X.cell? ⟨f.rb, 2, none⟩ = some (.pointer (some ⟨f.rt, 0, none⟩)) ∧ X.cell? ⟨f.rb, 3, none⟩ = some (.int .i64 a.ep) ∧ X.cell? ⟨f.rb, 4, none⟩ = some (.slice G gn gc) ∧ X.cell? ⟨f.rv, 0, none⟩ = some (.int .i64 a.b) ∧ X.cell? ⟨f.rv, 1, none⟩ = some (.int .i64 a.z) ∧ X.cell? ⟨f.rt, 0, none⟩ = some (.slice A n c)) (first | with_reducible assumption | (with_reducible refine KS.out _ _ _ _ _ _ _ _ ?_); with_reducible assumption) (first
    | (go_at_call 57; refine (rpages_any _ _ _ _ _ _ _ _ _ _ _ _ _ _ _ since (HM.out _ (by assumption)).vol).mono ?_; rintro xx wb ⟨o, pc, rfl, hpo, hpp, hbb⟩; obtain ⟨PA, pcap, rfl, hp1⟩ := own_out hpo; have cb' := HT.out _ _ (by assumption) hbb; have Sb := Mk.out _ cb'; have cbA := HAl.out _ (.cells #[] 100) cb'; have SbA := Mk.out _ cbA; have Hp := hide (And.intro hbb (And.intro hp1 hpp)); clear hp1 hpp hpo hbb)
    | (refine step_own rfl rfl tRows (by simp [Act.eval]) (HOwn.out wb) (by simp [Act.eval]; rfl) (m := n) (news := cs) hcl (HRd.out _ cbA) h1c hL0 hL1 (HSz.out _ _ cb').2 ?_; intro v' w' ho' hg' hv'; rw [Nat.zero_add, List.nil_append] at ho'; obtain ⟨RA, rcap, rfl, hr1⟩ := own_out ho'; have c7 := HG.out _ _ _ (by first | exact cbA | exact cb') (HSz.out wb (.cells #[] 100) (by first | exact cb' | exact c0)).1 hg'; have S7 := Mk.out _ c7; obtain ⟨z0, z1, z2, z3, z4, z5, z6, f0, f1, f2, f3, f4, f5, f6⟩ := KZ.out _ c7)
    | (refine step_own rfl rfl tRows (by simp [Act.eval]) (own_below (show (w0.alloc (.cells #[] 100)).drew.ownsRow w0.heap.size 100 4 (.slice (some ⟨w0.heap.size, 0, none⟩) 0 0) 0 [] from HOwn.out w0) (And.left Hp.out)) (by simp [Act.eval]; rfl) (m := n) (news := cs) hcl (HRd.out _ cb') h1c hL0 hL1 (HSz.out _ (.cells #[] 100) cb').1 ?_; intro v' w' ho' hg' hv'; rw [Nat.zero_add, List.nil_append] at ho'; obtain ⟨RA, rcap, rfl, hr1⟩ := own_out ho'; have c7 := HG.out _ _ _ (by first | exact cbA | exact cb') (HSz.out w0.drew (.cells #[] 100) (by first | exact cb' | exact c0)).1 hg'; have S7 := Mk.out _ c7; obtain ⟨z0, z1, z2, z3, z4, z5, z6, f0, f1, f2, f3, f4, f5, f6⟩ := KZ.out _ c7)
    )
  all_goals
    obtain ⟨hbb, ⟨hpl, hpc, hpm, hpr, hpa⟩, hpp⟩ := Hp.out
    have e0 : w0.drew.heap.size = w0.heap.size := rfl
    have e1 : (w0.alloc (.cells #[] 100)).drew.heap.size = w0.heap.size + 1 := World.size_alloc _ _
    have sw := hb0.size
    have hQ1 : PgRows w' (fun b => w0.heap.size ≤ b) pc (pgL a.z a.bs a.vs since a.b) ∧ Rd w' PA pc := by
      first
      | (have hbw : Below wb.heap.size wb w' := ((Below.refl _ _).alloc (Nat.le_refl _) (.cells #[] 100)).grown hg' (by simp) (fun k hk => by have e : wb.heap.size = k := (by simpa [Value.ownBlock] using hk); omega)
         exact ⟨(hpp.below hbw).keep (fun _ _ h _ => h) (fun b hb => by have := hb.1; omega), hpr.below hbw⟩)
      | exact ⟨hpp.keep (fun A xs hr hq => hr.grown hg' (fun x hx e => by have := (hq x hx).1; have e2 : x.block = w0.heap.size := (by simpa [Value.ownBlock] using e); omega)) (fun b hb => by have := hb.1; omega), hpr.grown hg' (fun x hx e => by have := (hpa x hx).1; have e2 : x.block = w0.heap.size := (by simpa [Value.ownBlock] using e); omega)⟩
    obtain ⟨hP1, hPr1⟩ := hQ1
    obtain ⟨hrl, hrc, hrm, hrr, hra⟩ := hr1
    have hRa : ∀ x, RA = some x → w0.heap.size ≤ x.block := fun x hx => by have := (hra x hx).1; have := hbb.size; omega
    have hPa : ∀ x, PA = some x → w0.heap.size ≤ x.block := fun x hx => by have := (hpa x hx).1; omega
    have zl' : g < w0.heap.size := zl
    have hbw7 : Below w.heap.size w w' := hb0.trans (c7.mono hb0.size)
    have hR7 := ((rw_mk h.rq HOk.out.rows).low).below hbw7
    have hG7 := h.gr.below hbw7
    have hGl : ∀ x, G = some x → x.block < w.heap.size := rd_block h.gr (fun e => by have e2 : a.ms.length = 0 := (by simpa [ints] using congrArg List.length e); omega)
    have hfin := ((((((((hZ.below c7).set 0 (.int .i64 a.num)).set 1 (.int .i64 a.b)).set 2 (.int .i64 a.z)).set 3 (.slice PA (pgL a.z a.bs a.vs since a.b).length pcap)).set 4 (.slice RA n rcap)).set 5 (.int .i64 a.ep)).set 6 (.slice G gn gc))
    have hFr : Fr (fun b => b = g) w' (((((((w'.setCell ⟨g, 0, none⟩ (.int .i64 a.num)).setCell ⟨g, 1, none⟩ (.int .i64 a.b)).setCell ⟨g, 2, none⟩ (.int .i64 a.z)).setCell ⟨g, 3, none⟩ (.slice PA (pgL a.z a.bs a.vs since a.b).length pcap)).setCell ⟨g, 4, none⟩ (.slice RA n rcap)).setCell ⟨g, 5, none⟩ (.int .i64 a.ep)).setCell ⟨g, 6, none⟩ (.slice G gn gc)) := ((((((((Fr.refl (fun b => b = g) w').trans (Fr.setg _ g 0 _)).trans (Fr.setg _ g 1 _)).trans (Fr.setg _ g 2 _)).trans (Fr.setg _ g 3 _)).trans (Fr.setg _ g 4 _)).trans (Fr.setg _ g 5 _)).trans (Fr.setg _ g 6 _))
    obtain ⟨wf, hwf⟩ : ∃ y, (((((((w'.setCell ⟨g, 0, none⟩ (.int .i64 a.num)).setCell ⟨g, 1, none⟩ (.int .i64 a.b)).setCell ⟨g, 2, none⟩ (.int .i64 a.z)).setCell ⟨g, 3, none⟩ (.slice PA (pgL a.z a.bs a.vs since a.b).length pcap)).setCell ⟨g, 4, none⟩ (.slice RA n rcap)).setCell ⟨g, 5, none⟩ (.int .i64 a.ep)).setCell ⟨g, 6, none⟩ (.slice G gn gc)) = y := ⟨_, rfl⟩
    rw [hwf] at hfin hFr
    have Hwf := hide hwf
    have HP1 := hide hP1
    clear hwf z0 z1 z2 z3 z4 z5 z6 f0 f1 f2 f3 f4 f5 f6 hP1 hpp
    go_wp2
    rw [Hwf.out]
    refine bodyPost_ret (results_cell rfl rfl hfin Tryz.underlying30 rfl (by kernel_rfl)) rfl ?_
    have hP := (pg_mk HP1.out (Hrng.out)).fr hFr (fun b hb => by omega)
    have hR := hR7.fr hFr (fun b hb => by omega)
    have hG := hG7.fr hFr (fun _ x hx => by have := hGl x hx; omega)
    have hPr := hPr1.fr hFr (fun _ x hx => by have := hPa x hx; omega)
    have hRr := hrr.fr hFr (fun _ x hx => by have := hRa x hx; omega)
    refine ⟨_, rfl, ?_, hFr.below (hb0.trans (c7.mono hb0.size)) (by have := c7.size; omega) (fun k hk => by omega)⟩
    have hn := numB_out HOk.out.num
    have hbz := h.vol.hb
    have hzz := h.vol.hz
    have hep := grp_ep h.ok
    have hms := grp_ms h.ok
    exact State_mk (by omega) (by omega) (by omega) (by omega) (by omega) (by omega) rfl hpc (by unfold maxLen at hpm; omega) hPr (fun _ _ _ => trivial) hP.any h.tab.len (by omega) (by unfold maxLen at hrm; omega) hRr (fun _ _ _ => trivial) hR.any hep.1 hep.2 h.gl h.gc_.1 h.gc_.2 hG (fun _ _ _ => trivial) (i64rows_mk hms)
end
end Go.Proofs.YtkknkdjdneldlaaGreat
namespace Go.Proofs.YtkknkdjdneldlaaGreat
set_option maxRecDepth 20000
open Go.RowKit Go.Px Go.Maps
set_option linter.unusedVariables false
theorem RwRows.fr7 {X Q : Nat → Prop} {w w' : World} {cs : List Value} {es : List RowT} (h : RwRows w Q cs es) (hf : Fr X w w') (hx : ∀ b, Q b → ¬ X b) : RwRows w' Q cs es := h.keep (fun A xs hr hq => hr.fr hf (fun _ a ha => hx _ (hq a ha))) (fun _ h => h)
theorem pgq_of {w : World} {Q : Nat → Prop} {b z : Nat} {ps : List PageD} {vs : List Value} (h : tyPage.Rows w Q ps vs) (hg : Good b z ps) (hz : 1 ≤ z) : PgRows w Q vs ps := by
  refine ⟨h.1, fun j p hp => ?_⟩
  obtain ⟨P, _, _, hl, _⟩ := hg j p hp
  obtain ⟨cs, hI, hc⟩ := h.get hp
  obtain ⟨pAt, pVersion, pData, pDataA, pDatan, pDatac, rfl, rfl, h1_pAt, h2_pAt, h1_pVersion, h2_pVersion, hl_pData, hc_pData, hm_pData, hr_pData, hq_pData⟩ := Page_out hI
  exact ⟨pDataA, pDatan, pDatac, hc 0 _ rfl, hc 1 _ rfl, hc 2 _ rfl, hl_pData, hc_pData, hm_pData, hr_pData, hq_pData (by intro e; simp only at hl; rw [e] at hl; simp at hl; omega)⟩
/-- May a state be laid? -/
def MA.patchB (a : MA) (x : StateD) : Bool := stateB x && ((decide (x.2.1.1 = a.b) && decide (x.2.1.2 = a.z)) && !decide (x.1 < a.num))
def MA.patch (a : MA) (x : StateD) : MA :=
  { num := x.1, b := a.b, z := a.z, bs := layB a.z a.bs x.2.2.1, vs := layV a.vs x.2.2.1, last := layL a.last x.2.2.1, rows := x.2.2.2.1, ep := x.2.2.2.2.1, ms := x.2.2.2.2.2 }
set_option maxHeartbeats 1600000 in
theorem patch_ok2 (w : World) (v r s b z N : Nat) (bs : List UInt8) (vs : List Int) (last : Int) (A : Option Addr) (n c : Nat) (cs : List Value) (ps : List (Int × Int × List UInt8)) (h : VolIs w v r s b z N bs vs last) (hn : ps.length = n) (hnc : n ≤ c) (hc : c ≤ 9223372036854775807)
    (hr : Rd w A cs) (hA : ps ≠ [] → ∀ a, A = some a → a.block ≠ v ∧ a.block ≠ r ∧ a.block ≠ s) (hP : PgRows w (fun B => B ≠ v ∧ B ≠ r ∧ B ≠ s) cs ps) (hm : mpA b z (-1) ps = true) :
    Calls Tryz.prog 59 #[.pointer (some ⟨v, 0, none⟩), .slice A n c] w fun e w' => e = .returned (.int .i64 0) ∧ VolIs w' v r s b z N (layB z bs ps) (layV vs ps) (layL last ps) ∧ Upd v r s w w' := by
  have x0 := h.blk.cell (j := 0) rfl
  have x1 := h.blk.cell (j := 1) rfl
  have Hm := hide hm
  have hgd := good_of_mpA (by omega) hm
  clear hm
  go_enter Tryz.func59, Tryz.ntmps59
  go_wp2_with fail
  go_fit (made_any w v r s b z N bs vs last h)
  rintro x w1 ⟨rfl, rfl⟩
  go_wp2_with fail
  go_fit (mayPages_any b z A n c cs ps _ w hn hnc hc hr hP)
  rw [Hm.out]
  rintro x w1 ⟨rfl, hb1⟩
  have hU1 := Upd.of_below (v := v) (r := r) (s := s) hb1
  go_wp2_with fail
  go_fit (lay_any2 w1 v r s b z N bs vs last A n c cs ps (h.below hb1) hn hnc hc (hr.below hb1) hA (hP.below hb1) hgd)
  rintro x w2 ⟨rfl, hV2, hU2⟩
  go_wp2
  go_ret
  exact ⟨rfl, hV2, hU1.trans hU2⟩
section
variable {Y : Nat → Prop} {w : World} {L : Nat} {f : MFp} {a : MA} {N NN B : Nat} {D : DataW Value} {G : Option Addr} {gn gc : Nat}

set_option maxRecDepth 20000 in
set_option maxHeartbeats 6400000 in
theorem patch7_badS {Q : Nat → Prop} {x : StateD} {cs : List Value} (h : MIs w L Y f a N NN B D G gn gc) (hs : tyState.Is w Q x cs) (hx : stateB x = false) : Calls Tryz.prog 22 #[.pointer (some ⟨f.mb, 0, none⟩), .agg cs.toArray] w fun e w' => e = .returned (.int .i64 72) ∧ Below w.heap.size w w' := by
  have hs' := hs
  obtain ⟨sNum, sShapeBlocks, sShapeSize, sPages, sPagesA, sPagesn, sPagesc, sPagesv, sRows, sRowsA, sRowsn, sRowsc, sRowsv, sGroupEpoch, sGroupMembers, sGroupMembersA, sGroupMembersn, sGroupMembersc, sGroupMembersv, rfl, rfl, h1_sNum, h2_sNum, h1_sShapeBlocks, h2_sShapeBlocks, h1_sShapeSize, h2_sShapeSize, hl_sPages, hc_sPages, hm_sPages, hr_sPages, hq_sPages, he_sPages, hl_sRows, hc_sRows, hm_sRows, hr_sRows, hq_sRows, he_sRows, h1_sGroupEpoch, h2_sGroupEpoch, hl_sGroupMembers, hc_sGroupMembers, hm_sGroupMembers, hr_sGroupMembers, hq_sGroupMembers, he_sGroupMembers⟩ := State_out hs'
  obtain ⟨w0, hw0⟩ : ∃ x, w.alloc (.cells #[.int .i64 sNum, .int .i64 sShapeBlocks, .int .i64 sShapeSize, .slice sPagesA sPagesn sPagesc, .slice sRowsA sRowsn sRowsc, .int .i64 sGroupEpoch, .slice sGroupMembersA sGroupMembersn sGroupMembersc] 30) = x := ⟨_, rfl⟩; have hBw0 : Blk w0 w.heap.size [.int .i64 sNum, .int .i64 sShapeBlocks, .int .i64 sShapeSize, .slice sPagesA sPagesn sPagesc, .slice sRowsA sRowsn sRowsc, .int .i64 sGroupEpoch, .slice sGroupMembersA sGroupMembersn sGroupMembersc] 30 := (by rw [← hw0]; exact Blk.new w [.int .i64 sNum, .int .i64 sShapeBlocks, .int .i64 sShapeSize, .slice sPagesA sPagesn sPagesc, .slice sRowsA sRowsn sRowsc, .int .i64 sGroupEpoch, .slice sGroupMembersA sGroupMembersn sGroupMembersc] _); have hbw0 : Below w.heap.size w w0 := (by rw [← hw0]; exact (Below.refl _ _).alloc (Nat.le_refl _) _); have Hw0 := hide hw0; clear hw0
  have h0 := h.below hbw0
  have hs0 := hs.below hbw0
  have HM := hide (show ∀ X, Below w0.heap.size w0 X → MIs X L Y f a N NN B D G gn gc from fun X hX => h0.below hX)
  have HBx := hide (show ∀ X, Below w0.heap.size w0 X → Blk X w.heap.size [.int .i64 sNum, .int .i64 sShapeBlocks, .int .i64 sShapeSize, .slice sPagesA sPagesn sPagesc, .slice sRowsA sRowsn sRowsc, .int .i64 sGroupEpoch, .slice sGroupMembersA sGroupMembersn sGroupMembersc] 30 from fun X hX => hBw0.below hX)
  have y0 : ∀ x : InC (fun W => Below w0.heap.size w0 W), x.W.cell? ⟨w.heap.size, 0, none⟩ = some (.int .i64 sNum) := fun x => (HBx.out x.W x.h).cell (j := 0) rfl
  have y1 : ∀ x : InC (fun W => Below w0.heap.size w0 W), x.W.cell? ⟨w.heap.size, 1, none⟩ = some (.int .i64 sShapeBlocks) := fun x => (HBx.out x.W x.h).cell (j := 1) rfl
  have y2 : ∀ x : InC (fun W => Below w0.heap.size w0 W), x.W.cell? ⟨w.heap.size, 2, none⟩ = some (.int .i64 sShapeSize) := fun x => (HBx.out x.W x.h).cell (j := 2) rfl
  have y3 : ∀ x : InC (fun W => Below w0.heap.size w0 W), x.W.cell? ⟨w.heap.size, 3, none⟩ = some (.slice sPagesA sPagesn sPagesc) := fun x => (HBx.out x.W x.h).cell (j := 3) rfl
  have y4 : ∀ x : InC (fun W => Below w0.heap.size w0 W), x.W.cell? ⟨w.heap.size, 4, none⟩ = some (.slice sRowsA sRowsn sRowsc) := fun x => (HBx.out x.W x.h).cell (j := 4) rfl
  have y5 : ∀ x : InC (fun W => Below w0.heap.size w0 W), x.W.cell? ⟨w.heap.size, 5, none⟩ = some (.int .i64 sGroupEpoch) := fun x => (HBx.out x.W x.h).cell (j := 5) rfl
  have y6 : ∀ x : InC (fun W => Below w0.heap.size w0 W), x.W.cell? ⟨w.heap.size, 6, none⟩ = some (.slice sGroupMembersA sGroupMembersn sGroupMembersc) := fun x => (HBx.out x.W x.h).cell (j := 6) rfl
  have x0 : ∀ x : InC (fun W => Below w0.heap.size w0 W), x.W.cell? ⟨f.mb, 0, none⟩ = some (.pointer (some ⟨f.v, 0, none⟩)) := fun x => (HM.out x.W x.h).blk.cell (j := 0) rfl
  have x4 : ∀ x : InC (fun W => Below w0.heap.size w0 W), x.W.cell? ⟨f.mb, 4, none⟩ = some (.int .i64 a.num) := fun x => (HM.out x.W x.h).blk.cell (j := 4) rfl
  have HS := hide (show ∀ x : InC (fun W => Below w0.heap.size w0 W), Calls Tryz.prog 58 #[.agg #[.int .i64 sNum, .int .i64 sShapeBlocks, .int .i64 sShapeSize, .slice sPagesA sPagesn sPagesc, .slice sRowsA sRowsn sRowsc, .int .i64 sGroupEpoch, .slice sGroupMembersA sGroupMembersn sGroupMembersc]] x.W fun e w' => e = .returned (.bool (stateB (sNum, (sShapeBlocks, sShapeSize), sPages, sRows, (sGroupEpoch, sGroupMembers)))) ∧ Below x.W.heap.size x.W w' from fun x => mayState_any (hs0.below x.h))
  have HSh := hide (show ∀ x : InC (fun W => Below w0.heap.size w0 W), Calls Tryz.prog 53 #[.pointer (some ⟨f.v, 0, none⟩)] x.W fun e w' => e = .returned (shp a.b a.z) ∧ Below x.W.heap.size x.W w' from fun x => shapeOf_any x.W _ _ _ _ _ _ _ _ _ (HM.out x.W x.h).vol)
  have HX := hide hx
  clear hx
  go_enter Tryz.func22, Tryz.ntmps22
  go_wp2_with fail
  rw [Hw0.out]
  go_fit (made7_any h0)
  rintro xx w1 ⟨rfl, rfl⟩
  go_wp2_with fail
  refine wp_region_in (fun W => Below w0.heap.size w0 W) (Below.refl _ _).drew (by kernel_rfl) (by kernel_rfl) ?_
  repeat (go_big_quiet_step (first
    | (go_at_call 58; have hh := HS.out; rw [HX.out] at hh; exact Calls.in_below (hh _))
    | (go_at_call 53; exact Calls.in_below (HSh.out _))))
  refine wpQuiet_nil ?_
  intro _ hw'
  obtain ⟨nq, hw''⟩ := hw'
  subst hw''
  have hbq := nq.h
  go_wp2
  go_ret
  exact ⟨rfl, hbw0.trans (hbq.mono hbw0.size)⟩

set_option maxRecDepth 20000 in
set_option maxHeartbeats 6400000 in
theorem patch7_badB {Q : Nat → Prop} {x : StateD} {cs : List Value} (h : MIs w L Y f a N NN B D G gn gc) (hs : tyState.Is w Q x cs) (hx : stateB x = true) (hb : ¬ x.2.1.1 = a.b) : Calls Tryz.prog 22 #[.pointer (some ⟨f.mb, 0, none⟩), .agg cs.toArray] w fun e w' => e = .returned (.int .i64 72) ∧ Below w.heap.size w w' := by
  have hs' := hs
  obtain ⟨sNum, sShapeBlocks, sShapeSize, sPages, sPagesA, sPagesn, sPagesc, sPagesv, sRows, sRowsA, sRowsn, sRowsc, sRowsv, sGroupEpoch, sGroupMembers, sGroupMembersA, sGroupMembersn, sGroupMembersc, sGroupMembersv, rfl, rfl, h1_sNum, h2_sNum, h1_sShapeBlocks, h2_sShapeBlocks, h1_sShapeSize, h2_sShapeSize, hl_sPages, hc_sPages, hm_sPages, hr_sPages, hq_sPages, he_sPages, hl_sRows, hc_sRows, hm_sRows, hr_sRows, hq_sRows, he_sRows, h1_sGroupEpoch, h2_sGroupEpoch, hl_sGroupMembers, hc_sGroupMembers, hm_sGroupMembers, hr_sGroupMembers, hq_sGroupMembers, he_sGroupMembers⟩ := State_out hs'
  obtain ⟨w0, hw0⟩ : ∃ x, w.alloc (.cells #[.int .i64 sNum, .int .i64 sShapeBlocks, .int .i64 sShapeSize, .slice sPagesA sPagesn sPagesc, .slice sRowsA sRowsn sRowsc, .int .i64 sGroupEpoch, .slice sGroupMembersA sGroupMembersn sGroupMembersc] 30) = x := ⟨_, rfl⟩; have hBw0 : Blk w0 w.heap.size [.int .i64 sNum, .int .i64 sShapeBlocks, .int .i64 sShapeSize, .slice sPagesA sPagesn sPagesc, .slice sRowsA sRowsn sRowsc, .int .i64 sGroupEpoch, .slice sGroupMembersA sGroupMembersn sGroupMembersc] 30 := (by rw [← hw0]; exact Blk.new w [.int .i64 sNum, .int .i64 sShapeBlocks, .int .i64 sShapeSize, .slice sPagesA sPagesn sPagesc, .slice sRowsA sRowsn sRowsc, .int .i64 sGroupEpoch, .slice sGroupMembersA sGroupMembersn sGroupMembersc] _); have hbw0 : Below w.heap.size w w0 := (by rw [← hw0]; exact (Below.refl _ _).alloc (Nat.le_refl _) _); have Hw0 := hide hw0; clear hw0
  have h0 := h.below hbw0
  have hs0 := hs.below hbw0
  have HM := hide (show ∀ X, Below w0.heap.size w0 X → MIs X L Y f a N NN B D G gn gc from fun X hX => h0.below hX)
  have HBx := hide (show ∀ X, Below w0.heap.size w0 X → Blk X w.heap.size [.int .i64 sNum, .int .i64 sShapeBlocks, .int .i64 sShapeSize, .slice sPagesA sPagesn sPagesc, .slice sRowsA sRowsn sRowsc, .int .i64 sGroupEpoch, .slice sGroupMembersA sGroupMembersn sGroupMembersc] 30 from fun X hX => hBw0.below hX)
  have y0 : ∀ x : InC (fun W => Below w0.heap.size w0 W), x.W.cell? ⟨w.heap.size, 0, none⟩ = some (.int .i64 sNum) := fun x => (HBx.out x.W x.h).cell (j := 0) rfl
  have y1 : ∀ x : InC (fun W => Below w0.heap.size w0 W), x.W.cell? ⟨w.heap.size, 1, none⟩ = some (.int .i64 sShapeBlocks) := fun x => (HBx.out x.W x.h).cell (j := 1) rfl
  have y2 : ∀ x : InC (fun W => Below w0.heap.size w0 W), x.W.cell? ⟨w.heap.size, 2, none⟩ = some (.int .i64 sShapeSize) := fun x => (HBx.out x.W x.h).cell (j := 2) rfl
  have y3 : ∀ x : InC (fun W => Below w0.heap.size w0 W), x.W.cell? ⟨w.heap.size, 3, none⟩ = some (.slice sPagesA sPagesn sPagesc) := fun x => (HBx.out x.W x.h).cell (j := 3) rfl
  have y4 : ∀ x : InC (fun W => Below w0.heap.size w0 W), x.W.cell? ⟨w.heap.size, 4, none⟩ = some (.slice sRowsA sRowsn sRowsc) := fun x => (HBx.out x.W x.h).cell (j := 4) rfl
  have y5 : ∀ x : InC (fun W => Below w0.heap.size w0 W), x.W.cell? ⟨w.heap.size, 5, none⟩ = some (.int .i64 sGroupEpoch) := fun x => (HBx.out x.W x.h).cell (j := 5) rfl
  have y6 : ∀ x : InC (fun W => Below w0.heap.size w0 W), x.W.cell? ⟨w.heap.size, 6, none⟩ = some (.slice sGroupMembersA sGroupMembersn sGroupMembersc) := fun x => (HBx.out x.W x.h).cell (j := 6) rfl
  have x0 : ∀ x : InC (fun W => Below w0.heap.size w0 W), x.W.cell? ⟨f.mb, 0, none⟩ = some (.pointer (some ⟨f.v, 0, none⟩)) := fun x => (HM.out x.W x.h).blk.cell (j := 0) rfl
  have x4 : ∀ x : InC (fun W => Below w0.heap.size w0 W), x.W.cell? ⟨f.mb, 4, none⟩ = some (.int .i64 a.num) := fun x => (HM.out x.W x.h).blk.cell (j := 4) rfl
  have HS := hide (show ∀ x : InC (fun W => Below w0.heap.size w0 W), Calls Tryz.prog 58 #[.agg #[.int .i64 sNum, .int .i64 sShapeBlocks, .int .i64 sShapeSize, .slice sPagesA sPagesn sPagesc, .slice sRowsA sRowsn sRowsc, .int .i64 sGroupEpoch, .slice sGroupMembersA sGroupMembersn sGroupMembersc]] x.W fun e w' => e = .returned (.bool (stateB (sNum, (sShapeBlocks, sShapeSize), sPages, sRows, (sGroupEpoch, sGroupMembers)))) ∧ Below x.W.heap.size x.W w' from fun x => mayState_any (hs0.below x.h))
  have HSh := hide (show ∀ x : InC (fun W => Below w0.heap.size w0 W), Calls Tryz.prog 53 #[.pointer (some ⟨f.v, 0, none⟩)] x.W fun e w' => e = .returned (shp a.b a.z) ∧ Below x.W.heap.size x.W w' from fun x => shapeOf_any x.W _ _ _ _ _ _ _ _ _ (HM.out x.W x.h).vol)
  have HX := hide hx
  have q : (sShapeBlocks == (a.b : Int)) = false := by simpa using hb
  clear hx hb
  go_enter Tryz.func22, Tryz.ntmps22
  go_wp2_with fail
  rw [Hw0.out]
  go_fit (made7_any h0)
  rintro xx w1 ⟨rfl, rfl⟩
  go_wp2_with fail
  refine wp_region_in (fun W => Below w0.heap.size w0 W) (Below.refl _ _).drew (by kernel_rfl) (by kernel_rfl) ?_
  repeat (go_big_quiet_step (first
    | (go_at_call 58; have hh := HS.out; rw [HX.out] at hh; exact Calls.in_below (hh _))
    | (go_at_call 53; exact Calls.in_below (HSh.out _))))
  refine wpQuiet_nil ?_
  intro _ hw'
  obtain ⟨nq, hw''⟩ := hw'
  subst hw''
  have hbq := nq.h
  go_wp2
  go_ret
  exact ⟨rfl, hbw0.trans (hbq.mono hbw0.size)⟩

set_option maxRecDepth 20000 in
set_option maxHeartbeats 6400000 in
theorem patch7_badZ {Q : Nat → Prop} {x : StateD} {cs : List Value} (h : MIs w L Y f a N NN B D G gn gc) (hs : tyState.Is w Q x cs) (hx : stateB x = true) (hb : x.2.1.1 = a.b) (hz : ¬ x.2.1.2 = a.z) : Calls Tryz.prog 22 #[.pointer (some ⟨f.mb, 0, none⟩), .agg cs.toArray] w fun e w' => e = .returned (.int .i64 72) ∧ Below w.heap.size w w' := by
  have hs' := hs
  obtain ⟨sNum, sShapeBlocks, sShapeSize, sPages, sPagesA, sPagesn, sPagesc, sPagesv, sRows, sRowsA, sRowsn, sRowsc, sRowsv, sGroupEpoch, sGroupMembers, sGroupMembersA, sGroupMembersn, sGroupMembersc, sGroupMembersv, rfl, rfl, h1_sNum, h2_sNum, h1_sShapeBlocks, h2_sShapeBlocks, h1_sShapeSize, h2_sShapeSize, hl_sPages, hc_sPages, hm_sPages, hr_sPages, hq_sPages, he_sPages, hl_sRows, hc_sRows, hm_sRows, hr_sRows, hq_sRows, he_sRows, h1_sGroupEpoch, h2_sGroupEpoch, hl_sGroupMembers, hc_sGroupMembers, hm_sGroupMembers, hr_sGroupMembers, hq_sGroupMembers, he_sGroupMembers⟩ := State_out hs'
  obtain ⟨w0, hw0⟩ : ∃ x, w.alloc (.cells #[.int .i64 sNum, .int .i64 sShapeBlocks, .int .i64 sShapeSize, .slice sPagesA sPagesn sPagesc, .slice sRowsA sRowsn sRowsc, .int .i64 sGroupEpoch, .slice sGroupMembersA sGroupMembersn sGroupMembersc] 30) = x := ⟨_, rfl⟩; have hBw0 : Blk w0 w.heap.size [.int .i64 sNum, .int .i64 sShapeBlocks, .int .i64 sShapeSize, .slice sPagesA sPagesn sPagesc, .slice sRowsA sRowsn sRowsc, .int .i64 sGroupEpoch, .slice sGroupMembersA sGroupMembersn sGroupMembersc] 30 := (by rw [← hw0]; exact Blk.new w [.int .i64 sNum, .int .i64 sShapeBlocks, .int .i64 sShapeSize, .slice sPagesA sPagesn sPagesc, .slice sRowsA sRowsn sRowsc, .int .i64 sGroupEpoch, .slice sGroupMembersA sGroupMembersn sGroupMembersc] _); have hbw0 : Below w.heap.size w w0 := (by rw [← hw0]; exact (Below.refl _ _).alloc (Nat.le_refl _) _); have Hw0 := hide hw0; clear hw0
  have h0 := h.below hbw0
  have hs0 := hs.below hbw0
  have HM := hide (show ∀ X, Below w0.heap.size w0 X → MIs X L Y f a N NN B D G gn gc from fun X hX => h0.below hX)
  have HBx := hide (show ∀ X, Below w0.heap.size w0 X → Blk X w.heap.size [.int .i64 sNum, .int .i64 sShapeBlocks, .int .i64 sShapeSize, .slice sPagesA sPagesn sPagesc, .slice sRowsA sRowsn sRowsc, .int .i64 sGroupEpoch, .slice sGroupMembersA sGroupMembersn sGroupMembersc] 30 from fun X hX => hBw0.below hX)
  have y0 : ∀ x : InC (fun W => Below w0.heap.size w0 W), x.W.cell? ⟨w.heap.size, 0, none⟩ = some (.int .i64 sNum) := fun x => (HBx.out x.W x.h).cell (j := 0) rfl
  have y1 : ∀ x : InC (fun W => Below w0.heap.size w0 W), x.W.cell? ⟨w.heap.size, 1, none⟩ = some (.int .i64 sShapeBlocks) := fun x => (HBx.out x.W x.h).cell (j := 1) rfl
  have y2 : ∀ x : InC (fun W => Below w0.heap.size w0 W), x.W.cell? ⟨w.heap.size, 2, none⟩ = some (.int .i64 sShapeSize) := fun x => (HBx.out x.W x.h).cell (j := 2) rfl
  have y3 : ∀ x : InC (fun W => Below w0.heap.size w0 W), x.W.cell? ⟨w.heap.size, 3, none⟩ = some (.slice sPagesA sPagesn sPagesc) := fun x => (HBx.out x.W x.h).cell (j := 3) rfl
  have y4 : ∀ x : InC (fun W => Below w0.heap.size w0 W), x.W.cell? ⟨w.heap.size, 4, none⟩ = some (.slice sRowsA sRowsn sRowsc) := fun x => (HBx.out x.W x.h).cell (j := 4) rfl
  have y5 : ∀ x : InC (fun W => Below w0.heap.size w0 W), x.W.cell? ⟨w.heap.size, 5, none⟩ = some (.int .i64 sGroupEpoch) := fun x => (HBx.out x.W x.h).cell (j := 5) rfl
  have y6 : ∀ x : InC (fun W => Below w0.heap.size w0 W), x.W.cell? ⟨w.heap.size, 6, none⟩ = some (.slice sGroupMembersA sGroupMembersn sGroupMembersc) := fun x => (HBx.out x.W x.h).cell (j := 6) rfl
  have x0 : ∀ x : InC (fun W => Below w0.heap.size w0 W), x.W.cell? ⟨f.mb, 0, none⟩ = some (.pointer (some ⟨f.v, 0, none⟩)) := fun x => (HM.out x.W x.h).blk.cell (j := 0) rfl
  have x4 : ∀ x : InC (fun W => Below w0.heap.size w0 W), x.W.cell? ⟨f.mb, 4, none⟩ = some (.int .i64 a.num) := fun x => (HM.out x.W x.h).blk.cell (j := 4) rfl
  have HS := hide (show ∀ x : InC (fun W => Below w0.heap.size w0 W), Calls Tryz.prog 58 #[.agg #[.int .i64 sNum, .int .i64 sShapeBlocks, .int .i64 sShapeSize, .slice sPagesA sPagesn sPagesc, .slice sRowsA sRowsn sRowsc, .int .i64 sGroupEpoch, .slice sGroupMembersA sGroupMembersn sGroupMembersc]] x.W fun e w' => e = .returned (.bool (stateB (sNum, (sShapeBlocks, sShapeSize), sPages, sRows, (sGroupEpoch, sGroupMembers)))) ∧ Below x.W.heap.size x.W w' from fun x => mayState_any (hs0.below x.h))
  have HSh := hide (show ∀ x : InC (fun W => Below w0.heap.size w0 W), Calls Tryz.prog 53 #[.pointer (some ⟨f.v, 0, none⟩)] x.W fun e w' => e = .returned (shp a.b a.z) ∧ Below x.W.heap.size x.W w' from fun x => shapeOf_any x.W _ _ _ _ _ _ _ _ _ (HM.out x.W x.h).vol)
  have HX := hide hx
  have q0 : (sShapeBlocks == (a.b : Int)) = true := by simpa using hb
  have q : (sShapeSize == (a.z : Int)) = false := by simpa using hz
  clear hx hb hz
  go_enter Tryz.func22, Tryz.ntmps22
  go_wp2_with fail
  rw [Hw0.out]
  go_fit (made7_any h0)
  rintro xx w1 ⟨rfl, rfl⟩
  go_wp2_with fail
  refine wp_region_in (fun W => Below w0.heap.size w0 W) (Below.refl _ _).drew (by kernel_rfl) (by kernel_rfl) ?_
  repeat (go_big_quiet_step (first
    | (go_at_call 58; have hh := HS.out; rw [HX.out] at hh; exact Calls.in_below (hh _))
    | (go_at_call 53; exact Calls.in_below (HSh.out _))))
  refine wpQuiet_nil ?_
  intro _ hw'
  obtain ⟨nq, hw''⟩ := hw'
  subst hw''
  have hbq := nq.h
  go_wp2
  go_ret
  exact ⟨rfl, hbw0.trans (hbq.mono hbw0.size)⟩

set_option maxRecDepth 20000 in
set_option maxHeartbeats 6400000 in
theorem patch7_badN {Q : Nat → Prop} {x : StateD} {cs : List Value} (h : MIs w L Y f a N NN B D G gn gc) (hs : tyState.Is w Q x cs) (hx : stateB x = true) (hb : x.2.1.1 = a.b) (hz : x.2.1.2 = a.z) (hn : x.1 < a.num) : Calls Tryz.prog 22 #[.pointer (some ⟨f.mb, 0, none⟩), .agg cs.toArray] w fun e w' => e = .returned (.int .i64 72) ∧ Below w.heap.size w w' := by
  have hs' := hs
  obtain ⟨sNum, sShapeBlocks, sShapeSize, sPages, sPagesA, sPagesn, sPagesc, sPagesv, sRows, sRowsA, sRowsn, sRowsc, sRowsv, sGroupEpoch, sGroupMembers, sGroupMembersA, sGroupMembersn, sGroupMembersc, sGroupMembersv, rfl, rfl, h1_sNum, h2_sNum, h1_sShapeBlocks, h2_sShapeBlocks, h1_sShapeSize, h2_sShapeSize, hl_sPages, hc_sPages, hm_sPages, hr_sPages, hq_sPages, he_sPages, hl_sRows, hc_sRows, hm_sRows, hr_sRows, hq_sRows, he_sRows, h1_sGroupEpoch, h2_sGroupEpoch, hl_sGroupMembers, hc_sGroupMembers, hm_sGroupMembers, hr_sGroupMembers, hq_sGroupMembers, he_sGroupMembers⟩ := State_out hs'
  obtain ⟨w0, hw0⟩ : ∃ x, w.alloc (.cells #[.int .i64 sNum, .int .i64 sShapeBlocks, .int .i64 sShapeSize, .slice sPagesA sPagesn sPagesc, .slice sRowsA sRowsn sRowsc, .int .i64 sGroupEpoch, .slice sGroupMembersA sGroupMembersn sGroupMembersc] 30) = x := ⟨_, rfl⟩; have hBw0 : Blk w0 w.heap.size [.int .i64 sNum, .int .i64 sShapeBlocks, .int .i64 sShapeSize, .slice sPagesA sPagesn sPagesc, .slice sRowsA sRowsn sRowsc, .int .i64 sGroupEpoch, .slice sGroupMembersA sGroupMembersn sGroupMembersc] 30 := (by rw [← hw0]; exact Blk.new w [.int .i64 sNum, .int .i64 sShapeBlocks, .int .i64 sShapeSize, .slice sPagesA sPagesn sPagesc, .slice sRowsA sRowsn sRowsc, .int .i64 sGroupEpoch, .slice sGroupMembersA sGroupMembersn sGroupMembersc] _); have hbw0 : Below w.heap.size w w0 := (by rw [← hw0]; exact (Below.refl _ _).alloc (Nat.le_refl _) _); have Hw0 := hide hw0; clear hw0
  have h0 := h.below hbw0
  have hs0 := hs.below hbw0
  have HM := hide (show ∀ X, Below w0.heap.size w0 X → MIs X L Y f a N NN B D G gn gc from fun X hX => h0.below hX)
  have HBx := hide (show ∀ X, Below w0.heap.size w0 X → Blk X w.heap.size [.int .i64 sNum, .int .i64 sShapeBlocks, .int .i64 sShapeSize, .slice sPagesA sPagesn sPagesc, .slice sRowsA sRowsn sRowsc, .int .i64 sGroupEpoch, .slice sGroupMembersA sGroupMembersn sGroupMembersc] 30 from fun X hX => hBw0.below hX)
  have y0 : ∀ x : InC (fun W => Below w0.heap.size w0 W), x.W.cell? ⟨w.heap.size, 0, none⟩ = some (.int .i64 sNum) := fun x => (HBx.out x.W x.h).cell (j := 0) rfl
  have y1 : ∀ x : InC (fun W => Below w0.heap.size w0 W), x.W.cell? ⟨w.heap.size, 1, none⟩ = some (.int .i64 sShapeBlocks) := fun x => (HBx.out x.W x.h).cell (j := 1) rfl
  have y2 : ∀ x : InC (fun W => Below w0.heap.size w0 W), x.W.cell? ⟨w.heap.size, 2, none⟩ = some (.int .i64 sShapeSize) := fun x => (HBx.out x.W x.h).cell (j := 2) rfl
  have y3 : ∀ x : InC (fun W => Below w0.heap.size w0 W), x.W.cell? ⟨w.heap.size, 3, none⟩ = some (.slice sPagesA sPagesn sPagesc) := fun x => (HBx.out x.W x.h).cell (j := 3) rfl
  have y4 : ∀ x : InC (fun W => Below w0.heap.size w0 W), x.W.cell? ⟨w.heap.size, 4, none⟩ = some (.slice sRowsA sRowsn sRowsc) := fun x => (HBx.out x.W x.h).cell (j := 4) rfl
  have y5 : ∀ x : InC (fun W => Below w0.heap.size w0 W), x.W.cell? ⟨w.heap.size, 5, none⟩ = some (.int .i64 sGroupEpoch) := fun x => (HBx.out x.W x.h).cell (j := 5) rfl
  have y6 : ∀ x : InC (fun W => Below w0.heap.size w0 W), x.W.cell? ⟨w.heap.size, 6, none⟩ = some (.slice sGroupMembersA sGroupMembersn sGroupMembersc) := fun x => (HBx.out x.W x.h).cell (j := 6) rfl
  have x0 : ∀ x : InC (fun W => Below w0.heap.size w0 W), x.W.cell? ⟨f.mb, 0, none⟩ = some (.pointer (some ⟨f.v, 0, none⟩)) := fun x => (HM.out x.W x.h).blk.cell (j := 0) rfl
  have x4 : ∀ x : InC (fun W => Below w0.heap.size w0 W), x.W.cell? ⟨f.mb, 4, none⟩ = some (.int .i64 a.num) := fun x => (HM.out x.W x.h).blk.cell (j := 4) rfl
  have HS := hide (show ∀ x : InC (fun W => Below w0.heap.size w0 W), Calls Tryz.prog 58 #[.agg #[.int .i64 sNum, .int .i64 sShapeBlocks, .int .i64 sShapeSize, .slice sPagesA sPagesn sPagesc, .slice sRowsA sRowsn sRowsc, .int .i64 sGroupEpoch, .slice sGroupMembersA sGroupMembersn sGroupMembersc]] x.W fun e w' => e = .returned (.bool (stateB (sNum, (sShapeBlocks, sShapeSize), sPages, sRows, (sGroupEpoch, sGroupMembers)))) ∧ Below x.W.heap.size x.W w' from fun x => mayState_any (hs0.below x.h))
  have HSh := hide (show ∀ x : InC (fun W => Below w0.heap.size w0 W), Calls Tryz.prog 53 #[.pointer (some ⟨f.v, 0, none⟩)] x.W fun e w' => e = .returned (shp a.b a.z) ∧ Below x.W.heap.size x.W w' from fun x => shapeOf_any x.W _ _ _ _ _ _ _ _ _ (HM.out x.W x.h).vol)
  have HX := hide hx
  have q0 : (sShapeBlocks == (a.b : Int)) = true := by simpa using hb
  have q : (sShapeSize == (a.z : Int)) = true := by simpa using hz
  have q2 : decide (sNum < a.num) = true := decide_eq_true hn
  clear hx hb hz hn
  go_enter Tryz.func22, Tryz.ntmps22
  go_wp2_with fail
  rw [Hw0.out]
  go_fit (made7_any h0)
  rintro xx w1 ⟨rfl, rfl⟩
  go_wp2_with fail
  refine wp_region_in (fun W => Below w0.heap.size w0 W) (Below.refl _ _).drew (by kernel_rfl) (by kernel_rfl) ?_
  repeat (go_big_quiet_step (first
    | (go_at_call 58; have hh := HS.out; rw [HX.out] at hh; exact Calls.in_below (hh _))
    | (go_at_call 53; exact Calls.in_below (HSh.out _))))
  refine wpQuiet_nil ?_
  intro _ hw'
  obtain ⟨nq, hw''⟩ := hw'
  subst hw''
  have hbq := nq.h
  go_wp2
  go_ret
  exact ⟨rfl, hbw0.trans (hbq.mono hbw0.size)⟩

set_option maxRecDepth 20000 in
set_option maxHeartbeats 6400000 in
theorem patch7_ok {Q : Nat → Prop} {x : StateD} {cs : List Value} (h : MIs w L Y f a N NN B D G gn gc) (hs : tyState.Is w Q x cs) (hx : a.patchB x = true) (hQ : ∀ b, Q b → ¬ f.W b) (hY : ∀ b, Y b → b < w.heap.size) : Calls Tryz.prog 22 #[.pointer (some ⟨f.mb, 0, none⟩), .agg cs.toArray] w fun e w' => e = .returned (.int .i64 0) ∧ (∃ f' : MFp, f'.mb = f.mb ∧ f'.v = f.v ∧ f'.r = f.r ∧ f'.s = f.s ∧ MX w' L Y f' (a.patch x) 64 ∧ (f'.bm = f.bm ∨ w.heap.size ≤ f'.bm)) ∧ Fr f.W w w' := by
  have hs' := hs
  obtain ⟨sNum, sShapeBlocks, sShapeSize, sPages, sPagesA, sPagesn, sPagesc, sPagesv, sRows, sRowsA, sRowsn, sRowsc, sRowsv, sGroupEpoch, sGroupMembers, sGroupMembersA, sGroupMembersn, sGroupMembersc, sGroupMembersv, rfl, rfl, h1_sNum, h2_sNum, h1_sShapeBlocks, h2_sShapeBlocks, h1_sShapeSize, h2_sShapeSize, hl_sPages, hc_sPages, hm_sPages, hr_sPages, hq_sPages, he_sPages, hl_sRows, hc_sRows, hm_sRows, hr_sRows, hq_sRows, he_sRows, h1_sGroupEpoch, h2_sGroupEpoch, hl_sGroupMembers, hc_sGroupMembers, hm_sGroupMembers, hr_sGroupMembers, hq_sGroupMembers, he_sGroupMembers⟩ := State_out hs'
  obtain ⟨w0, hw0⟩ : ∃ x, w.alloc (.cells #[.int .i64 sNum, .int .i64 sShapeBlocks, .int .i64 sShapeSize, .slice sPagesA sPagesn sPagesc, .slice sRowsA sRowsn sRowsc, .int .i64 sGroupEpoch, .slice sGroupMembersA sGroupMembersn sGroupMembersc] 30) = x := ⟨_, rfl⟩; have hBw0 : Blk w0 w.heap.size [.int .i64 sNum, .int .i64 sShapeBlocks, .int .i64 sShapeSize, .slice sPagesA sPagesn sPagesc, .slice sRowsA sRowsn sRowsc, .int .i64 sGroupEpoch, .slice sGroupMembersA sGroupMembersn sGroupMembersc] 30 := (by rw [← hw0]; exact Blk.new w [.int .i64 sNum, .int .i64 sShapeBlocks, .int .i64 sShapeSize, .slice sPagesA sPagesn sPagesc, .slice sRowsA sRowsn sRowsc, .int .i64 sGroupEpoch, .slice sGroupMembersA sGroupMembersn sGroupMembersc] _); have hbw0 : Below w.heap.size w w0 := (by rw [← hw0]; exact (Below.refl _ _).alloc (Nat.le_refl _) _); have Hw0 := hide hw0; clear hw0
  have h0 := h.below hbw0
  have hs0 := hs.below hbw0
  have HM := hide (show ∀ X, Below w0.heap.size w0 X → MIs X L Y f a N NN B D G gn gc from fun X hX => h0.below hX)
  have HBx := hide (show ∀ X, Below w0.heap.size w0 X → Blk X w.heap.size [.int .i64 sNum, .int .i64 sShapeBlocks, .int .i64 sShapeSize, .slice sPagesA sPagesn sPagesc, .slice sRowsA sRowsn sRowsc, .int .i64 sGroupEpoch, .slice sGroupMembersA sGroupMembersn sGroupMembersc] 30 from fun X hX => hBw0.below hX)
  unfold MA.patchB at hx
  simp only [Bool.and_eq_true, decide_eq_true_eq, Bool.not_eq_true', decide_eq_false_iff_not] at hx
  obtain ⟨hx, ⟨hb, hz⟩, hn⟩ := hx
  obtain ⟨x1, x2, x3, x4', x5, x6⟩ := stateB_out hx
  simp only at x1 x2 x3 x4' x5 x6
  have hE := rw_of he_sRows
  obtain ⟨hmi, _⟩ := i64rows he_sGroupMembers
  subst hmi
  have gl := grp_len x5
  have r64 := (rowsB_out x4').1
  have HlP := hide hl_sPages
  have HlE := hide hl_sRows
  have HlM := hide hl_sGroupMembers
  have hgn : sGroupMembersn ≤ 9 := by rw [← HlM.out]; exact gl.2
  rw [hb, hz] at x3
  have hP := pgq_of he_sPages (good_of_mpA (by omega) x3) h.vol.hz.1
  have X3 := hide x3
  have X4 := hide x4'
  have X5 := hide x5
  have HX := hide hx
  have HPx := hide (show (∀ b, Q b → b ≠ f.v ∧ b ≠ f.r ∧ b ≠ f.s) from fun b hb => ⟨fun e => hQ b hb (.inr (.inl e)), fun e => hQ b hb (.inr (.inr (.inl e))), fun e => hQ b hb (.inr (.inr (.inr (.inl e))))⟩)
  have q0 : (sShapeBlocks == (a.b : Int)) = true := by simpa using hb
  have q : (sShapeSize == (a.z : Int)) = true := by simpa using hz
  have q2 : decide (sNum < a.num) = false := decide_eq_false hn
  clear hx hb hz hn hl_sPages hl_sRows hl_sGroupMembers x1 x2 x3 x4' x5 x6
  have y0 : ∀ x : InC (fun W => Below w0.heap.size w0 W), x.W.cell? ⟨w.heap.size, 0, none⟩ = some (.int .i64 sNum) := fun x => (HBx.out x.W x.h).cell (j := 0) rfl
  have y1 : ∀ x : InC (fun W => Below w0.heap.size w0 W), x.W.cell? ⟨w.heap.size, 1, none⟩ = some (.int .i64 sShapeBlocks) := fun x => (HBx.out x.W x.h).cell (j := 1) rfl
  have y2 : ∀ x : InC (fun W => Below w0.heap.size w0 W), x.W.cell? ⟨w.heap.size, 2, none⟩ = some (.int .i64 sShapeSize) := fun x => (HBx.out x.W x.h).cell (j := 2) rfl
  have y3 : ∀ x : InC (fun W => Below w0.heap.size w0 W), x.W.cell? ⟨w.heap.size, 3, none⟩ = some (.slice sPagesA sPagesn sPagesc) := fun x => (HBx.out x.W x.h).cell (j := 3) rfl
  have y4 : ∀ x : InC (fun W => Below w0.heap.size w0 W), x.W.cell? ⟨w.heap.size, 4, none⟩ = some (.slice sRowsA sRowsn sRowsc) := fun x => (HBx.out x.W x.h).cell (j := 4) rfl
  have y5 : ∀ x : InC (fun W => Below w0.heap.size w0 W), x.W.cell? ⟨w.heap.size, 5, none⟩ = some (.int .i64 sGroupEpoch) := fun x => (HBx.out x.W x.h).cell (j := 5) rfl
  have y6 : ∀ x : InC (fun W => Below w0.heap.size w0 W), x.W.cell? ⟨w.heap.size, 6, none⟩ = some (.slice sGroupMembersA sGroupMembersn sGroupMembersc) := fun x => (HBx.out x.W x.h).cell (j := 6) rfl
  have x0 : ∀ x : InC (fun W => Below w0.heap.size w0 W), x.W.cell? ⟨f.mb, 0, none⟩ = some (.pointer (some ⟨f.v, 0, none⟩)) := fun x => (HM.out x.W x.h).blk.cell (j := 0) rfl
  have x4 : ∀ x : InC (fun W => Below w0.heap.size w0 W), x.W.cell? ⟨f.mb, 4, none⟩ = some (.int .i64 a.num) := fun x => (HM.out x.W x.h).blk.cell (j := 4) rfl
  have HS := hide (show ∀ x : InC (fun W => Below w0.heap.size w0 W), Calls Tryz.prog 58 #[.agg #[.int .i64 sNum, .int .i64 sShapeBlocks, .int .i64 sShapeSize, .slice sPagesA sPagesn sPagesc, .slice sRowsA sRowsn sRowsc, .int .i64 sGroupEpoch, .slice sGroupMembersA sGroupMembersn sGroupMembersc]] x.W fun e w' => e = .returned (.bool (stateB (sNum, (sShapeBlocks, sShapeSize), sPages, sRows, (sGroupEpoch, sGroupMembers)))) ∧ Below x.W.heap.size x.W w' from fun x => mayState_any (hs0.below x.h))
  have HSh := hide (show ∀ x : InC (fun W => Below w0.heap.size w0 W), Calls Tryz.prog 53 #[.pointer (some ⟨f.v, 0, none⟩)] x.W fun e w' => e = .returned (shp a.b a.z) ∧ Below x.W.heap.size x.W w' from fun x => shapeOf_any x.W _ _ _ _ _ _ _ _ _ (HM.out x.W x.h).vol)
  go_enter Tryz.func22, Tryz.ntmps22
  go_wp2_with fail
  rw [Hw0.out]
  go_fit (made7_any h0)
  rintro xx w1 ⟨rfl, rfl⟩
  go_wp2_with fail
  refine wp_region_in (fun W => Below w0.heap.size w0 W) (Below.refl _ _).drew (by kernel_rfl) (by kernel_rfl) ?_
  repeat (go_big_quiet_step (first
    | (go_at_call 58; have hh := HS.out; rw [HX.out] at hh; exact Calls.in_below (hh _))
    | (go_at_call 53; exact Calls.in_below (HSh.out _))))
  refine wpQuiet_nil ?_
  intro _ hw'
  obtain ⟨nq, hw''⟩ := hw'
  subst hw''
  have hbq := nq.h
  have hMq := HM.out _ hbq
  have hBq := HBx.out _ hbq
  have hwq : Below w.heap.size w nq.W := hbw0.trans (hbq.mono hbw0.size)
  obtain ⟨w2, hw2⟩ : ∃ y, nq.W = y := ⟨_, rfl⟩
  rw [hw2] at hMq hBq hwq ⊢
  clear x0 x4 y0 y1 y2 y3 y4 y5 y6 hw2 hbq h0 hs0 HM HBx HS HSh
  have HN3 := hide (show ∀ X, Below w2.heap.size w2 X → VolIs X f.v f.r f.s a.b a.z NN a.bs a.vs a.last from fun X hX => (hMq.below hX).vol)
  have hPw := hP.below hwq
  have hrPw := hr_sPages.below hwq
  have HPt := hide (show ∀ X, Below w2.heap.size w2 X → Calls Tryz.prog 59 #[.pointer (some ⟨f.v, 0, none⟩), .slice sPagesA sPagesn sPagesc] X fun e w' => e = .returned (.int .i64 0) ∧ VolIs w' f.v f.r f.s a.b a.z NN (layB a.z a.bs sPages) (layV a.vs sPages) (layL a.last sPages) ∧ Upd f.v f.r f.s X w' from fun X hX => patch_ok2 X _ _ _ _ _ _ _ _ _ sPagesA sPagesn sPagesc sPagesv sPages (HN3.out X hX) HlP.out hc_sPages hm_sPages (hrPw.below hX) (fun hne x hx => HPx.out _ (hq_sPages hne x hx)) ((hPw.below hX).keep (fun _ _ h _ => h) HPx.out) X3.out)
  have KC := hide (show ∀ X, Below w2.heap.size w2 X → (X.cell? ⟨f.mb, 0, none⟩ = some (.pointer (some ⟨f.v, 0, none⟩)) ∧ X.cell? ⟨w.heap.size, 3, none⟩ = some (.slice sPagesA sPagesn sPagesc)) from fun X hX => ⟨(hMq.below hX).blk.cell (j := 0) rfl, (hBq.below hX).cell (j := 3) rfl⟩)
  have hlts := hMq.lts
  have l1 := h.lts
  have m1 := l1 _ (.inl rfl)
  have m2 := l1 _ (.inr (.inl rfl))
  have m3 := l1 _ (.inr (.inr (.inl rfl)))
  have m4 := l1 _ (.inr (.inr (.inr (.inl rfl))))
  have m5 := l1 _ (.inr (.inr (.inr (.inr rfl))))
  obtain ⟨hi1, hi2, hi3, hi4⟩ := h.hiB
  have n1 : f.mb ≠ f.v := by omega
  have n2 : f.mb ≠ f.r := by omega
  have n3 : f.mb ≠ f.s := by omega
  have KU := hide (show ∀ X, Upd f.v f.r f.s w2.drew X → (X.cell? ⟨f.mb, 0, none⟩ = some (.pointer (some ⟨f.v, 0, none⟩)) ∧ X.cell? ⟨w.heap.size, 3, none⟩ = some (.slice sPagesA sPagesn sPagesc)) from fun X hX => by
    have hF : Fr (fun b => b = f.v ∨ b = f.r ∨ b = f.s) w2 X := (Fr.refl _ w2).drew.trans (Fr.of_upd hX (.inl rfl) (.inr (.inl rfl)) (.inr (.inr rfl)))
    exact ⟨(hMq.blk.fr hF (by omega)).cell (j := 0) rfl, (hBq.fr hF (by omega)).cell (j := 3) rfl⟩)
  have S0 := KC.out w2.drew (Below.refl _ _).drew
  go_wp2_with fail
  go_region_held_law (fun X => X.cell? ⟨f.mb, 0, none⟩ = some (.pointer (some ⟨f.v, 0, none⟩)) ∧ X.cell? ⟨w.heap.size, 3, none⟩ = some (.slice sPagesA sPagesn sPagesc)) (first | with_reducible assumption) (first
    | (go_at_call 59; refine (HPt.out _ (Below.refl _ _).drew).mono ?_; rintro xx w3 ⟨rfl, hv3, hu3⟩; have S3 := KU.out _ hu3))
  all_goals
    have hF3 : Fr (fun b => b = f.v ∨ b = f.r ∨ b = f.s) w2 w3 := (Fr.refl _ w2).drew.trans (Fr.of_upd hu3 (.inl rfl) (.inr (.inl rfl)) (.inr (.inr rfl)))
    have hM3 := (hMq.below (Below.refl _ _).drew).upd hu3 hv3
    have hB3 := hBq.fr hF3 (by omega)
    have hs3 := hs.below hwq
    have F03 : Fr f.W w w3 := (Fr.of_below hwq).trans (hF3.mono fun b hb => by rcases hb with hb | hb | hb; exact .inr (.inl hb); exact .inr (.inr (.inl hb)); exact .inr (.inr (.inr (.inl hb))))
    have hE3 := hE.fr7 F03 hQ
    have hrE3 := hr_sRows.fr F03 (fun hne x hx hW => hQ _ (hq_sRows (fun e0 => hne (List.eq_nil_of_length_eq_zero (by rw [hE.1, e0]; rfl))) x hx) hW)
    have hrM3 := hr_sGroupMembers.fr F03 (fun hne x hx hW => hQ _ (hq_sGroupMembers (fun e0 => hne (by rw [e0]; rfl)) x hx) hW)
    clear hs3 S3 S0
    have y4 := hB3.cell (j := 4) rfl
    have s3 := F03.size
    go_wp2_with fail
    go_fit (tload_any sRowsA sRowsn sRowsc sRowsv sRows Q w3 HlE.out hrE3 hE3 X4.out)
    rintro xx w4 ⟨t, bm, N4, D4, tm, rfl, hT4, hN4, hsz4, hm4, hb4⟩
    have hM4 := hM3.below hb4
    have hB4 := hB3.below hb4
    have hrM4 := hrM3.below hb4
    have hdt := hT4.dataB
    obtain ⟨tB1, tB2⟩ := hT4.hB
    have tl4 := hT4.blk.lt
    have bl4 := hT4.own.lt
    have s4 := hb4.size
    have xf1 := hM4.blk.frozen 1
    have xx1 := hM4.blk.cell (j := 1) rfl
    obtain ⟨w5, hw5⟩ : ∃ y, w4.setCell ⟨f.mb, 1, none⟩ (.pointer (some ⟨t, 0, none⟩)) = y := ⟨_, rfl⟩
    have hF5 : Fr (fun b => b = f.mb) w4 w5 := by rw [← hw5]; exact Fr.setg w4 f.mb 1 _
    have hK5 : Blk w5 f.mb [.pointer (some ⟨f.v, 0, none⟩), .pointer (some ⟨t, 0, none⟩), .int .i64 a.ep, .slice G gn gc, .int .i64 a.num] 90 := by rw [← hw5]; exact hM4.blk.set 1 _
    have hB5 := hB4.fr hF5 (by omega)
    have hrM5 := hrM4.fr hF5 (fun hne x hx hW => hQ _ (hq_sGroupMembers (fun e0 => hne (by rw [e0]; rfl)) x hx) (.inl hW))
    have hV5 := hM4.vol.fr hF5 (by omega) (by omega) (by omega)
    have hT5 := hT4.fr hF5 (by omega) (by omega) (hdt.mono fun b hb => by omega)
    have s5 := hF5.size
    have Hw5 := hide hw5
    have HN4 := hide hN4
    have Hsz4 := hide hsz4
    have Hm4 := hide hm4
    have hB45 := hB4.apart (k := f.mb) (by omega) 1 (.pointer (some ⟨t, 0, none⟩))
    have y5 := hB45.cell (j := 5) rfl
    have y6 := hB45.cell (j := 6) rfl
    clear hw5 hN4 hsz4 hm4 y4 hT4 hM4 hM3 hMq
    have hgs : f.mb ≠ w.heap.size := by omega
    go_wp2_with fail
    rw [Hw5.out]
    clear xf1 xx1
    go_fit (cloneG_any sGroupEpoch sGroupMembersA sGroupMembersn sGroupMembersc sGroupMembers w5 HlM.out (by omega) hrM5)
    rintro xx w6 ⟨GA, gcap, rfl, hgc, hgm, hgr, hga, hb6⟩
    have hK6 := hK5.below hb6
    have hB6 := hB5.below hb6
    have s6 := hb6.size
    have xf2 := hK6.frozen 2
    have xf3 := hK6.frozen 3
    have xf4 := hK6.frozen 4
    have xx2 := hK6.cell (j := 2) rfl
    have xx3 := hK6.cell (j := 3) rfl
    have xx4 := hK6.cell (j := 4) rfl
    have hF7 : Fr (fun b => b = f.mb) w6 (((w6.setCell ⟨f.mb, 2, none⟩ (.int .i64 sGroupEpoch)).setCell ⟨f.mb, 3, none⟩ (.slice GA sGroupMembersn gcap)).setCell ⟨f.mb, 4, none⟩ (.int .i64 sNum)) := ((Fr.setg w6 f.mb 2 _).trans (Fr.setg _ f.mb 3 _)).trans (Fr.setg _ f.mb 4 _)
    have hK7 := ((hK6.set 2 (.int .i64 sGroupEpoch)).set 3 (.slice GA sGroupMembersn gcap)).set 4 (.int .i64 sNum)
    have hF27 : Fr (fun b => b = f.mb) w6 ((w6.setCell ⟨f.mb, 2, none⟩ (.int .i64 sGroupEpoch)).setCell ⟨f.mb, 3, none⟩ (.slice GA sGroupMembersn gcap)) := (Fr.setg w6 f.mb 2 _).trans (Fr.setg _ f.mb 3 _)
    clear y5 y6
    have y0 := (hB6.fr hF27 (by omega)).cell (j := 0) rfl
    have hV7 := (hV5.below hb6).fr hF7 (by omega) (by omega) (by omega)
    have hT7 := (hT5.below hb6).fr hF7 (by omega) (by omega) (hdt.mono fun b hb => by omega)
    have hG7 := hgr.fr hF7 (fun _ x hx => by have := hga x hx; omega)
    have hGl : ∀ x, GA = some x → x.block < w6.heap.size := rd_block hgr (fun e => by have e2 : sGroupMembers.length = 0 := (by simpa [ints] using congrArg List.length e); omega)
    have FW : Fr f.W w (((w6.setCell ⟨f.mb, 2, none⟩ (.int .i64 sGroupEpoch)).setCell ⟨f.mb, 3, none⟩ (.slice GA sGroupMembersn gcap)).setCell ⟨f.mb, 4, none⟩ (.int .i64 sNum)) := (((F03.trans (Fr.of_below hb4)).trans (hF5.mono fun b hb => .inl hb)).trans (Fr.of_below hb6)).trans (hF7.mono fun b hb => .inl hb)
    have HK7 := hide hK7
    have HV7 := hide hV7
    have HT7 := hide hT7
    have HG7 := hide hG7
    have HFW := hide FW
    clear hK7 hV7 hT7 hG7 FW hF7 hF27
    go_wp2
    go_ret
    have e1 := tmOf_eq Hm4.out
    subst e1
    have hBle : B ≤ w3.heap.size := by omega
    have hnY : ∀ b, w3.heap.size ≤ b → ¬ Y b := fun b h1 h2 => by have := hY b h2; omega
    obtain ⟨yA1, yA2, yA3, yA4, yA5, yA6⟩ := h.yA
    refine ⟨rfl, ⟨{ f with t := t, bm := bm }, rfl, rfl, rfl, rfl, ⟨NN, B, D4, GA, sGroupMembersn, gcap, ?_⟩, .inr (by show w.heap.size ≤ bm; omega)⟩, HFW.out⟩
    exact { blk := HK7.out, vol := HV7.out, tab := (HT7.out.weak hBle).upto (by rw [HN4.out]; exact r64), sz := Hsz4.out, gr := HG7.out, gl := HlM.out, gc_ := ⟨hgc, hgm⟩, ok := X5.out, lo := h.lo, hiB := h.hiB, ne := by show f.mb ≠ t ∧ f.mb ≠ bm; omega
            gA := fun x hx => by have := hGl x hx; have := hga x hx; exact ⟨by omega, by show x.block ≠ f.mb; omega, by show x.block ≠ bm; omega, by show x.block ≠ t; omega, hnY _ (by omega)⟩
            dA := hdt.mono fun b hb => ⟨by show b ≠ f.mb; omega, hnY _ (by omega)⟩
            yA := ⟨yA1, yA2, yA3, yA4, hnY _ (by show w3.heap.size ≤ t; omega), hnY _ (by show w3.heap.size ≤ bm; omega)⟩ }
end
end Go.Proofs.YtkknkdjdneldlaaGreat
namespace Go.Proofs.YtkknkdjdneldlaaGreat
set_option maxRecDepth 20000
open Go.RowKit Go.Px Go.Maps
set_option linter.unusedVariables false
/-- All that is right of a machine. -/
structure MA.Fit (a : MA) : Prop where
  ok : a.Ok
  gk : grpOk a.ep a.ms = true
  hb : 1 ≤ a.b ∧ a.b ≤ 4096
  hz : 1 ≤ a.z ∧ a.z ≤ 4096
  lb : a.bs.length = a.b * a.z
  lv : a.vs.length = a.b
  zero : Since a.b a.z 0 (List.replicate (a.b * a.z) 0) (List.replicate a.b 0) a.bs a.vs
  last : a.last ≤ a.num
theorem since_lay {b z : Nat} {bs0 : List UInt8} {vs0 : List Int} : ∀ (ps : List PageD) (bs : List UInt8) (vs : List Int), bs.length = b * z → vs.length = b → Good b z ps → Since b z 0 bs0 vs0 bs vs →
    Since b z 0 bs0 vs0 (layB z bs ps) (layV vs ps) ∧ (layB z bs ps).length = b * z ∧ (layV vs ps).length = b
  | [], bs, vs, h1, h2, _, h3 => ⟨h3, h1, h2⟩
  | p :: r, bs, vs, h1, h2, hg, h3 => by
    obtain ⟨P, e1, e2, e3, e4⟩ := hg 0 p rfl
    have hfit : P * z + p.2.2.length ≤ bs.length := by
      rw [h1, e3, ← Nat.succ_mul]; exact Nat.mul_le_mul_right z e2
    have hs := serB_out e4
    refine since_lay r (splB bs (p.1.toNat * z) p.2.2) (vs.set p.1.toNat p.2.1) ?_ (by simp [h2]) (fun j q hq => hg (j + 1) q (by simpa using hq)) ?_
    · rw [e1, Int.toNat_natCast, splB_length hfit]; exact h1
    · intro i hi
      rw [e1, Int.toNat_natCast]
      by_cases c : P = i
      · subst c
        refine .inr ?_
        rw [List.getD_eq_getElem?_getD, List.getElem?_set_self (by omega)]
        show 0 < p.2.1
        omega
      · rcases h3 i hi with ⟨q1, q2⟩ | q1
        · refine .inl ⟨?_, fun r hr => ?_⟩
          · rw [List.getD_eq_getElem?_getD, List.getElem?_set_ne c, ← List.getD_eq_getElem?_getD]; exact q1
          · rw [splB_getD hfit, e3, if_neg]
            · exact q2 r hr
            · have := blk_out (i := i) (P := P) (M := 1) hr
              rw [Nat.one_mul] at this
              rw [this]; omega
        · refine .inr ?_
          rw [List.getD_eq_getElem?_getD, List.getElem?_set_ne c, ← List.getD_eq_getElem?_getD]; exact q1
theorem layV_mem : ∀ (ps : List PageD) (vs : List Int) (v : Int), v ∈ layV vs ps → v ∈ vs ∨ ∃ p ∈ ps, v = p.2.1
  | [], vs, v, h => .inl h
  | p :: r, vs, v, h => by
    rcases layV_mem r (vs.set p.1.toNat p.2.1) v h with h | ⟨q, hq, e⟩
    · rcases List.mem_or_eq_of_mem_set h with h | h
      · exact .inl h
      · exact .inr ⟨p, List.mem_cons_self, h⟩
    · exact .inr ⟨q, List.mem_cons_of_mem _ hq, e⟩
theorem layL_le : ∀ (ps : List PageD) (l num : Int), l ≤ num → (∀ p ∈ ps, p.2.1 ≤ num) → layL l ps ≤ num
  | [], l, num, h, _ => h
  | p :: r, l, num, h, hp => layL_le r (max l p.2.1) num (by have := hp p List.mem_cons_self; omega) (fun q hq => hp q (List.mem_cons_of_mem _ hq))
theorem versB_out {num : Int} {ps : List PageD} (h : versB num ps = true) : ∀ p ∈ ps, p.2.1 ≤ num := by
  unfold versB at h
  simpa using h
theorem fit_of {x : StateD} (hx : stateB x = true) : (MA.of x).Fit := by
  obtain ⟨n, ⟨b, z⟩, ps, rs, ep, ms⟩ := x
  obtain ⟨x1, x2, x3, x4, x5, x6⟩ := stateB_out hx
  simp only at x1 x2 x3 x4 x5 x6
  obtain ⟨b, z, rfl, rfl, hb, hz⟩ := shE_out x2
  have hg := good_of_mpA (by omega) x3
  have hv := versB_out x6
  have hn := numB_out x1
  obtain ⟨s1, s2, s3⟩ := since_lay (bs0 := List.replicate (b * z) 0) (vs0 := List.replicate b 0) ps (List.replicate (b * z) 0) (List.replicate b 0) (by simp) (by simp) hg (Since.refl _ _ _ _ _)
  refine ⟨⟨x1, x4, fun v h => ?_⟩, x5, hb, hz, s2, s3, s1, ?_⟩
  · have h' : v ∈ layV (List.replicate b 0) ps := h
    show 0 ≤ v ∧ v ≤ n
    rcases layV_mem ps _ v h' with h1 | ⟨p, hp, rfl⟩
    · have := List.eq_of_mem_replicate h1; omega
    · obtain ⟨j, hj, rfl⟩ := List.mem_iff_getElem.1 hp
      obtain ⟨P, _, _, _, e4⟩ := hg j _ (List.getElem?_eq_getElem hj)
      have := serB_out e4
      have := hv _ hp
      omega
  · show layL 0 ps ≤ n
    exact layL_le ps 0 n (by omega) hv
/-! ### Apply -/
theorem do_lens (b z : Nat) (bs : List UInt8) (vs : List Int) (last : Int) (k : Nat) (p n : Int) (ds os : List UInt8) (num : Int) (hb : bs.length = b * z) (hv : vs.length = b) :
    (doBE b z bs last k p n ds os num).length = b * z ∧ (doVE b z bs vs last k p n ds os num).length = b := by
  rcases do_changes b z bs vs last k p n ds os num with ⟨e1, e2⟩ | ⟨P, M, xs, hPM, hx, e1, e2, _⟩
  · rw [e1, e2]; exact ⟨hb, hv⟩
  · rw [e1, e2, stampL_length, splB_length (by rw [hx, hb, ← Nat.add_mul]; exact Nat.mul_le_mul_right z hPM)]
    exact ⟨hb, hv⟩
theorem doLE_le {b z : Nat} {last : Int} {k : Nat} {p n : Int} {ds os : List UInt8} {num : Int} (h : last ≤ num) : doLE b z last k p n ds os num ≤ num := by
  unfold doLE; split <;> omega
/-- What done leaves. -/
theorem done_fit {a : MA} (h : a.Fit) {e : EntryD} (hk : kindB e = true) (hn : a.num = e.2.1) (hl : a.last ≤ e.2.1) (h0 : 0 < e.2.1) :
    (a.done e).1.b = a.b ∧ (a.done e).1.z = a.z ∧ grpOk (a.done e).1.ep (a.done e).1.ms = true ∧ (a.done e).1.bs.length = a.b * a.z ∧ (a.done e).1.vs.length = a.b ∧ (a.done e).1.last ≤ e.2.1 := by
  unfold MA.done
  split
  · obtain ⟨l1, l2⟩ := do_lens a.b a.z a.bs a.vs a.last e.2.2.2.2.2.1.1 e.2.2.2.2.2.1.2.1 e.2.2.2.2.2.1.2.2.1 e.2.2.2.2.2.1.2.2.2.1 e.2.2.2.2.2.1.2.2.2.2 e.2.1 h.lb h.lv
    exact ⟨rfl, rfl, h.gk, l1, l2, doLE_le hl⟩
  · rename_i h1
    split
    · rename_i h2
      rcases kindB_two hk with hk | hk
      · exact absurd hk h1
      · exact ⟨rfl, rfl, hk.2, h.lb, h.lv, hl⟩
    · exact ⟨rfl, rfl, h.gk, h.lb, h.lv, hl⟩
theorem done_since {a : MA} {n : Int} {bs0 : List UInt8} {vs0 : List Int} (lb : a.bs.length = a.b * a.z) (lv : a.vs.length = a.b) {e : EntryD} (hs : Since a.b a.z n bs0 vs0 a.bs a.vs) (hn : n < e.2.1) : Since a.b a.z n bs0 vs0 (a.done e).1.bs (a.done e).1.vs := by
  unfold MA.done
  split
  · exact hs.step lb lv rfl _ _ _ _ _ _ hn
  · split <;> exact hs
theorem fit_apply {a : MA} (h : a.Fit) (e : EntryD) : (a.apply e).1.Fit ∧ (a.apply e).1.b = a.b ∧ (a.apply e).1.z = a.z := by
  have hok := ok_apply h.ok e
  revert hok
  unfold MA.apply
  by_cases h1 : entryB e = true
  · rw [if_pos h1]
    by_cases h2 : e.2.1 = a.num + 1
    · rw [if_pos h2]
      obtain ⟨hkd, hser⟩ := entryB_kind h1
      have hso := serB_out hser
      have hl := h.last
      by_cases h3 : (askV (tmOf a.rows) a.rows.length e.2.2.2.1 e.2.2.2.2.1).1 = 1
      · rw [if_pos h3]
        intro hok
        have h' : ({ a with num := e.2.1 } : MA).Fit := ⟨⟨serB_num hser, h.ok.rows, fun v hv => by have := h.ok.vs v hv; show 0 ≤ v ∧ v ≤ e.2.1; omega⟩, h.gk, h.hb, h.hz, h.lb, h.lv, h.zero, by show a.last ≤ e.2.1; omega⟩
        obtain ⟨d1, d2, d3, d4, d5, d6⟩ := done_fit h' hkd rfl (by show a.last ≤ e.2.1; omega) (by omega)
        have ds := done_since (n := 0) h'.lb h'.lv h'.zero (e := e) (by omega)
        have dn := done_num ({ a with num := e.2.1 } : MA) e
        refine ⟨⟨hok, d3, by rw [show _ = _ from d1]; exact h.hb, by rw [show _ = _ from d2]; exact h.hz, ?_, ?_, ?_, ?_⟩, d1, d2⟩
        · show (({ a with num := e.2.1 } : MA).done e).1.bs.length = (({ a with num := e.2.1 } : MA).done e).1.b * (({ a with num := e.2.1 } : MA).done e).1.z
          rw [d1, d2]; exact d4
        · show (({ a with num := e.2.1 } : MA).done e).1.vs.length = (({ a with num := e.2.1 } : MA).done e).1.b
          rw [d1]; exact d5
        · show Since (({ a with num := e.2.1 } : MA).done e).1.b (({ a with num := e.2.1 } : MA).done e).1.z 0 (List.replicate ((({ a with num := e.2.1 } : MA).done e).1.b * (({ a with num := e.2.1 } : MA).done e).1.z) 0) (List.replicate (({ a with num := e.2.1 } : MA).done e).1.b 0) (({ a with num := e.2.1 } : MA).done e).1.bs (({ a with num := e.2.1 } : MA).done e).1.vs
          rw [d1, d2]; exact ds
        · show (({ a with num := e.2.1 } : MA).done e).1.last ≤ (({ a with num := e.2.1 } : MA).done e).1.num
          rw [dn]; exact d6
      · rw [if_neg h3]
        intro hok
        exact ⟨⟨hok, h.gk, h.hb, h.hz, h.lb, h.lv, h.zero, by show a.last ≤ e.2.1; omega⟩, rfl, rfl⟩
    · rw [if_neg h2]; intro _; exact ⟨h, rfl, rfl⟩
  · rw [if_neg h1]; intro _; exact ⟨h, rfl, rfl⟩
/-- What was changed since an earlier machine. -/
structure MA.From (a0 a : MA) : Prop where
  b : a.b = a0.b
  z : a.z = a0.z
  num : a0.num ≤ a.num
  since : Since a0.b a0.z a0.num a0.bs a0.vs a.bs a.vs
theorem MA.From.refl (a : MA) : a.From a := ⟨rfl, rfl, Int.le_refl _, Since.refl _ _ _ _ _⟩
theorem from_apply {a0 a : MA} (h : a0.From a) (hf : a.Fit) (e : EntryD) : a0.From (a.apply e).1 := by
  obtain ⟨_, f1, f2⟩ := fit_apply hf e
  obtain ⟨n1, n2⟩ := apply_num hf.ok e
  refine ⟨f1.trans h.b, f2.trans h.z, by have := h.num; omega, ?_⟩
  have hb := h.b
  have hz := h.z
  have hn := h.num
  unfold MA.apply
  split
  · split
    · rename_i h2
      split
      · have hs := h.since
        rw [← hb, ← hz] at hs ⊢
        exact done_since (a := { a with num := e.2.1 }) hf.lb hf.lv hs (by omega)
      · exact h.since
    · exact h.since
  · exact h.since
/-! ### alike but for the volume's last number -/
theorem doE_last {b z : Nat} {l l' : Int} {k : Nat} {p n : Int} {d o : Nat} {num : Int} (h : l ≤ num) (h' : l' ≤ num) : doE b z l k p n d o num = doE b z l' k p n d o num := by
  unfold doE
  by_cases hs : serB num = true
  · rw [if_pos ⟨hs, by omega⟩, if_pos ⟨hs, by omega⟩]
  · rw [if_neg (fun q => hs q.1), if_neg (fun q => hs q.1)]
theorem done_last {a : MA} {l : Int} {e : EntryD} (h : a.last ≤ e.2.1) (h' : l ≤ e.2.1) : ∃ l', ({ a with last := l } : MA).done e = ({ (a.done e).1 with last := l' }, (a.done e).2) := by
  unfold MA.done
  split
  · refine ⟨doLE a.b a.z l e.2.2.2.2.2.1.1 e.2.2.2.2.2.1.2.1 e.2.2.2.2.2.1.2.2.1 e.2.2.2.2.2.1.2.2.2.1 e.2.2.2.2.2.1.2.2.2.2 e.2.1, ?_⟩
    unfold doKE doDE doBE doVE
    rw [doE_last h' h]
  · split <;> exact ⟨l, rfl⟩
theorem apply_last {a : MA} {l : Int} (h : a.last ≤ a.num) (h' : l ≤ a.num) (e : EntryD) : ∃ l', ({ a with last := l } : MA).apply e = ({ (a.apply e).1 with last := l' }, (a.apply e).2) := by
  unfold MA.apply
  by_cases h1 : entryB e = true
  · rw [if_pos h1, if_pos h1]
    by_cases h2 : e.2.1 = a.num + 1
    · have h2' : e.2.1 = ({ a with last := l } : MA).num + 1 := h2
      rw [if_pos h2', if_pos h2]
      by_cases h3 : (askV (tmOf a.rows) a.rows.length e.2.2.2.1 e.2.2.2.2.1).1 = 1
      · have h3' : (askV (tmOf ({ a with last := l } : MA).rows) ({ a with last := l } : MA).rows.length e.2.2.2.1 e.2.2.2.2.1).1 = 1 := h3
        rw [if_pos h3', if_pos h3]
        obtain ⟨l', hd⟩ := done_last (a := { a with num := e.2.1 }) (l := l) (e := e) (by show a.last ≤ e.2.1; omega) (by omega)
        refine ⟨l', ?_⟩
        have hd' : (({ ({ a with last := l } : MA) with num := e.2.1 } : MA)).done e = ({ (({ a with num := e.2.1 } : MA).done e).1 with last := l' }, (({ a with num := e.2.1 } : MA).done e).2) := hd
        simp only [hd']
      · have h3' : ¬ (askV (tmOf ({ a with last := l } : MA).rows) ({ a with last := l } : MA).rows.length e.2.2.2.1 e.2.2.2.2.1).1 = 1 := h3
        rw [if_neg h3', if_neg h3]
        exact ⟨l, rfl⟩
    · have h2' : ¬ e.2.1 = ({ a with last := l } : MA).num + 1 := h2
      rw [if_neg h2', if_neg h2]
      exact ⟨l, rfl⟩
  · rw [if_neg h1, if_neg h1]
    exact ⟨l, rfl⟩
/-! ### states of machines -/
theorem getD_mem_or {vs : List Int} {i : Nat} : vs.getD i 0 ∈ vs ∨ vs.getD i 0 = 0 := by
  rw [List.getD_eq_getElem?_getD]
  cases h : vs[i]? with
  | none => exact .inr rfl
  | some v => exact .inl (List.mem_of_getElem? h)
theorem MA.Fit.ver {a : MA} (h : a.Fit) (i : Nat) : 0 ≤ a.vs.getD i 0 ∧ a.vs.getD i 0 ≤ a.num := by
  have := numB_out h.ok.num
  rcases getD_mem_or (vs := a.vs) (i := i) with hm | hm
  · exact h.ok.vs _ hm
  · omega
theorem stateB_st {a : MA} (h : a.Fit) (since : Int) : stateB (a.st since) = true := by
  have hn := numB_out h.ok.num
  have h1 : shE (a.b : Int) (a.z : Int) = 0 := by
    unfold shE; rw [if_pos]
    have := h.hb; have := h.hz
    omega
  have h2 : mpA (a.b : Int) (a.z : Int) (-1) (pgL a.z a.bs a.vs since a.b) = true := pgL_may h.lb rfl (fun i _ => by have := h.ver i; omega) a.b (Nat.le_refl _)
  have h3 : versB a.num (pgL a.z a.bs a.vs since a.b) = true := by
    unfold versB
    rw [List.all_eq_true]
    intro p hp
    obtain ⟨i, _, e, _⟩ := pgL_mem hp
    rw [e]
    exact decide_eq_true (h.ver i).2
  show stateB (a.num, ((a.b : Int), (a.z : Int)), pgL a.z a.bs a.vs since a.b, a.rows, a.ep, a.ms) = true
  unfold stateB
  simp only [h.ok.num, h1, h2, h.ok.rows, h.gk, h3]
  rfl
/-- A machine of a machine's state is alike. -/
theorem of_st {a : MA} (h : a.Fit) : ∃ l, l ≤ a.num ∧ MA.of (a.st 0) = { a with last := l } := by
  have hf := fit_of (stateB_st h 0)
  obtain ⟨p1, p2⟩ := pages_later (n := 0) h.hz.1 (by omega) (by simp) h.lb (by simp) h.lv rfl h.zero (fun i hi => by simp [List.getD_eq_getElem?_getD, List.getElem?_replicate]; split <;> simp)
  refine ⟨(MA.of (a.st 0)).last, hf.last, ?_⟩
  have e1 : (MA.of (a.st 0)).bs = a.bs := p1
  have e2 : (MA.of (a.st 0)).vs = a.vs := p2
  have e3 : MA.of (a.st 0) = { num := a.num, b := a.b, z := a.z, bs := (MA.of (a.st 0)).bs, vs := (MA.of (a.st 0)).vs, last := (MA.of (a.st 0)).last, rows := a.rows, ep := a.ep, ms := a.ms } := rfl
  rw [e1, e2] at e3
  exact e3
/-! ### a request that is done again -/
theorem ftC_pos {b z : Int} {k : Nat} {p n : Int} {d o : Nat} (h : ftE b z k p n d o = 0) : 1 ≤ ftC b z k p n d o ∧ ftC b z k p n d o ≤ 3 := by
  unfold ftC
  rw [if_neg (by simpa using h)]
  repeat' split
  all_goals omega
theorem segB_le {bs : List UInt8} {p n z : Nat} : (segB bs p n z).length ≤ n * z := by
  unfold segB; exact List.length_take_le _ _
theorem doK_right {b z : Nat} {bs : List UInt8} {k : Nat} {p n : Int} {d : Nat} {os : List UInt8} (hz : z ≤ 4096) (h : ftE b z k p n d os.length = 0) : rsE (doK b z bs k p n d os) (doD b z bs k p n d os).length = 0 := by
  have hc := ftC_pos h
  unfold rsE
  rw [if_pos]
  unfold rsP doK doD
  by_cases h1 : ftC b z k p n d os.length = 1
  · rw [if_pos h1, if_pos h1]
    by_cases hk1 : k = 1
    · subst hk1
      rw [if_pos rfl, if_neg (by omega)]
      refine .inr ⟨.inl rfl, ?_⟩
      unfold ftC at h1
      rw [if_neg (by simpa using h), if_neg (by decide), if_neg (by decide)] at h1
      have hn : n.toNat ≤ 64 := by
        split at h1
        · cases h1
        · omega
      have := segB_le (bs := bs) (p := p.toNat) (n := n.toNat) (z := z)
      have := Nat.mul_le_mul hn hz
      omega
    · rw [if_neg hk1]
      split
      · refine .inr ⟨.inr rfl, ?_⟩
        have := segB_le (bs := bs) (p := p.toNat) (n := 1) (z := z)
        omega
      · exact .inr ⟨.inl rfl, by simp⟩
  · rw [if_neg h1, if_neg h1]
    refine .inl ⟨by omega, rfl⟩
theorem done_right {a : MA} (h : a.Fit) {e : EntryD} (hk : kindB e = true) (hs : serB e.2.1 = true) (hl : a.last ≤ e.2.1) : rsE (a.done e).2.1 (a.done e).2.2.length = 0 := by
  unfold MA.done
  split
  · rename_i h1
    have hE : doE a.b a.z a.last e.2.2.2.2.2.1.1 e.2.2.2.2.2.1.2.1 e.2.2.2.2.2.1.2.2.1 e.2.2.2.2.2.1.2.2.2.1.length e.2.2.2.2.2.1.2.2.2.2.length e.2.1 = 0 := by
      unfold doE
      rw [if_pos ⟨hs, by omega⟩]
      unfold ftE
      have h1' : shE (a.b : Int) (a.z : Int) = 0 := by
        unfold shE; rw [if_pos]
        have := h.hb; have := h.hz
        omega
      rw [if_neg (by simpa using h1')]
      unfold kindB at hk
      rw [if_pos h1] at hk
      simp only [Bool.and_eq_true, beq_iff_eq] at hk
      exact hk.1
    have hft : ftE a.b a.z e.2.2.2.2.2.1.1 e.2.2.2.2.2.1.2.1 e.2.2.2.2.2.1.2.2.1 e.2.2.2.2.2.1.2.2.2.1.length e.2.2.2.2.2.1.2.2.2.2.length = 0 := by
      have := hE
      unfold doE at this
      rwa [if_pos ⟨hs, by omega⟩] at this
    show rsE (doKE _ _ _ _ _ _ _ _ _ _) (doDE _ _ _ _ _ _ _ _ _ _).length = 0
    unfold doKE doDE
    rw [if_pos hE, if_pos hE]
    exact doK_right h.hz.2 hft
  · split <;> rfl
theorem askV_two {m : TM} {S : Nat} {x s : Int} (h : (askV m S x s).1 = 2) : m x = some (s, (askV m S x s).2.2.1, (askV m S x s).2.2.2) ∧ serB x = true ∧ serB s = true := by
  unfold askV at *
  split at h
  · rename_i hs
    rw [if_pos hs]
    cases hm : m x with
    | none => rw [hm] at h; simp only at h; split at h <;> cases h
    | some y =>
      obtain ⟨s0, k0, b0⟩ := y
      rw [hm] at h
      simp only at h ⊢
      split at h
      · cases h
      · split at h
        · cases h
        · rename_i q1 q2
          rw [if_neg q1, if_neg q2]
          have : s0 = s := by omega
          subst this
          exact ⟨rfl, hs⟩
  · cases h
theorem askV_again {m : TM} {S : Nat} {x s : Int} {k : Nat} {bs : List UInt8} (h : m x = some (s, k, bs)) (h1 : serB x = true) (h2 : serB s = true) : askV m S x s = (2, 0, k, bs) := by
  unfold askV
  rw [if_pos ⟨h1, h2⟩, h]
  simp
theorem entry_out {e : EntryD} (h : entryB e = true) : serB e.2.1 = true ∧ numB e.2.2.1 = true ∧ serB e.2.2.2.1 = true ∧ serB e.2.2.2.2.1 = true ∧ kindB e = true := by
  unfold entryB at h
  simpa using h
theorem putR_get {rows : List RowD} (hr : rowsB rows = true) {c s : Int} {k : Nat} {bs : List UInt8} (hp : putV (tmOf rows) rows.length c s k bs.length = 0) : tmOf (putR rows c s k bs) c = some (s, k, bs) := by
  have ht : TbOf (tmOf rows) rows := ⟨tmOf_mem (rowsB_out hr).2.2, (rowsB_out hr).2.2⟩
  have h1 := (putR_tm hr c s k bs).1
  rw [← h1]
  unfold putM
  rw [if_pos hp]
  exact tmPut_same _ _ _ _ _
theorem putR_other {rows : List RowD} (hr : rowsB rows = true) {c s : Int} {k : Nat} {bs : List UInt8} {x : Int} (hx : x ≠ c) : tmOf (putR rows c s k bs) x = tmOf rows x := by
  have h1 := (putR_tm hr c s k bs).1
  rw [← h1]
  unfold putM
  split
  · exact tmPut_other _ _ _ _ hx
  · rfl
/-- A request was done: the table has its result. -/
theorem once_first {a : MA} (h : a.Fit) {e : EntryD} (hx : entryB e = true) (hn : e.2.1 = a.num + 1) (hv : (askV (tmOf a.rows) a.rows.length e.2.2.2.1 e.2.2.2.2.1).1 = 1 ∨ (askV (tmOf a.rows) a.rows.length e.2.2.2.1 e.2.2.2.2.1).1 = 2) :
    tmOf (a.apply e).1.rows e.2.2.2.1 = some (e.2.2.2.2.1, (a.apply e).2.2.1, (a.apply e).2.2.2) ∧ (a.apply e).2.1 = 0 ∧ (a.apply e).1.num = e.2.1 := by
  obtain ⟨q1, q2, q3, q4, q5⟩ := entry_out hx
  have hl := h.last
  unfold MA.apply
  rw [if_pos hx, if_pos hn]
  rcases hv with hv | hv
  · rw [if_pos hv]
    have h' : ({ a with num := e.2.1 } : MA).Fit := ⟨⟨serB_num q1, h.ok.rows, fun v hv => by have := h.ok.vs v hv; show 0 ≤ v ∧ v ≤ e.2.1; omega⟩, h.gk, h.hb, h.hz, h.lb, h.lv, h.zero, by show a.last ≤ e.2.1; omega⟩
    have hr := done_right h' q5 q1 (by show a.last ≤ e.2.1; omega)
    refine ⟨?_, rfl, ?_⟩
    · refine putR_get h.ok.rows ?_
      unfold putV
      have hz : (askV (tmOf a.rows) a.rows.length e.2.2.2.1 e.2.2.2.2.1).2.1 = 0 := by
        unfold askV
        rw [if_pos ⟨q3, q4⟩]
        split
        · split <;> rfl
        · split
          · rfl
          · split <;> rfl
      rw [if_pos hz, if_pos hr, if_neg (by rw [hv]; decide), if_pos hv]
    · show (({ a with num := e.2.1 } : MA).done e).1.num = e.2.1
      rw [done_num]
  · rw [if_neg (by rw [hv]; decide)]
    exact ⟨(askV_two hv).1, rfl, rfl⟩
/-- .. others leave it there. -/
theorem once_keep {a : MA} (h : a.Fit) {x : EntryD} {c : Int} (hc : x.2.2.2.1 ≠ c) : tmOf (a.apply x).1.rows c = tmOf a.rows c := by
  unfold MA.apply
  split
  · split
    · split
      · exact putR_other h.ok.rows (fun e => hc e.symm)
      · rfl
    · rfl
  · rfl
/-- .. and it is told again. -/
theorem once_again {a : MA} {e : EntryD} (hx : entryB e = true) (hn : e.2.1 = a.num + 1) {k : Nat} {bs : List UInt8} (hm : tmOf a.rows e.2.2.2.1 = some (e.2.2.2.2.1, k, bs)) : a.apply e = ({ a with num := e.2.1 }, 0, k, bs) := by
  obtain ⟨q1, q2, q3, q4, q5⟩ := entry_out hx
  have := askV_again (S := a.rows.length) hm q3 q4
  unfold MA.apply
  rw [if_pos hx, if_pos hn, this]
  rfl
theorem entry_num {e : EntryD} (h : entryB e = true) {n : Int} (hn : serB n = true) : entryB (e.1, n, e.2.2) = true := by
  obtain ⟨q1, q2, q3, q4, q5⟩ := entry_out h
  have hk : kindB (e.1, n, e.2.2) = kindB e := rfl
  unfold entryB
  simp [hn, q2, q3, q4, hk, q5]
/-! ### a later state, laid -/
theorem patch_later {a0 a : MA} {l : Int} (h0 : a0.Fit) (h : a.Fit) (hf : a0.From a) : ({ a0 with last := l } : MA).patchB (a.st a0.num) = true ∧ ∃ l', ({ a0 with last := l } : MA).patch (a.st a0.num) = { a with last := l' } := by
  obtain ⟨f1, f2, f3, f4⟩ := hf
  have hn := numB_out h0.ok.num
  constructor
  · unfold MA.patchB
    rw [stateB_st h a0.num]
    have e1 : decide ((a.st a0.num).2.1.1 = ((({ a0 with last := l } : MA).b : Nat) : Int)) = true := decide_eq_true (by show (a.b : Int) = a0.b; rw [f1])
    have e2 : decide ((a.st a0.num).2.1.2 = ((({ a0 with last := l } : MA).z : Nat) : Int)) = true := decide_eq_true (by show (a.z : Int) = a0.z; rw [f2])
    have e3 : decide ((a.st a0.num).1 < ({ a0 with last := l } : MA).num) = false := decide_eq_false (by show ¬ a.num < a0.num; omega)
    rw [e1, e2, e3]; rfl
  · have lb := h.lb
    have lv := h.lv
    rw [f1, f2] at lb
    rw [f1] at lv
    obtain ⟨p1, p2⟩ := pages_later (n := a0.num) h0.hz.1 (by omega) h0.lb lb h0.lv lv rfl f4 (fun i _ => (h0.ver i).2)
    refine ⟨layL l (a.st a0.num).2.2.1, ?_⟩
    have e1 : layB a0.z a0.bs (a.st a0.num).2.2.1 = a.bs := by
      show layB a0.z a0.bs (pgL a.z a.bs a.vs a0.num a.b) = a.bs
      rw [f1, f2]; exact p1
    have e2 : layV a0.vs (a.st a0.num).2.2.1 = a.vs := by
      show layV a0.vs (pgL a.z a.bs a.vs a0.num a.b) = a.vs
      rw [f1, f2]; exact p2
    show MA.mk a.num a0.b a0.z (layB a0.z a0.bs (a.st a0.num).2.2.1) (layV a0.vs (a.st a0.num).2.2.1) (layL l (a.st a0.num).2.2.1) a.rows a.ep a.ms = MA.mk a.num a.b a.z a.bs a.vs (layL l (a.st a0.num).2.2.1) a.rows a.ep a.ms
    rw [e1, e2, f1, f2]
end Go.Proofs.YtkknkdjdneldlaaGreat
namespace Go.Proofs.YtkknkdjdneldlaaGreat
set_option maxRecDepth 20000
open Go.RowKit Go.Px Go.Maps
set_option linter.unusedVariables false
section
variable {X Y : Nat → Prop} {w w' : World} {lo : Nat} {f : RFp} {a : MA} {NN cb cv n c : Nat} {rows sv cs : List Value} {A G : Option Addr} {gn gc : Nat}
theorem RVolIs.fr1 {rv gb gv b z N g : Nat} {bs : List UInt8} {vs : List Int} {last : Int} {us : List Value} {T : TypeId} (h : RVolIs w lo rv gb gv cb cv b z N rows sv bs vs last) (hf : Fr (fun b => b = g) w w') (hg : g ≠ rv ∧ g ≠ gb ∧ g ≠ gv) (hB : Blk w g us T) (hv : ∀ u ∈ us, ∀ y, u ≠ .int .u8 y) : RVolIs w' lo rv gb gv cb cv b z N rows sv bs vs last := by
  obtain ⟨g1, g2, g3⟩ := hg
  exact { h with
    blk := h.blk.fr hf (fun e => g1 e.symm)
    row := h.row.fr hf (fun e => g2 e.symm)
    ver := h.ver.fr hf (fun e => g3 e.symm)
    cells := fun i hi => by
      obtain ⟨A, c, h1, h2, h3, h4, h5⟩ := h.cells i hi
      refine ⟨A, c, h1, h2, h3, h4.fr hf (fun hne a ha e => ?_), h5⟩
      subst ha
      obtain ⟨u, r, hs⟩ := List.exists_cons_of_ne_nil hne
      have hm : u ∈ bys (segB bs i 1 z) := by rw [hs]; exact List.mem_cons_self
      obtain ⟨y, _, hy⟩ := List.mem_map.1 hm
      have hc := h4.at_ (j := 0) (u := u) (by rw [hs]; rfl)
      obtain ⟨j, hj⟩ := blk_cell_inv hB (a := a.add 0) (by rw [add_block]; exact e) hc
      exact hv u (List.mem_of_getElem? hj) _ hy.symm }
theorem RMIs.reblk {num ep : Int} {ms : List Int} {G' : Option Addr} {gn' gc' : Nat} (h : RMIs w lo Y f a NN cb cv n c rows sv cs A G gn gc) (hf : Fr (fun b => b = f.rb) w w')
    (hb : Blk w' f.rb [.int .i64 num, .pointer (some ⟨f.rv, 0, none⟩), .pointer (some ⟨f.rt, 0, none⟩), .int .i64 ep, .slice G' gn' gc'] 56)
    (hr : Rd w G' (ints ms)) (hl : ms.length = gn') (hc : gn' ≤ gc' ∧ gc' ≤ 9223372036854775807) (hok : grpOk ep ms = true) (hq : ∀ x, G' = some x → ¬ Y x.block ∧ ¬ f.W x.block) :
    RMIs w' lo Y f { a with num := num, ep := ep, ms := ms } NN cb cv n c rows sv cs A G' gn' gc' := by
  obtain ⟨n1, n2, n3, n4, n5, n6, n7⟩ := h.ne
  obtain ⟨t1, t2⟩ := h.tab.fr h.rq h.aq hf (fun e => n4 e.symm) (fun b h1 _ h2 => h2.2 (.inl h1))
  exact { h with
    blk := hb
    vol := h.vol.fr1 hf ⟨n1, n2, n3⟩ h.blk (by intro u hu y; simp at hu; rcases hu with rfl | rfl | rfl | rfl | rfl <;> simp)
    tab := t1, rq := t2
    gr := hr.fr hf (fun _ x hx e => (hq x hx).2 (.inl e)), gl := hl, gc_ := hc, ok := hok, gq := hq }
theorem RMIs.revol {rows' : List Value} {bs' : List UInt8} {vs' : List Int} {last' : Int} (h : RMIs w lo Y f a NN cb cv n c rows sv cs A G gn gc) (hu : Upd f.rv f.gb f.gv w w') (hv : RVolIs w' lo f.rv f.gb f.gv cb cv a.b a.z NN rows' sv bs' vs' last') (hn : RowsNew a.b a.z w.heap.size rows rows') (hY : ∀ b, Y b → b < w.heap.size) :
    RMIs w' lo Y f { a with bs := bs', vs := vs', last := last' } NN cb cv n c rows' sv cs A G gn gc := by
  have hF : Fr (fun b => b = f.rv ∨ b = f.gb ∨ b = f.gv) w w' := Fr.of_upd hu (.inl rfl) (.inr (.inl rfl)) (.inr (.inr rfl))
  have hW : ∀ b, (b = f.rv ∨ b = f.gb ∨ b = f.gv) → f.W b := fun b hb => by rcases hb with hb | hb | hb; exact .inr (.inl hb); exact .inr (.inr (.inl hb)); exact .inr (.inr (.inr (.inl hb)))
  obtain ⟨n1, n2, n3, n4, n5, n6, n7⟩ := h.ne
  obtain ⟨t1, t2⟩ := h.tab.fr h.rq h.aq hF (by omega) (fun b h1 _ h2 => h2.2 (hW b h1))
  exact { h with blk := h.blk.fr hF (by omega), vol := hv, vq := fun i A c hi hr x hx hy => (by rcases hn i A c hi hr with h1 | h1; exact h.vq i A c hi h1 x hx hy; have := h1 x hx; have := hY _ hy; omega), tab := t1, rq := t2, gr := h.gr.fr hF (fun _ x hx e => (h.gq x hx).2 (hW _ e)) }
theorem RMIs.reput {es : List RowT} (h : RMIs w lo Y f a NN cb cv n c rows sv cs A G gn gc) (hp : PutQ (fun b => ¬ Y b ∧ ¬ f.W b) f.rt es w w') : ∃ n' c' cs' A', RMIs w' lo Y f { a with rows := es } NN cb cv n' c' rows sv cs' A' G gn gc := by
  obtain ⟨⟨A', c', cs', p1, p2, p3⟩, hg⟩ := hp
  have hF : Fr (fun b => b = f.rt) w w' := Fr.of_grown hg (fun k hk => (Option.some.inj hk).symm)
  obtain ⟨n1, n2, n3, n4, n5, n6, n7⟩ := h.ne
  refine ⟨es.length, c', cs', A', { h with blk := h.blk.fr hF n4, vol := ?_, tab := p1, rq := p2, aq := p3, gr := h.gr.fr hF (fun _ x hx e => (h.gq x hx).2 (.inr (.inr (.inr (.inr e))))) }⟩
  exact h.vol.fr1 hF ⟨n5, n6, n7⟩ h.tab.blk (by intro u hu y; simp at hu; subst hu; simp)
theorem RMIs.lts (h : RMIs w lo Y f a NN cb cv n c rows sv cs A G gn gc) : ∀ k, f.W k → k < w.heap.size := by
  rintro k (rfl | rfl | rfl | rfl | rfl)
  · exact h.blk.lt
  · exact h.vol.blk.lt
  · exact h.vol.row.lt
  · exact h.vol.ver.lt
  · exact h.tab.blk.lt
theorem RMIs.low (h : RMIs w lo Y f a NN cb cv n c rows sv cs A G gn gc) : ∀ k, f.W k → lo ≤ k := by
  obtain ⟨l1, l2, l3⟩ := h.vol.hlo
  obtain ⟨l4, l5⟩ := h.lo2
  rintro k (rfl | rfl | rfl | rfl | rfl) <;> assumption
/-- What the document's done makes. -/
def RDoneM (lo : Nat) (Y : Nat → Prop) (f : RFp) (r : MA × Nat × List UInt8) (w : World) (e : Ending) (w' : World) : Prop :=
  ∃ A c, e = .returned (resv r.2.1 A r.2.2.length c) ∧ r.2.2.length ≤ c ∧ c ≤ 9223372036854775807 ∧ Rd w' A (bys r.2.2) ∧ (∀ a, A = some a → w.heap.size ≤ a.block) ∧ RMX w' lo Y f r.1 ∧ Fr f.W w w'
set_option maxRecDepth 20000 in
set_option maxHeartbeats 3200000 in
theorem rconf_no (h : RMIs w lo Y f a NN cb cv n c rows sv cs A G gn gc) (e : Int) (M : Option Addr) (m mc : Nat) (hn : e ≠ a.ep + 1) :
    Calls Tryz.prog 46 #[.pointer (some ⟨f.rb, 0, none⟩), grp e M m mc] w fun x w' => x = .returned (resv 2 none 0 0) ∧ Below w.heap.size w w' := by
  obtain ⟨g, hg⟩ : ∃ g, w.heap.size = g := ⟨_, rfl⟩
  obtain ⟨w0, hw0⟩ : ∃ x, (w.alloc (.cells #[.int .i64 e, .slice M m mc] 28)).alloc (.cells #[.int .u8 0, .slice none 0 0] 40) = x := ⟨_, rfl⟩
  have hE : Blk w0 g [.int .i64 e, .slice M m mc] 28 := by rw [← hw0, ← hg]; exact (Blk.new w [.int .i64 e, .slice M m mc] _).alloc _
  have hZ : Blk w0 (g + 1) [.int .u8 0, .slice none 0 0] 40 := by
    rw [← hw0, ← hg]
    have := Blk.new (w.alloc (.cells #[.int .i64 e, .slice M m mc] 28)) [.int .u8 0, .slice none 0 0] 40
    rwa [World.size_alloc] at this
  have hb0 : Below w.heap.size w w0 := by rw [← hw0]; exact ((Below.refl _ _).alloc (Nat.le_refl _) _).alloc (by simp) _
  have Hw0 := hide hw0
  have h0 := h.below hb0
  have hep := grp_ep1 h.ok
  have q : (e != a.ep + 1) = true := by simpa using hn
  have y0 := hE.cell (j := 0) rfl
  have x3 := h0.blk.cell (j := 3) rfl
  have z0 := hZ.cell (j := 0) rfl
  have z1 := hZ.cell (j := 1) rfl
  have f0 := hZ.frozen 0
  have f1 := hZ.frozen 1
  have zl := hZ.lt
  clear hw0 hn
  go_enter Tryz.func46, Tryz.ntmps46
  go_wp2_with fail
  rw [Hw0.out]
  go_region
  all_goals
    go_wp2
    refine bodyPost_ret (results_cell rfl rfl ((show Blk w0.drew (g + 1) _ _ from hZ).set 0 (.int .u8 2) |>.set 1 (.slice none 0 0)) Tryz.underlying40 rfl (by kernel_rfl)) rfl ?_
    exact ⟨rfl, ((hb0.drew).setCell (by show w.heap.size ≤ g + 1; omega) _).setCell (by show w.heap.size ≤ g + 1; omega) _⟩
set_option maxRecDepth 20000 in
set_option maxHeartbeats 3200000 in
theorem rconf_yes (h : RMIs w lo Y f a NN cb cv n c rows sv cs A G gn gc) (e : Int) (M : Option Addr) (m mc : Nat) (ms : List Int) (hn : e = a.ep + 1) (hm : ms.length = m) (hc : m ≤ mc ∧ mc ≤ 9223372036854775807) (hr : Rd w M (ints ms)) (hok : grpOk e ms = true) (hq : ∀ x, M = some x → ¬ Y x.block ∧ ¬ f.W x.block ∧ x.block < w.heap.size) :
    Calls Tryz.prog 46 #[.pointer (some ⟨f.rb, 0, none⟩), grp e M m mc] w fun x w' => x = .returned (resv 1 none 0 0) ∧ RMIs w' lo Y f { a with ep := e, ms := ms } NN cb cv n c rows sv cs A M m mc ∧ Fr f.W w w' := by
  obtain ⟨g, hg⟩ : ∃ g, w.heap.size = g := ⟨_, rfl⟩
  obtain ⟨w0, hw0⟩ : ∃ x, (w.alloc (.cells #[.int .i64 e, .slice M m mc] 28)).alloc (.cells #[.int .u8 0, .slice none 0 0] 40) = x := ⟨_, rfl⟩
  have hE : Blk w0 g [.int .i64 e, .slice M m mc] 28 := by rw [← hw0, ← hg]; exact (Blk.new w [.int .i64 e, .slice M m mc] _).alloc _
  have hZ : Blk w0 (g + 1) [.int .u8 0, .slice none 0 0] 40 := by
    rw [← hw0, ← hg]
    have := Blk.new (w.alloc (.cells #[.int .i64 e, .slice M m mc] 28)) [.int .u8 0, .slice none 0 0] 40
    rwa [World.size_alloc] at this
  have hb0 : Below w.heap.size w w0 := by rw [← hw0]; exact ((Below.refl _ _).alloc (Nat.le_refl _) _).alloc (by simp) _
  have Hw0 := hide hw0
  have h0 := ((h.avoid (Z := fun b => b = g + 1) (fun b hb => by omega)).below hb0).below (Below.refl _ _).drew
  have hr0 := (hr.below hb0).drew
  have hep := grp_ep1 h.ok
  have q : (e != a.ep + 1) = false := by simpa using hn
  have hlts := h.lts
  have l1 := hlts f.rb (.inl rfl)
  have y0 := hE.cell (j := 0) rfl
  have x3 := (h.below hb0).blk.cell (j := 3) rfl
  have zl := hZ.lt
  have Hok := hide hok
  have Hm := hide hm
  have H0 := hide h0
  have Hr0 := hide hr0
  clear hw0 hn hok hm h0 hr0
  go_enter Tryz.func46, Tryz.ntmps46
  go_wp2_with fail
  rw [Hw0.out]
  go_region
  all_goals
    obtain ⟨wd, hwd⟩ : ∃ y, w0.drew = y := ⟨_, rfl⟩
    have h0 := H0.out
    have hr0 := Hr0.out
    have hbd : Below w.heap.size w wd := by rw [← hwd]; exact hb0.drew
    have hEd : Blk wd g [.int .i64 e, .slice M m mc] 28 := by rw [← hwd]; exact hE
    have hZd : Blk wd (g + 1) [.int .u8 0, .slice none 0 0] 40 := by rw [← hwd]; exact hZ
    rw [hwd] at h0 hr0 ⊢
    clear hwd y0 x3
    have HY0 := hide (show wd.cell? ⟨g, 0, none⟩ = some (.int .i64 e) from hEd.cell (j := 0) rfl)
    have HX3 := hide (h0.blk.cell (j := 3) rfl)
    have y1 : wd.cell? ⟨g, 1, none⟩ = some (.slice M m mc) := hEd.cell (j := 1) rfl
    have x4 := h0.blk.cell (j := 4) rfl
    have xf3 := h0.blk.frozen 3
    have xf4 := h0.blk.frozen 4
    have hbB := (h0.blk.set 3 (.int .i64 e)).set 4 (.slice M m mc)
    have hZ2 := (hZd.apart (k := f.rb) (by omega) 3 (.int .i64 e)).apart (k := f.rb) (by omega) 4 (.slice M m mc)
    have z0 := hZ2.cell (j := 0) rfl
    have z1 := hZ2.cell (j := 1) rfl
    have f0 := hZ2.frozen 0
    have f1 := hZ2.frozen 1
    have hZ3 := (hZ2.set 0 (.int .u8 1)).set 1 (.slice none 0 0)
    have FB : Fr (fun b => b = f.rb) wd ((wd.setCell ⟨f.rb, 3, none⟩ (.int .i64 e)).setCell ⟨f.rb, 4, none⟩ (.slice M m mc)) := (Fr.setg _ f.rb 3 _).trans (Fr.setg _ f.rb 4 _)
    have FZ : Fr (fun b => b = g + 1) ((wd.setCell ⟨f.rb, 3, none⟩ (.int .i64 e)).setCell ⟨f.rb, 4, none⟩ (.slice M m mc)) ((((wd.setCell ⟨f.rb, 3, none⟩ (.int .i64 e)).setCell ⟨f.rb, 4, none⟩ (.slice M m mc)).setCell ⟨g + 1, 0, none⟩ (.int .u8 1)).setCell ⟨g + 1, 1, none⟩ (.slice none 0 0)) := (Fr.setg _ (g + 1) 0 _).trans (Fr.setg _ (g + 1) 1 _)
    have hq0 : ∀ x, M = some x → ¬ (Y x.block ∨ x.block = g + 1) ∧ ¬ f.W x.block := fun x hx => by
      obtain ⟨u1, u2, u3⟩ := hq x hx
      exact ⟨fun hy => by rcases hy with hy | hy; exact u1 hy; omega, u2⟩
    have hR1 := h0.reblk FB hbB hr0 Hm.out hc Hok.out hq0
    have hR2 := (hR1.fr FZ (fun b hb _ => .inr hb)).free (Y' := Y) (fun b hb => .inl hb)
    have FW := ((Fr.of_below (X := f.W) hbd).trans (FB.mono fun b hb => .inl hb)).trans' FZ (fun b hb => .inr (by omega))
    have HR2 := hide hR2
    have HFW := hide FW
    have HZ3 := hide hZ3
    clear hR1 hR2 FW FB FZ h0 hZ3 hbB hq hq0 hE hZ hEd hZd hZ2 hr hr0 h hlts hc hb0 H0 Hr0 q hbd
    have y0 : wd.cell? ⟨g, 0, none⟩ = some (.int .i64 e) := HY0.out
    have x3 := HX3.out
    go_wp2
    refine bodyPost_ret (results_cell rfl rfl HZ3.out Tryz.underlying40 rfl (by kernel_rfl)) rfl ?_
    exact ⟨rfl, HR2.out, HFW.out⟩
end
end Go.Proofs.YtkknkdjdneldlaaGreat
namespace Go.Proofs.YtkknkdjdneldlaaGreat
set_option maxRecDepth 20000
open Go.RowKit Go.Px Go.Maps
set_option linter.unusedVariables false
/-- A pointer to no machine, or to one that is nothing but zeros. -/
def Nob7 (w : World) (p : Option Addr) : Prop := p = none ∨ ∃ g, p = some ⟨g, 0, none⟩ ∧ Blk w g [.pointer none, .pointer none, .int .i64 0, .slice none 0 0, .int .i64 0] 90
theorem Nob7.below {w w' : World} {p : Option Addr} (h : Nob7 w p) (hb : Below w.heap.size w w') : Nob7 w' p := by
  rcases h with h | ⟨g, rfl, hB⟩
  · exact .inl h
  · exact .inr ⟨g, rfl, hB.below hb⟩
theorem made_nob7 (w : World) (p : Option Addr) (h : Nob7 w p) : Calls Tryz.prog 42 #[.pointer p] w fun e w' => e = .returned (.bool false) ∧ w = w' := by
  rcases h with rfl | ⟨g, rfl, hB⟩
  · go_enter Tryz.func42, Tryz.ntmps42
    go_wp2
    go_ret
    exact ⟨rfl, rfl⟩
  · have x0 := hB.cell (j := 0) rfl
    go_enter Tryz.func42, Tryz.ntmps42
    go_wp2
    go_ret
    exact ⟨rfl, rfl⟩
theorem num_nob7 (w : World) (p : Option Addr) (h : Nob7 w p) : Calls Tryz.prog 15 #[.pointer p] w fun e w' => e = .returned (.int .i64 0) ∧ w = w' := by
  go_enter Tryz.func15, Tryz.ntmps15
  go_wp2_with fail
  refine (made_nob7 w p h).mono ?_
  rintro x w1 ⟨rfl, rfl⟩
  go_wp2
  go_ret
  exact ⟨rfl, rfl⟩
theorem patch_nob7 (w : World) (p : Option Addr) (cs : List Value) (hcs : cs.length = 7) (h : Nob7 w p) : Calls Tryz.prog 22 #[.pointer p, .agg cs.toArray] w fun e w' => e = .returned (.int .i64 4) ∧ Below w.heap.size w w' := by
  obtain ⟨c0, c1, c2, c3, c4, c5, c6, rfl⟩ := list_7 hcs
  obtain ⟨w0, hw0⟩ : ∃ x, w.alloc (.cells #[c0, c1, c2, c3, c4, c5, c6] 30) = x := ⟨_, rfl⟩
  have hb0 : Below w.heap.size w w0 := by rw [← hw0]; exact (Below.refl _ _).alloc (Nat.le_refl _) _
  have Hw0 := hide hw0
  clear hw0
  have H := hide (made_nob7 w0 p (h.below hb0))
  go_enter Tryz.func22, Tryz.ntmps22
  go_wp2_with fail
  rw [Hw0.out]
  refine H.out.mono ?_
  rintro x w1 ⟨rfl, rfl⟩
  go_wp2
  go_ret
  exact ⟨rfl, hb0⟩
set_option maxHeartbeats 800000 in
theorem group_nob7 (w : World) (p : Option Addr) (h : Nob7 w p) : Calls Tryz.prog 20 #[.pointer p] w fun e w' => e = .returned (grp 0 none 0 0) ∧ Below w.heap.size w w' := by
  obtain ⟨g, hg⟩ : ∃ g, w.heap.size = g := ⟨_, rfl⟩
  obtain ⟨w0, hw0⟩ : ∃ w0, w.alloc (.cells #[.int .i64 0, .slice none 0 0] 28) = w0 := ⟨_, rfl⟩
  have hZ : Blk w0 g [.int .i64 0, .slice none 0 0] 28 := by rw [← hw0, ← hg]; exact Blk.new w [.int .i64 0, .slice none 0 0] _
  have hb0 : Below w.heap.size w w0 := by rw [← hw0]; exact (Below.refl _ _).alloc (Nat.le_refl _) _
  have H := hide (made_nob7 w0 p (h.below hb0))
  have y0 := hZ.cell (j := 0) rfl
  have y1 := hZ.cell (j := 1) rfl
  have f0 := hZ.frozen 0
  have f1 := hZ.frozen 1
  go_enter Tryz.func20, Tryz.ntmps20
  go_wp2_with fail
  refine H.out.mono ?_
  rintro x w1 ⟨rfl, rfl⟩
  go_wp2
  refine bodyPost_ret (results_cell rfl rfl ((hZ.set 0 (.int .i64 0)).set 1 (.slice none 0 0)) Tryz.underlying28 rfl (by kernel_rfl)) rfl ?_
  exact ⟨rfl, (hb0.setCell (by show w.heap.size ≤ g; omega) _).setCell (by show w.heap.size ≤ g; omega) _⟩
set_option maxHeartbeats 800000 in
theorem ask_nob7 (w : World) (p : Option Addr) (x s : Int) (h : Nob7 w p) : Calls Tryz.prog 12 #[.pointer p, .int .i64 x, .int .i64 s] w fun e w' => e = .returned (.tuple #[.int .i64 0, resv 0 none 0 0, .int .i64 4]) ∧ Below w.heap.size w w' := by
  obtain ⟨g, hg⟩ : ∃ g, w.heap.size = g := ⟨_, rfl⟩
  obtain ⟨w0, hw0⟩ : ∃ w0, w.alloc (.cells #[.int .u8 0, .slice none 0 0] 40) = w0 := ⟨_, rfl⟩
  have hZ : Blk w0 g [.int .u8 0, .slice none 0 0] 40 := by rw [← hw0, ← hg]; exact Blk.new w [.int .u8 0, .slice none 0 0] _
  have hb0 : Below w.heap.size w w0 := by rw [← hw0]; exact (Below.refl _ _).alloc (Nat.le_refl _) _
  have H := hide (made_nob7 w0 p (h.below hb0))
  have y0 := hZ.cell (j := 0) rfl
  have y1 := hZ.cell (j := 1) rfl
  have f0 := hZ.frozen 0
  have f1 := hZ.frozen 1
  go_enter Tryz.func12, Tryz.ntmps12
  go_wp2_with fail
  refine H.out.mono ?_
  rintro xx w1 ⟨rfl, rfl⟩
  go_wp2
  refine bodyPost_ret (results_scs rfl rfl ((hZ.set 0 (.int .u8 0)).set 1 (.slice none 0 0)) Tryz.underlying40 rfl (by kernel_rfl)) rfl ?_
  exact ⟨rfl, (hb0.setCell (by show w.heap.size ≤ g; omega) _).setCell (by show w.heap.size ≤ g; omega) _⟩
set_option maxHeartbeats 1600000 in
theorem apply_nob7 (w : World) (p : Option Addr) (cs : List Value) (hcs : cs.length = 12) (h : Nob7 w p) : Calls Tryz.prog 10 #[.pointer p, .agg cs.toArray] w fun e w' => e = .returned (.tuple #[resv 0 none 0 0, .int .i64 4]) ∧ Below w.heap.size w w' := by
  obtain ⟨c0, c1, c2, c3, c4, c5, c6, c7, c8, c9, c10, c11, rfl⟩ := list_12 hcs
  obtain ⟨g, hg⟩ : ∃ g, w.heap.size = g := ⟨_, rfl⟩
  obtain ⟨w0, hw0⟩ : ∃ x, (w.alloc (.cells #[c0, c1, c2, c3, c4, c5, c6, c7, c8, c9, c10, c11] 49)).alloc (.cells #[.int .u8 0, .slice none 0 0] 40) = x := ⟨_, rfl⟩
  have hZ : Blk w0 (g + 1) [.int .u8 0, .slice none 0 0] 40 := by
    rw [← hw0, ← hg]
    have := Blk.new (w.alloc (.cells #[c0, c1, c2, c3, c4, c5, c6, c7, c8, c9, c10, c11] 49)) [.int .u8 0, .slice none 0 0] 40
    rwa [World.size_alloc] at this
  have hb0 : Below w.heap.size w w0 := by rw [← hw0]; exact ((Below.refl _ _).alloc (Nat.le_refl _) _).alloc (by simp) _
  have Hw0 := hide hw0
  clear hw0
  have H := hide (made_nob7 w0 p (h.below hb0))
  have y0 := hZ.cell (j := 0) rfl
  have y1 := hZ.cell (j := 1) rfl
  have f0 := hZ.frozen 0
  have f1 := hZ.frozen 1
  go_enter Tryz.func10, Tryz.ntmps10
  go_wp2_with fail
  rw [Hw0.out]
  refine H.out.mono ?_
  rintro x w1 ⟨rfl, rfl⟩
  go_wp2
  refine bodyPost_ret (results_cell2 rfl rfl ((hZ.set 0 (.int .u8 0)).set 1 (.slice none 0 0)) Tryz.underlying40 rfl (by kernel_rfl)) rfl ?_
  exact ⟨rfl, (hb0.setCell (by show w.heap.size ≤ g + 1; omega) _).setCell (by show w.heap.size ≤ g + 1; omega) _⟩
set_option maxHeartbeats 1600000 in
theorem state_nob7 (w : World) (p : Option Addr) (i : Int) (h : Nob7 w p) : Calls Tryz.prog 17 #[.pointer p, .int .i64 i] w fun e w' => e = .returned (.agg #[.int .i64 0, .int .i64 0, .int .i64 0, .slice none 0 0, .slice none 0 0, .int .i64 0, .slice none 0 0]) ∧ Below w.heap.size w w' := by
  obtain ⟨g, hg⟩ : ∃ g, w.heap.size = g := ⟨_, rfl⟩
  obtain ⟨w0, hw0⟩ : ∃ x, w.alloc (.cells #[.int .i64 0, .int .i64 0, .int .i64 0, .slice none 0 0, .slice none 0 0, .int .i64 0, .slice none 0 0] 30) = x := ⟨_, rfl⟩
  have hZ : Blk w0 g [.int .i64 0, .int .i64 0, .int .i64 0, .slice none 0 0, .slice none 0 0, .int .i64 0, .slice none 0 0] 30 := by rw [← hw0, ← hg]; exact Blk.new w [.int .i64 0, .int .i64 0, .int .i64 0, .slice none 0 0, .slice none 0 0, .int .i64 0, .slice none 0 0] _
  have hb0 : Below w.heap.size w w0 := by rw [← hw0]; exact (Below.refl _ _).alloc (Nat.le_refl _) _
  have H := hide (made_nob7 w0 p (h.below hb0))
  have y0 := Blk.cell hZ (j := 0) rfl; have y1 := Blk.cell hZ (j := 1) rfl; have y2 := Blk.cell hZ (j := 2) rfl; have y3 := Blk.cell hZ (j := 3) rfl; have y4 := Blk.cell hZ (j := 4) rfl; have y5 := Blk.cell hZ (j := 5) rfl; have y6 := Blk.cell hZ (j := 6) rfl
  have f0 := hZ.frozen 0
  have f1 := hZ.frozen 1
  have f2 := hZ.frozen 2
  have f3 := hZ.frozen 3
  have f4 := hZ.frozen 4
  have f5 := hZ.frozen 5
  have f6 := hZ.frozen 6
  go_enter Tryz.func17, Tryz.ntmps17
  go_wp2_with fail
  refine H.out.mono ?_
  rintro x w1 ⟨rfl, rfl⟩
  go_wp2
  refine bodyPost_ret (results_cell rfl rfl (((((((hZ.set 0 (.int .i64 0)).set 1 (.int .i64 0)).set 2 (.int .i64 0)).set 3 (.slice none 0 0)).set 4 (.slice none 0 0)).set 5 (.int .i64 0)).set 6 (.slice none 0 0)) Tryz.underlying30 rfl (by kernel_rfl)) rfl ?_
  have hFr : Fr (fun b => b = g) w0 (((((((w0.setCell ⟨g, 0, none⟩ (.int .i64 0)).setCell ⟨g, 1, none⟩ (.int .i64 0)).setCell ⟨g, 2, none⟩ (.int .i64 0)).setCell ⟨g, 3, none⟩ (.slice none 0 0)).setCell ⟨g, 4, none⟩ (.slice none 0 0)).setCell ⟨g, 5, none⟩ (.int .i64 0)).setCell ⟨g, 6, none⟩ (.slice none 0 0)) := (((((((Fr.refl (fun b => b = g) w0).trans (Fr.setg _ g 0 _)).trans (Fr.setg _ g 1 _)).trans (Fr.setg _ g 2 _)).trans (Fr.setg _ g 3 _)).trans (Fr.setg _ g 4 _)).trans (Fr.setg _ g 5 _)).trans (Fr.setg _ g 6 _)
  have s0 := hb0.size
  exact ⟨rfl, hFr.below hb0 (by omega) (fun k hk => by omega)⟩
end Go.Proofs.YtkknkdjdneldlaaGreat
