/- The document's disk: Spoil. -/
import Derived.Test.YtdianokikhggnaaF08s
import Derived.Test.YtdianokikhggnaaRnd
import Derived.Deep.RegionHeld
namespace Go.Proofs.Ytdianokikhggnaa
set_option maxRecDepth 20000
open Go.RowKit Go.Px Go.Maps
set_option linter.unusedVariables false
section
variable {w w' : World} {Q Q' X : Nat → Prop} {t f : Nat} {cs cs' : List Value} {d d' : Dk}
theorem empty_own (W : World) (base : Nat) (hb : base ≤ W.heap.size) : (W.alloc (.cells #[] 5)).ownsRow base 5 1 (.slice (some ⟨W.heap.size, 0, none⟩) 0 0) 0 [] :=
  own_weak (World.ownsRow_made W #[] 0 (Nat.le_refl _) (by unfold maxLen; omega) (by simp)) hb
theorem RDIs.grown {r : Option Nat} (h : RDIs w Q t f cs d) (hg : w.grownBy w' r) (hr : ∀ k, r = some k → k ≠ t ∧ k ≠ f ∧ ¬ Q k) : RDIs w' Q t f cs d :=
  h.fr (X := fun x => r = some x) (Fr.of_grown hg (fun k e => e)) (fun e => (hr _ e).1 rfl) (fun e => (hr _ e).2.1 rfl) (fun b hb e => (hr b e).2.2 hb)
/-- The same, where what the disk holds lies below. -/
theorem RDIs.grownN {r : Option Nat} {B : Nat} (h : RDIs w Q t f cs d) (hg : w.grownBy w' r) (hB : B ≤ w.heap.size) (hr : ∀ k, r = some k → B ≤ k) (ht : t < B) (hf : f < B) (hQ : ∀ b, Q b → b < B) : RDIs w' Q t f cs d :=
  h.grown hg (fun k e => by have := hr k e; exact ⟨by omega, by omega, fun hq => by have := hQ k hq; omega⟩)
theorem RDIs.low (h : RDIs w Q t f cs d) : RDIs w (fun b => Q b ∧ b < w.heap.size) t f cs d := by
  obtain ⟨h1, h2, h3, h4, h5, h6, h7⟩ := h
  refine ⟨h1, h2, h3, fun i hi => ?_, h5, h6, fun b hb => h7 b hb.1⟩
  obtain ⟨A, n, c, B, m, e, g1, g2, g3, g4, g5, g6, g7, g8, g9, g10, g11, g12⟩ := h4 i hi
  have hs := h5.s1
  refine ⟨A, n, c, B, m, e, g1, g2, g3, g4, g5, g6, g7, g8, fun a ha => ⟨g9 a ha, rd_block g8 (fun e => ?_) a ha⟩, g10, g11, fun b hb => ⟨(g12 b hb).1, (g12 b hb).2.1, fun a ha => ⟨(g12 b hb).2.2 a ha, rd_block (g12 b hb).2.1 (fun e => ?_) a ha⟩⟩⟩
  · have h8 := h5.fl _ (List.getElem_mem hi)
    have : d.fast[i] = [] := by simpa [bys] using e
    rw [this] at h8; simp at h8; omega
  · have h8 := (h5.lo _ b hb).2.2
    have : b = [] := by simpa [bys] using e
    rw [this] at h8; simp at h8; omega
set_option maxHeartbeats 3200000 in
theorem rspoil08_any (h : RDIs w Q t f cs d) (hQ : ∀ b, w.heap.size ≤ b → Q b) (i : Int) (A : Option Addr) (m c : Nat) (b : List UInt8) (hi1 : -9223372036854775808 ≤ i) (hi2 : i ≤ 9223372036854775807) (hm : b.length = m) (hmc : m ≤ c) (hc : c ≤ 9223372036854775807) (hrb : Rd w A (bys b)) :
    Calls Try.prog 30 #[.pointer (some ⟨t, 0, none⟩), .int .i64 i, .slice A m c] w fun e w' => e = .returned (.int .i64 (d.spoilE i b)) ∧ (∃ cs', RDIs w' Q t f cs' (d.spoil i b)) ∧ Fr (ROwn t f) w w' := by
  obtain ⟨cc, b1, _⟩ := h.blk
  have x0 := b1.cell (j := 0) rfl
  have x1 := b1.cell (j := 1) rfl
  have hN := h.ok.n2
  have hs1 := h.ok.s1
  have hs2 := h.ok.s2
  by_cases hin : inI d.fast.length i
  · obtain ⟨g1, g2⟩ := hin
    obtain ⟨I, rfl⟩ : ∃ I : Nat, i = (I : Int) := ⟨i.toNat, by omega⟩
    have hI : I < d.fast.length := by omega
    by_cases hlong : d.size < b.length
    · have he : d.spoilE (I : Int) b = 1 := by unfold Dk.spoilE; rw [if_pos ⟨g1, g2⟩, if_pos hlong]
      have hb : d.spoil (I : Int) b = d := by unfold Dk.spoil; rw [he]; rfl
      rw [he, hb]
      have H := hide h
      obtain ⟨N, hNe⟩ : ∃ N, d.fast.length = N := ⟨_, rfl⟩
      obtain ⟨S, hS⟩ : ∃ S, d.size = S := ⟨_, rfl⟩
      rw [hNe] at x1 hN hI
      rw [hS] at x0 hlong
      rw [hm] at hlong
      clear h b1 he hb hNe hS g1 g2 hm
      go_enter Try.func30, Try.ntmps30
      go_wp2
      go_ret
      exact ⟨rfl, ⟨_, H.out⟩, Fr.refl _ _⟩
    · have he : d.spoilE (I : Int) b = 0 := by unfold Dk.spoilE; rw [if_pos ⟨g1, g2⟩, if_neg hlong]
      have hb : d.spoil (I : Int) b = d.fasten I (b ++ d.fast[I].drop b.length) := by
        unfold Dk.spoil; rw [he, if_pos rfl, Int.toNat_natCast, List.getD_eq_getElem?_getD, List.getElem?_eq_getElem hI]; rfl
      rw [he, hb]
      have hfl := h.ok.fl _ (List.getElem_mem hI)
      obtain ⟨A1, n1, c1, B1, m1, e1, k0, k1, k2, k3, k4, k5, k6, k7, k8, k9, k10, _⟩ := h.at_ hI
      have hol : (b ++ d.fast[I].drop b.length).length = d.size := by rw [List.length_append, List.length_drop, hfl]; omega
      have hlts := h.lts
      have hmn : m ≤ n1 := by omega
      have hn1 : n1 ≤ 8192 := by omega
      -- worlds of the region
      obtain ⟨wd, hwd⟩ : ∃ y, w.drew = y := ⟨_, rfl⟩
      have hdd : Below w.heap.size w wd := by rw [← hwd]; exact (Below.refl _ _).drew
      have hzd : wd.heap.size = w.heap.size := by rw [← hwd]; rfl
      have hbe : Below w.heap.size w (wd.alloc (.cells #[] 5)) := hdd.alloc (by omega) _
      have hwas : Rd w (cutA A1 c1 m 1) (bys (d.fast[I].drop b.length)) := by
        have := k7.cutA (n := n1) (k := m) (cap := c1) (by rw [bys_length, k4]; exact Nat.le_refl _) hmn k5
        rw [hm, bys_drop]; exact this
      have hdl : (d.fast[I].drop b.length).length = n1 - m := by rw [List.length_drop, k4, hm]
      obtain ⟨nb, hnb⟩ : ∃ nb, d.fast[I].drop b.length = nb := ⟨_, rfl⟩
      rw [hnb] at hwas hdl hol ⊢
      have H := hide h
      obtain ⟨N, hNe⟩ : ∃ N, d.fast.length = N := ⟨_, rfl⟩
      obtain ⟨S, hS⟩ : ∃ S, d.size = S := ⟨_, rfl⟩
      have HS := hide hS
      have HN := hide hNe
      rw [hNe] at x1 hN hI
      rw [hS] at x0 hs1 hs2 hol
      have hbm : m ≤ S := by omega
      have Hm := hide hm
      have Hwd := hide hwd
      have HQ := hide hQ
      have q0 : decide (N ≤ I) = false := decide_eq_false (by omega)
      have hSt : ∀ Z, Below w.heap.size w Z → Z.cell? ⟨t, 1, none⟩ = some (.slice (some ⟨f, 0, none⟩) N cc) := fun Z hZ => below_cell08 hZ x1
      have HSt := hide hSt
      clear h b1 he hb hNe hS g1 g2 hlong hnb hwd hm hQ hSt
      go_enter Try.func30, Try.ntmps30
      go_wp2_with fail
      have hS0 : w.drew.cell? ⟨t, 1, none⟩ = some (.slice (some ⟨f, 0, none⟩) N cc) := x1
      refine wp_region_held_drew (S := fun Z => Z.cell? ⟨t, 1, none⟩ = some (.slice (some ⟨f, 0, none⟩) N cc)) (by kernel_rfl) hS0 (fun _ => ?_)
      refine wpAnyH_take (fuel := 15) (i := 0) (v := .pointer (some ⟨t, 0, none⟩)) rfl (by kernel_rfl) (by kernel_rfl) (by kernel_rfl) (fun _ _ _ h => h) (Or.inl ⟨by rfl, fun Z hZ => ?_⟩) hS0 ?_
      · go_simp
      refine wpAnyH_take (i := 1) (v := .pointer (some ⟨t, 0, none⟩)) rfl (by kernel_rfl) (by kernel_rfl) (by kernel_rfl) (fun _ _ _ h => h) (Or.inl ⟨by rfl, fun Z hZ => ?_⟩) hS0 ?_
      · go_simp
      refine wpAnyH_take (i := 2) (v := .pointer (some ⟨t, 1, none⟩)) rfl (by kernel_rfl) (by kernel_rfl) (by kernel_rfl) (fun _ _ _ h => h) (Or.inl ⟨by rfl, fun Z hZ => ?_⟩) hS0 ?_
      · go_simp
      refine wpAnyH_take (i := 3) (v := .slice (some ⟨f, 0, none⟩) N cc) rfl (by kernel_rfl) (by kernel_rfl) (by kernel_rfl) (fun _ _ _ h => h) (Or.inl ⟨by rfl, fun Z hZ => ?_⟩) hS0 ?_
      · have z1 := hZ
        go_simp
      refine wpAnyH_take (i := 4) (v := .int .i64 (I : Int)) rfl (by kernel_rfl) (by kernel_rfl) (by kernel_rfl) (fun _ _ _ h => h) (Or.inl ⟨by rfl, fun Z hZ => ?_⟩) hS0 ?_
      · go_simp
      refine wpAnyH_take (i := 6) (v := .slice A m c) rfl (by kernel_rfl) (by kernel_rfl) (by kernel_rfl) (fun _ _ _ h => h) (Or.inl ⟨by rfl, fun Z hZ => ?_⟩) hS0 ?_
      · go_simp
      refine wpAnyH_take (i := 8) (v := .slice A1 n1 c1) rfl (by kernel_rfl) (by kernel_rfl) (by kernel_rfl) (fun _ _ _ h => h) (Or.inl ⟨by rfl, fun Z hZ => ?_⟩) hS0 ?_
      · go_simp
      refine wpAnyH_take (i := 9) (v := .slice A m c) rfl (by kernel_rfl) (by kernel_rfl) (by kernel_rfl) (fun _ _ _ h => h) (Or.inl ⟨by rfl, fun Z hZ => ?_⟩) hS0 ?_
      · go_simp
      refine wpAnyH_take (i := 10) (v := .int .i64 (m : Int)) rfl (by kernel_rfl) (by kernel_rfl) (by kernel_rfl) (fun _ _ _ h => h) (Or.inl ⟨by rfl, fun Z hZ => ?_⟩) hS0 ?_
      · go_simp
      refine wpAnyH_take (i := 11) (v := .slice (cutA A1 c1 m 1) (n1 - m) (c1 - m)) rfl (by kernel_rfl) (by kernel_rfl) (by kernel_rfl) (fun _ _ _ h => h) (Or.inl ⟨by rfl, fun Z hZ => ?_⟩) hS0 ?_
      · go_simp
      have hze : wd.heap.size ≤ (wd.alloc (.cells #[] 5)).heap.size := by simp
      have hrA : Rd (wd.alloc (.cells #[] 5)) A (bys b) := hrb.below hbe
      have HSe := HSt.out _ hbe
      have hE := empty_own wd w.heap.size (by omega)
      rw [hzd] at hE
      rw [Hwd.out]
      refine all_one (fuel := 5) (i := 5) (by kernel_rfl) rfl rfl (fun Kk hK => ?_)
      go_simp
      refine hK _ _ ⟨HSe, ?_⟩
      clear hK Kk
      refine all_one (fuel := 4) (i := 7) (by kernel_rfl) rfl rfl (fun Kk hK => ?_)
      refine oper_own rfl tBytes (base := w.heap.size) (e := 5) (by rfl) hE (A := A) (m := m) (c := c) (by rfl) (by rw [bys_length, Hm.out, Nat.mul_one]) hrA (bys_one _) (by omega) (by omega) (by simp; omega) ?_
      intro v1 w3 hO1 hg1 hv1
      rw [Nat.zero_add, List.nil_append] at hO1
      have hb3 : Below w.heap.size w w3 := hbe.grown hg1 (by simp; omega) (fun k hk => by simp [Value.ownBlock] at hk; omega)
      have HS3 := HSt.out _ hb3
      have hz3 := hg1.size
      rw [World.size_alloc, hzd] at hz3
      obtain ⟨A3, c3, rfl, _⟩ := own_out hO1
      refine hK _ _ ⟨HS3, ?_⟩
      clear hK Kk
      refine all_one (fuel := 3) (i := 12) (by kernel_rfl) rfl rfl (fun Kk hK => ?_)
      refine oper_own rfl tBytes (base := w.heap.size) (e := 5) (by rfl) hO1 (A := cutA A1 c1 m 1) (m := n1 - m) (c := c1 - m) (by rfl) (by rw [bys_length, hdl, Nat.mul_one]) (hwas.below hb3) (bys_one _) (by omega) (by omega) (by omega) ?_
      intro v2 w4' hO2 hg2 hv2
      have hnS : m + (n1 - m) = S := by rw [← HS.out, ← hfl, k4]; omega
      rw [hnS, ← bys_append] at hO2
      have lo1 := own_out hO1
      have hb4 : Below w.heap.size w w4' := hb3.grown hg2 hb3.size (fun k hk => by
        obtain ⟨A0, c0, h0, _, _, _, _, hlo⟩ := lo1
        injection h0 with h0 _ _
        cases A3 with
        | none => simp [Value.ownBlock] at hk
        | some a3 => simp [Value.ownBlock] at hk; have := (hlo a3 h0.symm).1; omega)
      have HS4 := HSt.out _ hb4
      obtain ⟨A4, c4, rfl, _, hc4, hcm4, hr4, ha4⟩ := own_out hO2
      refine hK _ _ ⟨HS4, ?_⟩
      clear hK Kk
      have hD4 := H.out.below hb4
      have hI' : I < d.fast.length := by rw [HN.out]; exact hI
      have hl4 : (b ++ nb).length = S := by rw [List.length_append, Hm.out, hdl]; exact hnS
      obtain ⟨hP, hPF⟩ := hD4.put4 hI' (A := A4) (n := S) (c := c4) (b := b ++ nb) (o := none) (z := false) (ol := false) rfl (by rw [hl4, HS.out]) hl4 hc4 (by unfold maxLen at hcm4; omega) hr4 (fun a ha => HQ.out _ (ha4 a ha).1) (Nat.zero_le 0) (by omega) (fun x hx => by cases hx) (B := none) (m := 0) (e := 0)
      obtain ⟨_, _, _, _, _, _, p0, p1, p2, p3, _⟩ := hD4.at_ hI'
      have j0 := hD4.row.frozen (I * 4)
      have j1 := hD4.row.frozen (I * 4 + 1)
      have j2 := hD4.row.frozen (I * 4 + 2)
      have j3 := hD4.row.frozen (I * 4 + 3)
      have hFF : Fr (ROwn t f) w (w4 w4' f I (.slice A4 S c4) (.bool false) (.slice none 0 0) (.bool false)) := (Fr.of_below hb4).trans (rown_f hPF)
      have HP := hide hP
      have HFF := hide hFF
      have HS5 := HSt.out
      clear hP hPF hD4 hl4 hr4 ha4 hv2 hg2 hO2 hO1 hg1 hv1 lo1 hE

      refine all_one (fuel := 2) (i := 13) (by kernel_rfl) rfl rfl (fun Kk hK => ?_)
      go_simp
      refine hK _ _ ⟨HS4, ?_⟩
      clear hK Kk
      refine all_one (fuel := 1) (i := 14) (by kernel_rfl) rfl rfl (fun Kk hK => ?_)
      go_simp
      refine hK _ _ ⟨HS4, ?_⟩
      clear hK Kk
      have HS9 : (w4 w4' f I (.slice A4 S c4) (.bool false) (.slice none 0 0) (.bool false)).cell? ⟨t, 1, none⟩ = some (.slice (some ⟨f, 0, none⟩) N cc) := by
        have hne : t ≠ f := H.out.ne
        have hfr : Fr (fun x => x = f) w4' (w4 w4' f I (.slice A4 S c4) (.bool false) (.slice none 0 0) (.bool false)) :=
          (((Fr.set (X := fun x => x = f) w4' ⟨f, I * 4, none⟩ _ rfl).trans (Fr.set (X := fun x => x = f) _ ⟨f, I * 4 + 1, none⟩ _ rfl)).trans (Fr.set (X := fun x => x = f) _ ⟨f, I * 4 + 2, none⟩ _ rfl)).trans (Fr.set (X := fun x => x = f) _ ⟨f, I * 4 + 3, none⟩ _ rfl)
        exact hfr.cell HS4 hne
      refine all_one (fuel := 0) (i := 15) (by kernel_rfl) rfl rfl (fun Kk hK => ?_)
      go_simp
      refine hK _ _ ⟨HS9, ?_⟩
      clear hK Kk
      refine wpAnyH_done (by kernel_rfl) ?_ _
      go_wp2
      go_ret
      exact ⟨rfl, HP.out, HFF.out⟩
  · have he : d.spoilE i b = 5 := if_neg hin
    have hb : d.spoil i b = d := by unfold Dk.spoil; rw [he]; rfl
    rw [he, hb]
    have H := hide h
    obtain ⟨N, hNe⟩ : ∃ N, d.fast.length = N := ⟨_, rfl⟩
    rw [hNe] at x1 hN hin
    unfold inI at hin
    clear h b1 he hb hNe
    rcases (show i < 0 ∨ (0 ≤ i ∧ (N : Int) ≤ i) by omega) with g | ⟨g, g2⟩
    · have q1 : decide (i < 0) = true := decide_eq_true g
      clear hin
      go_enter Try.func30, Try.ntmps30
      go_wp2
      go_ret
      exact ⟨rfl, ⟨_, H.out⟩, Fr.refl _ _⟩
    · have q1 : decide (i < 0) = false := decide_eq_false (by omega)
      have q2 : decide ((N : Int) ≤ i) = true := decide_eq_true g2
      clear hin
      go_enter Try.func30, Try.ntmps30
      go_wp2
      go_ret
      exact ⟨rfl, ⟨_, H.out⟩, Fr.refl _ _⟩
end
end Go.Proofs.Ytdianokikhggnaa
