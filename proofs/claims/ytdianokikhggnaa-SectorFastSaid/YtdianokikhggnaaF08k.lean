/- Package sector: Spoil, Bad, New. -/
import Derived.Test.YtdianokikhggnaaF08j
namespace Go.Proofs.Ytdianokikhggnaa
set_option maxRecDepth 20000
open Go.RowKit Go.Px Go.Maps
set_option linter.unusedVariables false
section
variable {w : World} {Q : Nat → Prop} {t f lm bm : Nat} {d : Dk}
def inI (N : Nat) (i : Int) : Prop := 0 ≤ i ∧ i < (N : Int)
instance (N : Nat) (i : Int) : Decidable (inI N i) := by unfold inI; exact inferInstance
def Dk.badE (d : Dk) (i : Int) : Int := if inI d.fast.length i then 0 else 5
def Dk.badD (d : Dk) (i : Int) : Dk := if inI d.fast.length i then (d.putL i none).putB i true else d
set_option maxHeartbeats 1600000 in
theorem bad08_any (h : DIs w Q t f lm bm d) (i : Int) (hi1 : -9223372036854775808 ≤ i) (hi2 : i ≤ 9223372036854775807) :
    Calls Try.prog 23 #[.pointer (some ⟨t, 0, none⟩), .int .i64 i] w fun e w' => e = .returned (.int .i64 (d.badE i)) ∧ DIs w' Q t f lm bm (d.badD i) ∧ Fr (OwnB t f lm bm) w w' := by
  have HM := hide (made08_any h)
  obtain ⟨cc, b1, _⟩ := h.blk
  have x1 := b1.cell (j := 1) rfl
  have x2 := b1.cell (j := 2) rfl
  have hN := h.ok.n2
  by_cases hin : inI d.fast.length i
  · have he : d.badE i = 0 := if_pos hin
    have hb : d.badD i = (d.putL i none).putB i true := if_pos hin
    rw [he, hb]
    obtain ⟨w2, hd2, h2, f2⟩ := h.del_lo hi1 hi2 0
    obtain ⟨cc2, b2, _⟩ := h2.blk
    have y3 := b2.cell (j := 3) rfl
    obtain ⟨w3, hd3, h3, f3⟩ := h2.put_ba hin.1 hin.2
    have H := hide (And.intro h3 ((fr_own (t := t) (f := f) (bm := bm) f2 (.inr (.inr (.inl rfl)))).trans (fr_own (t := t) (f := f) (lm := lm) f3 (.inr (.inr (.inr rfl))))))
    obtain ⟨N, hNe⟩ : ∃ N, d.fast.length = N := ⟨_, rfl⟩
    rw [hNe] at x1 hN hin
    obtain ⟨g1, g2⟩ := hin
    have q1 : decide (i < 0) = false := decide_eq_false (by omega)
    have q2 : decide ((N : Int) ≤ i) = false := decide_eq_false (by omega)
    clear h b1 he hb h2 b2 h3 f2 f3 hNe
    go_enter Try.func23, Try.ntmps23
    go_wp2_with fail
    go_fit HM.out
    rintro x w1 ⟨rfl, rfl⟩
    go_wp2
    go_ret
    exact ⟨rfl, H.out.1, H.out.2⟩
  · have he : d.badE i = 5 := if_neg hin
    have hb : d.badD i = d := if_neg hin
    rw [he, hb]
    have H := hide h
    obtain ⟨N, hNe⟩ : ∃ N, d.fast.length = N := ⟨_, rfl⟩
    rw [hNe] at x1 hN hin
    unfold inI at hin
    clear h b1 he hb hNe
    rcases (show i < 0 ∨ (0 ≤ i ∧ (N : Int) ≤ i) by omega) with g | ⟨g, g2⟩
    · have q1 : decide (i < 0) = true := decide_eq_true g
      clear hin
      go_enter Try.func23, Try.ntmps23
      go_wp2_with fail
      go_fit HM.out
      rintro x w1 ⟨rfl, rfl⟩
      go_wp2
      go_ret
      exact ⟨rfl, H.out, Fr.refl _ _⟩
    · have q1 : decide (i < 0) = false := decide_eq_false (by omega)
      have q2 : decide ((N : Int) ≤ i) = true := decide_eq_true g2
      clear hin
      go_enter Try.func23, Try.ntmps23
      go_wp2_with fail
      go_fit HM.out
      rintro x w1 ⟨rfl, rfl⟩
      go_wp2
      go_ret
      exact ⟨rfl, H.out, Fr.refl _ _⟩
def Dk.spoilE (d : Dk) (i : Int) (b : List UInt8) : Int := if inI d.fast.length i then (if d.size < b.length then 1 else 0) else 5
def Dk.spoil (d : Dk) (i : Int) (b : List UInt8) : Dk := if d.spoilE i b = 0 then d.fasten i.toNat (b ++ (d.fast.getD i.toNat []).drop b.length) else d
set_option maxHeartbeats 1600000 in
theorem spoil08_any (h : DIs w Q t f lm bm d) (hQ : ∀ b, w.heap.size ≤ b → Q b) (i : Int) (A : Option Addr) (m c : Nat) (b : List UInt8) (hi1 : -9223372036854775808 ≤ i) (hi2 : i ≤ 9223372036854775807) (hm : b.length = m) (hmc : m ≤ c) (hc : c ≤ 9223372036854775807) (hrb : Rd w A (bys b)) :
    Calls Try.prog 22 #[.pointer (some ⟨t, 0, none⟩), .int .i64 i, .slice A m c] w fun e w' => e = .returned (.int .i64 (d.spoilE i b)) ∧ DIs w' Q t f lm bm (d.spoil i b) ∧ Fr (OwnB t f lm bm) w w' := by
  have HM := hide (made08_any h)
  obtain ⟨cc, b1, _⟩ := h.blk
  have x0 := b1.cell (j := 0) rfl
  have x1 := b1.cell (j := 1) rfl
  have hN := h.ok.n2
  have hs1 := h.ok.s1
  have hs2 := h.ok.s2
  by_cases hin : inI d.fast.length i
  · obtain ⟨g1, g2⟩ := hin
    obtain ⟨I, rfl⟩ : ∃ I : Nat, i = (I : Int) := ⟨i.toNat, by omega⟩
    have hI : I < d.fast.length := by omega
    by_cases hlong : d.size < b.length
    · have he : d.spoilE (I : Int) b = 1 := by unfold Dk.spoilE; rw [if_pos ⟨g1, g2⟩, if_pos hlong]
      have hb : d.spoil (I : Int) b = d := by unfold Dk.spoil; rw [he]; rfl
      rw [he, hb]
      have H := hide h
      obtain ⟨N, hNe⟩ : ∃ N, d.fast.length = N := ⟨_, rfl⟩
      obtain ⟨S, hS⟩ : ∃ S, d.size = S := ⟨_, rfl⟩
      rw [hNe] at x1 hN hI
      rw [hS] at x0 hlong
      rw [hm] at hlong
      clear h b1 he hb hNe hS g1 g2 hm
      go_enter Try.func22, Try.ntmps22
      go_wp2_with fail
      go_fit HM.out
      rintro x w1 ⟨rfl, rfl⟩
      go_wp2
      go_ret
      exact ⟨rfl, H.out, Fr.refl _ _⟩
    · have he : d.spoilE (I : Int) b = 0 := by unfold Dk.spoilE; rw [if_pos ⟨g1, g2⟩, if_neg hlong]
      have hb : d.spoil (I : Int) b = d.fasten I (b ++ d.fast[I].drop b.length) := by
        unfold Dk.spoil; rw [he, if_pos rfl, Int.toNat_natCast, List.getD_eq_getElem?_getD, List.getElem?_eq_getElem hI]; rfl
      rw [he, hb]
      have hfl := h.ok.fl _ (List.getElem_mem hI)
      have hba : Below w.heap.size w (w.alloc (.cells (Array.replicate d.size (.int .u8 0)) 5)) := (Below.refl _ _).alloc (Nat.le_refl _) _
      have h1 := h.below hba
      obtain ⟨v, hv, hsec⟩ := h1.sec hI
      have hsec0 := hsec
      obtain ⟨A1, n1, c1, rfl, _⟩ := hsec
      obtain ⟨w2, hcp1, hB2, hF2⟩ := copy_sec (zeros_blk w d.size) hsec0 hfl 3
      have hlts := h.lts
      have hb2 : Below w.heap.size w w2 := hF2.below hba (by simp) (fun k hk => by omega)
      have hbm : b.length ≤ d.size := by omega
      obtain ⟨w3, hcp2, hB3, hF3⟩ := copy_to (a := 0) (m := m) (c := c) (dLen := d.size) (dCap := d.size) (A := A) (ys := bys b) hB2 (by rw [bys_length, hm]) (hrb.below hb2) (bys_one _) (by omega) (by rw [bys_length, hfl]; omega) 3
      have e : spl (bys d.fast[I]) 0 (bys b) = bys (b ++ d.fast[I].drop b.length) := by
        unfold spl
        rw [List.take_zero, List.nil_append, Nat.zero_add, bys_append, bys_length, bys_drop]
      rw [e] at hB3
      have hb3 : Below w.heap.size w w3 := hF3.below hb2 hb2.size (fun k hk => by omega)
      have hol : (b ++ d.fast[I].drop b.length).length = d.size := by rw [List.length_append, List.length_drop, hfl]; omega
      have hrd : Rd w3 (some ⟨w.heap.size, 0, none⟩) (bys (b ++ d.fast[I].drop b.length)) := Rd.of_some fun j u hu => by
        have := hB3.cell hu
        rwa [show (⟨w.heap.size, 0, none⟩ : Addr).add j = ⟨w.heap.size, j, none⟩ by unfold Addr.add; split <;> simp_all]
      have hD3 := h.below hb3
      have HFA := hide (fasten08_any hD3 I (some ⟨w.heap.size, 0, none⟩) d.size d.size (b ++ d.fast[I].drop b.length) hI hol ⟨_, _, _, rfl, Nat.le_refl _, by omega, .inr ⟨hol, hrd, fun a ha => by injection ha with ha; rw [← ha]; exact hQ _ (Nat.le_refl _)⟩⟩)
      have Hb3 := hide hb3
      obtain ⟨cd, bd, _⟩ := hD3.blk
      have y1 := (b1.below hba).cell (j := 1) rfl
      have hm1 := fun W => run_mkB (P := Try.prog) (t := 29) (e := 5) (z := .int .u8 0) (bytes := 1) Try.underlying29 (by kernel_rfl) rfl (N := d.size) (by omega) (by omega) W
      obtain ⟨nb, hnb⟩ : ∃ nb, b ++ d.fast[I].drop b.length = nb := ⟨_, rfl⟩
      rw [hnb] at HFA ⊢
      obtain ⟨N, hNe⟩ : ∃ N, d.fast.length = N := ⟨_, rfl⟩
      obtain ⟨S, hS⟩ : ∃ S, d.size = S := ⟨_, rfl⟩
      rw [hS] at HFA
      rw [hNe] at x1 hN hI y1
      rw [hS] at x0 y1 hcp1 hcp2 hm1 hbm hs1 hs2
      rw [hS] at hv
      rw [hm] at hbm
      clear h b1 he hb hNe hS g1 g2 hm hsec0 hB2 hF2 hB3 hF3 hD3 bd hrd hol hnb hb2 hb3 hlong hfl e h1 hba hlts
      go_enter Try.func22, Try.ntmps22
      go_wp2_with fail
      go_fit HM.out
      rintro x w1 ⟨rfl, rfl⟩
      go_wp2_with fail
      refine HFA.out.mono ?_
      rintro x w4 ⟨rfl, hD4, hF4⟩
      have HD4 := hide hD4
      have HF4 := hide ((Fr.of_below (X := OwnB t f lm bm) Hb3.out).trans hF4)
      clear hD4 hF4
      go_wp2
      go_ret
      exact ⟨rfl, HD4.out, HF4.out⟩
  · have he : d.spoilE i b = 5 := if_neg hin
    have hb : d.spoil i b = d := by unfold Dk.spoil; rw [he]; rfl
    rw [he, hb]
    have H := hide h
    obtain ⟨N, hNe⟩ : ∃ N, d.fast.length = N := ⟨_, rfl⟩
    rw [hNe] at x1 hN hin
    unfold inI at hin
    clear h b1 he hb hNe
    rcases (show i < 0 ∨ (0 ≤ i ∧ (N : Int) ≤ i) by omega) with g | ⟨g, g2⟩
    · have q1 : decide (i < 0) = true := decide_eq_true g
      clear hin
      go_enter Try.func22, Try.ntmps22
      go_wp2_with fail
      go_fit HM.out
      rintro x w1 ⟨rfl, rfl⟩
      go_wp2
      go_ret
      exact ⟨rfl, H.out, Fr.refl _ _⟩
    · have q1 : decide (i < 0) = false := decide_eq_false (by omega)
      have q2 : decide ((N : Int) ≤ i) = true := decide_eq_true g2
      clear hin
      go_enter Try.func22, Try.ntmps22
      go_wp2_with fail
      go_fit HM.out
      rintro x w1 ⟨rfl, rfl⟩
      go_wp2
      go_ret
      exact ⟨rfl, H.out, Fr.refl _ _⟩
end
end Go.Proofs.Ytdianokikhggnaa
