/- The document's disk: Write, refused; Write; New. -/
import Derived.Test.YtdianokikhggnaaF08v
import Derived.Test.YtdianokikhggnaaF08n
namespace Go.Proofs.Ytdianokikhggnaa
set_option maxRecDepth 20000
open Go.RowKit Go.Px Go.Maps
set_option linter.unusedVariables false
section
variable {w w' : World} {Q Q' X : Nat → Prop} {t f : Nat} {cs cs' : List Value} {d d' : Dk}
set_option maxHeartbeats 1600000 in
theorem rwrite08_bad (h : RDIs w Q t f cs d) (i : Int) (A : Option Addr) (m c : Nat) (b : List UInt8) (hi1 : -9223372036854775808 ≤ i) (hi2 : i ≤ 9223372036854775807) (hm : b.length = m) (hmc : m ≤ c) (hc : c ≤ 9223372036854775807) (he : d.writeE i b ≠ 0) :
    Calls Try.prog 27 #[.pointer (some ⟨t, 0, none⟩), .int .i64 i, .slice A m c] w fun e w' => e = .returned (.int .i64 (d.writeE i b)) ∧ (∃ cs', RDIs w' Q t f cs' d) ∧ Fr (ROwn t f) w w' := by
  obtain ⟨cc, b1, _⟩ := h.blk
  have x0 := b1.cell (j := 0) rfl
  have x1 := b1.cell (j := 1) rfl
  have hN := h.ok.n2
  have hs1 := h.ok.s1
  have hBU := fun (W : World) (hW : Below w.heap.size w W) => rpower08_any (h.below hW)
  have hwe : d.writeE i b = if m % d.size ≠ 0 then 1 else if d.inR i ((m / d.size : Nat) : Int) then d.burnE else 5 := by unfold Dk.writeE; rw [hm]
  have hbe : d.burnE ≠ 0 → d.burnE = 82 ∧ d.burnt = d := fun hb => by
    unfold Dk.burnE at hb
    by_cases h0 : d.fuse = 0
    · exact ⟨by unfold Dk.burnE; rw [if_pos h0], by unfold Dk.burnt; rw [if_neg (by omega)]⟩
    · rw [if_neg h0] at hb; exact absurd rfl hb
  have H := hide h
  have HWE := hide hwe
  unfold Dk.inR at hwe
  obtain ⟨S, hSe⟩ : ∃ S, d.size = S := ⟨_, rfl⟩
  obtain ⟨N, hNe⟩ : ∃ N, d.fast.length = N := ⟨_, rfl⟩
  rw [hNe] at hwe hN x1
  rw [hSe] at hwe hs1 x0
  have hS0 : (S : Int) ≠ 0 := by omega
  have hrem : ((m : Int).tmod (S : Int)) = ((m % S : Nat) : Int) := rfl
  have hquo : ((m : Int).tdiv (S : Int)) = ((m / S : Nat) : Int) := rfl
  have hdm : m / S ≤ m := Nat.div_le_self _ _
  obtain ⟨r, hr⟩ : ∃ r, m % S = r := ⟨_, rfl⟩
  obtain ⟨n, hn⟩ : ∃ n, m / S = n := ⟨_, rfl⟩
  have hwr : IntKind.i64.wrap (n : Int) = (n : Int) := by rw [IntKind.wrap_i64]; omega
  rw [hr] at hwe hrem
  rw [hn] at hwe hquo hdm
  obtain ⟨be, hbee⟩ : ∃ be, d.burnE = be := ⟨_, rfl⟩
  rw [hbee] at hwe hbe
  simp only [hbee] at hBU
  have HBU := hide hBU
  rw [hwe] at he ⊢
  have Hbe := hide hbe
  clear h b1 hm hSe hNe hr hn hbee hbe hwe hBU
  by_cases h0 : r = 0
  · subst h0
    rw [if_neg (by simp)] at he ⊢
    have hwN : ∀ z : Int, 0 ≤ z → z ≤ (N : Int) → IntKind.i64.wrap ((N : Int) - z) = (N : Int) - z := fun z h1 h2 => by rw [IntKind.wrap_i64]; omega
    rcases (show i < 0 ∨ (0 ≤ i ∧ (N : Int) < i) ∨ (0 ≤ i ∧ i ≤ (N : Int) ∧ (N : Int) - i < (n : Int)) ∨ (0 ≤ i ∧ i ≤ (N : Int) ∧ (n : Int) ≤ (N : Int) - i) by omega) with h1 | ⟨h1, h2⟩ | ⟨h1, h2, h3⟩ | ⟨h1, h2, h3⟩
    · have q1 : decide (i < 0) = true := decide_eq_true h1
      rw [if_neg (fun hh => by unfold inN at hh; omega)]
      clear hwN he
      go_enter Try.func27, Try.ntmps27
      go_wp2_with fail
      go_quiet (fail)
      have hbq : Below w.heap.size w (w.drewN nq) := ⟨rfl, rfl, rfl, Nat.le_refl _, fun _ _ => rfl⟩
      go_wp2
      go_ret
      exact ⟨rfl, ⟨_, H.out.below hbq⟩, Fr.of_below hbq⟩
    · have q1 : decide (i < 0) = false := decide_eq_false (by omega)
      have q2 : decide ((N : Int) < i) = true := decide_eq_true h2
      rw [if_neg (fun hh => by unfold inN at hh; omega)]
      clear hwN he
      go_enter Try.func27, Try.ntmps27
      go_wp2_with fail
      go_quiet (fail)
      have hbq : Below w.heap.size w (w.drewN nq) := ⟨rfl, rfl, rfl, Nat.le_refl _, fun _ _ => rfl⟩
      go_wp2
      go_ret
      exact ⟨rfl, ⟨_, H.out.below hbq⟩, Fr.of_below hbq⟩
    · have q1 : decide (i < 0) = false := decide_eq_false (by omega)
      have q2 : decide ((N : Int) < i) = false := decide_eq_false (by omega)
      have q3 : decide ((N : Int) - i < (n : Int)) = true := decide_eq_true h3
      have hw := hwN i h1 h2
      rw [if_neg (fun hh => by unfold inN at hh; omega)]
      clear hwN he
      go_enter Try.func27, Try.ntmps27
      go_wp2_with fail
      go_quiet (fail)
      have hbq : Below w.heap.size w (w.drewN nq) := ⟨rfl, rfl, rfl, Nat.le_refl _, fun _ _ => rfl⟩
      go_wp2
      go_ret
      exact ⟨rfl, ⟨_, H.out.below hbq⟩, Fr.of_below hbq⟩
    · have q1 : decide (i < 0) = false := decide_eq_false (by omega)
      have q2 : decide ((N : Int) < i) = false := decide_eq_false (by omega)
      have q3 : decide ((N : Int) - i < (n : Int)) = false := decide_eq_false (by omega)
      have hw := hwN i h1 h2
      rw [if_pos (show inN N i (n : Int) from ⟨by omega, by omega, by omega, by omega⟩)] at he ⊢
      obtain ⟨rfl, hbt⟩ := Hbe.out he
      have Hbt := hide hbt
      clear hwN he hbt
      go_enter Try.func27, Try.ntmps27
      have HBU' := hide (show ∀ W, Below w.heap.size w W → Calls Try.prog 47 #[.pointer (some ⟨t, 0, none⟩)] W fun e w' => e = .returned (.bool false) ∧ RDIs w' Q t f cs d.burnt ∧ Fr (fun x => x = t) W w' ∧ w'.heap.size = W.heap.size from HBU.out)
      clear HBU
      go_wp2_with fail
      go_quiet (fail)
      have hbq : Below w.heap.size w (w.drewN nq) := ⟨rfl, rfl, rfl, Nat.le_refl _, fun _ _ => rfl⟩
      have HB3 := hide (HBU'.out _ hbq)
      go_wp2_with fail
      refine HB3.out.mono ?_
      rintro x w2 ⟨rfl, hD2, hF2, _⟩
      rw [Hbt.out] at hD2
      have HD2 := hide hD2
      clear hD2
      go_wp2
      go_ret
      exact ⟨rfl, ⟨_, HD2.out⟩, (Fr.of_below hbq).trans (rown_t hF2)⟩
  · rw [if_pos h0]
    have q1 : ((r : Int) != 0) = true := by simp; omega
    clear he
    go_enter Try.func27, Try.ntmps27
    go_wp2
    go_ret
    exact ⟨rfl, ⟨_, H.out⟩, Fr.refl _ _⟩
theorem rwrite08_any (h : RDIs w Q t f cs d) (hQ : ∀ b, w.heap.size ≤ b → Q b) (i : Int) (A : Option Addr) (m c : Nat) (b : List UInt8) (hi1 : -9223372036854775808 ≤ i) (hi2 : i ≤ 9223372036854775807) (hm : b.length = m) (hmc : m ≤ c) (hc : c ≤ 9223372036854775807) (hrb : Rd w A (bys b)) (hA : bys b ≠ [] → ∀ a, A = some a → ¬ ROwn t f a.block) :
    Calls Try.prog 27 #[.pointer (some ⟨t, 0, none⟩), .int .i64 i, .slice A m c] w fun e w' => e = .returned (.int .i64 (d.writeE i b)) ∧ (∃ cs', RDIs w' Q t f cs' (d.write i b)) ∧ Fr (ROwn t f) w w' := by
  by_cases he : d.writeE i b = 0
  · rw [he]; exact rwrite08_ok h hQ i A m c b hm hmc hc hrb hA he
  · have hw : d.write i b = d := if_neg he
    rw [hw]
    exact rwrite08_bad h i A m c b hi1 hi2 hm hmc hc he
end
end Go.Proofs.Ytdianokikhggnaa
