/- Package sector: Write. -/
import Derived.Test.YtdianokikhggnaaF08e
import Derived.Test.YtdianokikhggnaaClone
import Derived.Test.YtdianokikhggnaaReg
namespace Go.Proofs.Ytdianokikhggnaa
set_option maxRecDepth 20000
open Go.RowKit Go.Px Go.Maps
set_option linter.unusedVariables false
section
variable {w : World} {Q : Nat → Prop} {t f lm bm : Nat} {d : Dk}
/-- The k-th sector's bytes of a row. -/
def secB (S : Nat) (b : List UInt8) (k : Nat) : List UInt8 := (b.drop (k * S)).take S
/-- Sectors laid from I on. -/
def Dk.lay (d : Dk) (I : Nat) (b : List UInt8) : Nat → Dk
  | 0 => d
  | k + 1 => (d.lay I b k).putL ((I + k : Nat) : Int) (some (secB d.size b k))
theorem Dk.lay_same (d : Dk) (I : Nat) (b : List UInt8) : ∀ k, (d.lay I b k).size = d.size ∧ (d.lay I b k).fast = d.fast ∧ (d.lay I b k).bad = d.bad ∧ (d.lay I b k).fuse = d.fuse
  | 0 => ⟨rfl, rfl, rfl, rfl⟩
  | k + 1 => Dk.lay_same d I b k
def Dk.writeE (d : Dk) (i : Int) (b : List UInt8) : Int := if b.length % d.size ≠ 0 then 1 else if d.inR i ((b.length / d.size : Nat) : Int) then d.burnE else 5
def Dk.write (d : Dk) (i : Int) (b : List UInt8) : Dk := if d.writeE i b = 0 then d.burnt.lay i.toNat b (b.length / d.size) else d
theorem Dk.burnt_same (d : Dk) : d.burnt.size = d.size ∧ d.burnt.fast = d.fast ∧ d.burnt.loose = d.loose ∧ d.burnt.bad = d.bad := by
  unfold Dk.burnt; split <;> exact ⟨rfl, rfl, rfl, rfl⟩
set_option maxHeartbeats 1600000 in
theorem write08_bad (h : DIs w Q t f lm bm d) (i : Int) (A : Option Addr) (m c : Nat) (b : List UInt8) (hi1 : -9223372036854775808 ≤ i) (hi2 : i ≤ 9223372036854775807) (hm : b.length = m) (hmc : m ≤ c) (hc : c ≤ 9223372036854775807) (he : d.writeE i b ≠ 0) :
    Calls Try.prog 15 #[.pointer (some ⟨t, 0, none⟩), .int .i64 i, .slice A m c] w fun e w' => e = .returned (.int .i64 (d.writeE i b)) ∧ DIs w' Q t f lm bm d ∧ Fr (fun x => x = t) w w' := by
  obtain ⟨cc, b1, _⟩ := h.blk
  have x0 := b1.cell (j := 0) rfl
  have x1 := b1.cell (j := 1) rfl
  have hN := h.ok.n2
  have hs1 := h.ok.s1
  have HM := hide (made08_any h)
  have HBU := hide (burn08_any h)
  have hwe : d.writeE i b = if m % d.size ≠ 0 then 1 else if d.inR i ((m / d.size : Nat) : Int) then d.burnE else 5 := by unfold Dk.writeE; rw [hm]
  have hbe : d.burnE ≠ 0 → d.burnE = 82 ∧ d.burnt = d := fun hb => by
    unfold Dk.burnE at hb
    by_cases h0 : d.fuse = 0
    · exact ⟨by unfold Dk.burnE; rw [if_pos h0], by unfold Dk.burnt; rw [if_neg (by omega)]⟩
    · rw [if_neg h0] at hb; exact absurd rfl hb
  have H := hide h
  have HWE := hide hwe
  unfold Dk.inR at hwe
  obtain ⟨S, hSe⟩ : ∃ S, d.size = S := ⟨_, rfl⟩
  obtain ⟨N, hNe⟩ : ∃ N, d.fast.length = N := ⟨_, rfl⟩
  rw [hNe] at hwe hN x1
  rw [hSe] at hwe hs1 x0
  have hS0 : (S : Int) ≠ 0 := by omega
  have hrem : ((m : Int).tmod (S : Int)) = ((m % S : Nat) : Int) := rfl
  have hquo : ((m : Int).tdiv (S : Int)) = ((m / S : Nat) : Int) := rfl
  have hdm : m / S ≤ m := Nat.div_le_self _ _
  obtain ⟨r, hr⟩ : ∃ r, m % S = r := ⟨_, rfl⟩
  obtain ⟨n, hn⟩ : ∃ n, m / S = n := ⟨_, rfl⟩
  have hwr : IntKind.i64.wrap (n : Int) = (n : Int) := by rw [IntKind.wrap_i64]; omega
  rw [hr] at hwe hrem
  rw [hn] at hwe hquo hdm
  obtain ⟨be, hbee⟩ : ∃ be, d.burnE = be := ⟨_, rfl⟩
  rw [hbee] at hwe hbe HBU
  rw [hwe] at he ⊢
  have Hbe := hide hbe
  clear h b1 hm hSe hNe hr hn hbee hbe hwe
  by_cases h0 : r = 0
  · subst h0
    rw [if_neg (by simp)] at he ⊢
    have hwN : ∀ z : Int, 0 ≤ z → z ≤ (N : Int) → IntKind.i64.wrap ((N : Int) - z) = (N : Int) - z := fun z h1 h2 => by rw [IntKind.wrap_i64]; omega
    rcases (show i < 0 ∨ (0 ≤ i ∧ (N : Int) < i) ∨ (0 ≤ i ∧ i ≤ (N : Int) ∧ (N : Int) - i < (n : Int)) ∨ (0 ≤ i ∧ i ≤ (N : Int) ∧ (n : Int) ≤ (N : Int) - i) by omega) with h1 | ⟨h1, h2⟩ | ⟨h1, h2, h3⟩ | ⟨h1, h2, h3⟩
    · have q1 : decide (i < 0) = true := decide_eq_true h1
      rw [if_neg (fun hh => by unfold inN at hh; omega)]
      clear hwN he
      go_enter Try.func15, Try.ntmps15
      go_wp2_with fail
      go_fit HM.out
      rintro x w1 ⟨rfl, rfl⟩
      go_wp2
      go_ret
      exact ⟨rfl, H.out, Fr.refl _ _⟩
    · have q1 : decide (i < 0) = false := decide_eq_false (by omega)
      have q2 : decide ((N : Int) < i) = true := decide_eq_true h2
      rw [if_neg (fun hh => by unfold inN at hh; omega)]
      clear hwN he
      go_enter Try.func15, Try.ntmps15
      go_wp2_with fail
      go_fit HM.out
      rintro x w1 ⟨rfl, rfl⟩
      go_wp2
      go_ret
      exact ⟨rfl, H.out, Fr.refl _ _⟩
    · have q1 : decide (i < 0) = false := decide_eq_false (by omega)
      have q2 : decide ((N : Int) < i) = false := decide_eq_false (by omega)
      have q3 : decide ((N : Int) - i < (n : Int)) = true := decide_eq_true h3
      have hw := hwN i h1 h2
      rw [if_neg (fun hh => by unfold inN at hh; omega)]
      clear hwN he
      go_enter Try.func15, Try.ntmps15
      go_wp2_with fail
      go_fit HM.out
      rintro x w1 ⟨rfl, rfl⟩
      go_wp2
      go_ret
      exact ⟨rfl, H.out, Fr.refl _ _⟩
    · have q1 : decide (i < 0) = false := decide_eq_false (by omega)
      have q2 : decide ((N : Int) < i) = false := decide_eq_false (by omega)
      have q3 : decide ((N : Int) - i < (n : Int)) = false := decide_eq_false (by omega)
      have hw := hwN i h1 h2
      rw [if_pos (show inN N i (n : Int) from ⟨by omega, by omega, by omega, by omega⟩)] at he ⊢
      obtain ⟨rfl, hbt⟩ := Hbe.out he
      have Hbt := hide hbt
      clear hwN he hbt
      go_enter Try.func15, Try.ntmps15
      go_wp2_with fail
      go_fit HM.out
      rintro x w1 ⟨rfl, rfl⟩
      go_wp2_with fail
      refine HBU.out.mono ?_
      rintro x w2 ⟨rfl, hD2, hF2, _⟩
      rw [Hbt.out] at hD2
      have HD2 := hide hD2
      clear hD2
      go_wp2
      go_ret
      exact ⟨rfl, HD2.out, hF2⟩
  · rw [if_pos h0]
    have q1 : ((r : Int) != 0) = true := by simp; omega
    clear he
    go_enter Try.func15, Try.ntmps15
    go_wp2_with fail
    go_fit HM.out
    rintro x w1 ⟨rfl, rfl⟩
    go_wp2
    go_ret
    exact ⟨rfl, H.out, Fr.refl _ _⟩
end
end Go.Proofs.Ytdianokikhggnaa
