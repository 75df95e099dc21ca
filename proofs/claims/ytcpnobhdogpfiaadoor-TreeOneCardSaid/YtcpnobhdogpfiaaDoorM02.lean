/- Plain mathematics of CRC-32C. -/
import Derived.Test.YtcpnobhdogpfiaaDoorM01
namespace Go.Px
set_option maxRecDepth 20000
/-- One bit. -/
def stp (s : Nat) : Nat := if s % 2 = 1 then s / 2 ^^^ 2197175160 else s / 2
def stp4 (s : Nat) : Nat := stp (stp (stp (stp s)))
def stp8 (s : Nat) : Nat := stp4 (stp4 s)
/-- What bytes make of the register. -/
def rawN (c : Nat) (bs : List UInt8) : Nat := bs.foldl (fun c b => stp8 (c ^^^ b.toNat)) c
def moreN (sum : Nat) (bs : List UInt8) : Nat := 4294967295 - rawN (4294967295 - sum) bs
def sumN (l : List (List UInt8)) : Nat := l.foldl moreN 0

theorem xor_lt {a b : Nat} (ha : a < 4294967296) (hb : b < 4294967296) : a ^^^ b < 4294967296 := Nat.xor_lt_two_pow (n := 32) ha hb
theorem stp_lt {s : Nat} (h : s < 4294967296) : stp s < 4294967296 := by
  unfold stp; split
  · exact xor_lt (by omega) (by decide)
  · omega
theorem stp4_lt {s : Nat} (h : s < 4294967296) : stp4 s < 4294967296 := stp_lt (stp_lt (stp_lt (stp_lt h)))
theorem stp8_lt {s : Nat} (h : s < 4294967296) : stp8 s < 4294967296 := stp4_lt (stp4_lt h)
theorem byte_lt (b : UInt8) : b.toNat < 4294967296 := by have := b.toNat_lt; omega
theorem rawN_lt (bs : List UInt8) : ∀ c, c < 4294967296 → rawN c bs < 4294967296 := by
  induction bs with
  | nil => intro c h; exact h
  | cons b l ih => intro c h; exact ih _ (stp8_lt (xor_lt h (byte_lt b)))
theorem moreN_lt (sum : Nat) (bs : List UInt8) : moreN sum bs < 4294967296 := by unfold moreN; omega

theorem stp_xor (a b : Nat) : stp (a ^^^ b) = stp a ^^^ stp b := by
  have h2 : (a ^^^ b) / 2 = a / 2 ^^^ b / 2 := Nat.xor_div_two
  have h1 : (a ^^^ b) % 2 = 1 ↔ ¬ ((a % 2 = 1) ↔ (b % 2 = 1)) := Nat.xor_mod_two_eq_one
  unfold stp
  rw [h2]
  by_cases ha : a % 2 = 1 <;> by_cases hb : b % 2 = 1
  · rw [if_neg (by rw [h1]; simp [ha, hb]), if_pos ha, if_pos hb]
    rw [Nat.xor_assoc, Nat.xor_comm (b / 2), ← Nat.xor_assoc 2197175160, Nat.xor_self, Nat.zero_xor]
  · rw [if_pos (by rw [h1]; simp [ha, hb]), if_pos ha, if_neg hb]
    rw [Nat.xor_assoc, Nat.xor_assoc, Nat.xor_comm (b / 2)]
  · rw [if_pos (by rw [h1]; simp [ha, hb]), if_neg ha, if_pos hb, Nat.xor_assoc]
  · rw [if_neg (by rw [h1]; simp [ha, hb]), if_neg ha, if_neg hb]
theorem stp4_xor (a b : Nat) : stp4 (a ^^^ b) = stp4 a ^^^ stp4 b := by unfold stp4; rw [stp_xor, stp_xor, stp_xor, stp_xor]
theorem stp8_xor (a b : Nat) : stp8 (a ^^^ b) = stp8 a ^^^ stp8 b := by unfold stp8; rw [stp4_xor, stp4_xor]
theorem stp_zero : stp 0 = 0 := rfl
theorem stp8_zero : stp8 0 = 0 := rfl
theorem stp_two (z : Nat) : stp (2 * z) = z := by unfold stp; rw [if_neg (by omega)]; omega
theorem stp4_sixteen (z : Nat) : stp4 (16 * z) = z := by
  unfold stp4
  rw [show 16 * z = 2 * (2 * (2 * (2 * z))) by omega, stp_two, stp_two, stp_two, stp_two]
theorem xor_disj (k a b : Nat) (h : a < 2 ^ k) : a ^^^ (2 ^ k * b) = 2 ^ k * b + a := by
  have h0 := Nat.shiftLeft_add_eq_or_of_lt h b
  have h2 : b <<< k = 2 ^ k * b := by rw [Nat.shiftLeft_eq, Nat.mul_comm]
  rw [h2] at h0
  rw [h0]
  apply Nat.eq_of_testBit_eq
  intro i
  rw [Nat.testBit_xor, Nat.testBit_or]
  by_cases hi : i < k
  · have : (2 ^ k * b).testBit i = false := by
      rw [Nat.testBit_two_pow_mul]
      simp; omega
    rw [this]; cases a.testBit i <;> rfl
  · have : a.testBit i = false := Nat.testBit_lt_two_pow (Nat.lt_of_lt_of_le h (Nat.pow_le_pow_right (by decide) (by omega)))
    rw [this]; cases (2 ^ k * b).testBit i <;> rfl
theorem nib_split (c : Nat) : c = (c % 16) ^^^ (16 * (c / 16)) := by
  have := xor_disj 4 (c % 16) (c / 16) (by omega)
  rw [show (2 : Nat) ^ 4 = 16 from rfl] at this
  rw [this]; omega
/-- What four bits that go out do to the others. -/
def tabN : List Nat := [0, 274646895, 549293790, 820201905, 1098587580, 1361435347, 1640403810, 1905808397, 2197175160, 2460548119, 2722870694, 2987750089, 3280807620, 3553878443, 3811616794, 4084100981]
theorem tab_stp4 : ∀ r : Nat, r < 16 → tabN[r]? = some (stp4 r) := by decide
theorem nib_step (c : Nat) : stp4 (c % 16) ^^^ (c / 16) = stp4 c := by
  conv => rhs; rw [nib_split c]
  rw [stp4_xor, stp4_sixteen]
theorem stp_inj0 {x : Nat} (hx : x < 4294967296) (h : stp x = 0) : x = 0 := by
  unfold stp at h
  split at h
  · have : x / 2 = 2197175160 := by
      have := congrArg (fun n => n ^^^ 2197175160) h
      simpa [Nat.xor_assoc] using this
    omega
  · omega
theorem stp4_inj0 {x : Nat} (hx : x < 4294967296) (h : stp4 x = 0) : x = 0 :=
  stp_inj0 hx (stp_inj0 (stp_lt hx) (stp_inj0 (stp_lt (stp_lt hx)) (stp_inj0 (stp_lt (stp_lt (stp_lt hx))) h)))
theorem stp8_inj0 {x : Nat} (hx : x < 4294967296) (h : stp8 x = 0) : x = 0 := stp4_inj0 hx (stp4_inj0 (stp4_lt hx) h)
theorem rawN_append (c : Nat) (a b : List UInt8) : rawN c (a ++ b) = rawN (rawN c a) b := by unfold rawN; rw [List.foldl_append]
theorem moreN_append (s : Nat) (a b : List UInt8) (hs : s < 4294967296) : moreN s (a ++ b) = moreN (moreN s a) b := by
  unfold moreN
  rw [rawN_append]
  have := rawN_lt a (4294967295 - s) (by omega)
  rw [show 4294967295 - (4294967295 - rawN (4294967295 - s) a) = rawN (4294967295 - s) a by omega]
theorem moreN_nil (s : Nat) (hs : s < 4294967296) : moreN s [] = s := by unfold moreN rawN; simp; omega
theorem sumN_flat (l : List (List UInt8)) : ∀ s, s < 4294967296 → l.foldl moreN s = moreN s l.flatten := by
  induction l with
  | nil => intro s hs; simp [moreN_nil s hs]
  | cons a l ih => intro s hs; rw [List.foldl_cons, ih _ (moreN_lt _ _), List.flatten_cons, moreN_append _ _ _ hs]
theorem not_u32 (a : Nat) (h : a < 4294967296) : a ^^^ 4294967295 = 4294967295 - a := by
  have e : 4294967295 - a = 2 ^ 32 - (a + 1) := by omega
  rw [e]
  apply Nat.eq_of_testBit_eq
  intro i
  rw [Nat.testBit_two_pow_sub_succ h, Nat.testBit_xor, show (4294967295 : Nat) = 2 ^ 32 - 1 from rfl, Nat.testBit_two_pow_sub_one]
  by_cases hi : i < 32
  · simp [hi]
  · have : a.testBit i = false := Nat.testBit_lt_two_pow (Nat.lt_of_lt_of_le h (Nat.pow_le_pow_right (n := 2) (by decide) (show 32 ≤ i by omega)))
    simp [hi, this]

/-! ### n bytes of zeros; joined sums -/
def it8 : Nat → Nat → Nat
  | 0, x => x
  | n + 1, x => it8 n (stp8 x)
theorem it8_add (a b x : Nat) : it8 (a + b) x = it8 b (it8 a x) := by
  induction a generalizing x with
  | zero => simp [it8]
  | succ a ih => rw [Nat.succ_add, it8, it8, ih]
theorem it8_xor (n a b : Nat) : it8 n (a ^^^ b) = it8 n a ^^^ it8 n b := by
  induction n generalizing a b with
  | zero => rfl
  | succ n ih => rw [it8, it8, it8, stp8_xor, ih]
theorem it8_lt (n : Nat) : ∀ {x : Nat}, x < 4294967296 → it8 n x < 4294967296 := by
  induction n with
  | zero => intro x h; exact h
  | succ n ih => intro x h; exact ih (stp8_lt h)
theorem it8_inj0 (n : Nat) : ∀ {x : Nat}, x < 4294967296 → it8 n x = 0 → x = 0 := by
  induction n with
  | zero => intro x _ h; exact h
  | succ n ih => intro x hx h; exact stp8_inj0 hx (ih (stp8_lt hx) h)
theorem it8_zero (n : Nat) : it8 n 0 = 0 := by
  induction n with
  | zero => rfl
  | succ n ih => rw [it8, stp8_zero, ih]
theorem rawN_xor (bs : List UInt8) : ∀ c d, rawN (c ^^^ d) bs = it8 bs.length c ^^^ rawN d bs := by
  induction bs with
  | nil => intro c d; rfl
  | cons b l ih =>
    intro c d
    show rawN (stp8 (c ^^^ d ^^^ b.toNat)) l = it8 l.length (stp8 c) ^^^ rawN (stp8 (d ^^^ b.toNat)) l
    rw [Nat.xor_assoc, stp8_xor, ih]
theorem moreN_join (s : Nat) (b : List UInt8) (hs : s < 4294967296) : moreN s b = it8 b.length s ^^^ moreN 0 b := by
  have h1 : 4294967295 - s = s ^^^ 4294967295 := (not_u32 s hs).symm
  have h2 := rawN_lt b 4294967295 (by decide)
  have h3 := it8_lt b.length hs
  unfold moreN
  rw [h1, rawN_xor, Nat.sub_zero, ← not_u32 _ (xor_lt h3 h2), ← not_u32 _ h2, Nat.xor_assoc]

/-! ### a matrix stands for what it does -/
def Lin (f : Nat → Nat) : Prop := ∀ a b, f (a ^^^ b) = f a ^^^ f b
theorem Lin.zero {f : Nat → Nat} (h : Lin f) : f 0 = 0 := by
  have := h 0 0
  rw [Nat.xor_self, Nat.xor_self] at this
  exact this
def RepM (m : List Nat) (f : Nat → Nat) : Prop := m.length = 32 ∧ ∀ i (h : i < m.length), m[i] = f (2 ^ i)
/-- What the first k rows make of v. -/
def timesN (m : List Nat) (v : Nat) : Nat → Nat
  | 0 => 0
  | k + 1 => if v / 2 ^ k % 2 = 1 then timesN m v k ^^^ m.getD k 0 else timesN m v k
theorem timesN_rep {m : List Nat} {f : Nat → Nat} (hf : Lin f) (hm : RepM m f) (v : Nat) : ∀ k, k ≤ 32 → timesN m v k = f (v % 2 ^ k) := by
  intro k
  induction k with
  | zero => intro _; simp [timesN, hf.zero, Nat.mod_one]
  | succ k ih =>
    intro hk
    have hb : v % 2 ^ (k + 1) = v % 2 ^ k ^^^ (2 ^ k * (v / 2 ^ k % 2)) := by
      rw [xor_disj k _ _ (Nat.mod_lt _ (Nat.two_pow_pos k)), Nat.pow_succ, Nat.mod_mul]
      omega
    rw [timesN, ih (by omega), hb]
    split
    · rename_i h1
      have hkl : k < m.length := by rw [hm.1]; omega
      rw [h1, Nat.mul_one, hf, List.getD_eq_getElem?_getD, List.getElem?_eq_getElem hkl, Option.getD_some, hm.2 k hkl]
    · rename_i h1
      have h0 : v / 2 ^ k % 2 = 0 := by omega
      rw [h0, Nat.mul_zero, Nat.xor_zero]
theorem timesN_all {m : List Nat} {f : Nat → Nat} (hf : Lin f) (hm : RepM m f) {v : Nat} (hv : v < 4294967296) : timesN m v 32 = f v := by
  rw [timesN_rep hf hm v 32 (Nat.le_refl _), Nat.mod_eq_of_lt hv]
theorem Lin.comp {f g : Nat → Nat} (hf : Lin f) (hg : Lin g) : Lin (fun x => f (g x)) := fun a b => by
  show f (g (a ^^^ b)) = _
  rw [hg, hf]
theorem lin_stp : Lin stp := stp_xor
theorem lin_it8 (n : Nat) : Lin (it8 n) := it8_xor n

/-! ### a burst of four bytes -/
theorem stp8_256 (z : Nat) : stp8 (256 * z) = z := by
  unfold stp8
  rw [show 256 * z = 16 * (16 * z) by omega, stp4_sixteen, stp4_sixteen]
theorem rawN_num (l : List UInt8) : ∀ c, rawN c l = it8 l.length (c ^^^ numN l) := by
  induction l with
  | nil => intro c; simp [rawN, it8, numN]
  | cons b l ih =>
    intro c
    show rawN (stp8 (c ^^^ b.toNat)) l = it8 l.length (stp8 (c ^^^ numN (b :: l)))
    rw [ih, numN]
    have hb : b.toNat + 256 * numN l = b.toNat ^^^ (256 * numN l) := by
      have := xor_disj 8 b.toNat (numN l) b.toNat_lt
      rw [show (2 : Nat) ^ 8 = 256 from rfl] at this
      rw [this]; omega
    rw [hb, ← Nat.xor_assoc, stp8_xor (c ^^^ b.toNat) (256 * numN l), stp8_256]
/-- A row that is sealed leaves the register so. -/
theorem sealed_raw (body t : List UInt8) (ht : t.length = 4) : numN t = moreN 0 body ↔ rawN 4294967295 (body ++ t) = it8 4 4294967295 := by
  have hr := rawN_lt body 4294967295 (by decide)
  have hn : numN t < 4294967296 := by have := numN_lt t; rw [ht] at this; exact this
  rw [rawN_append, rawN_num, ht]
  have hm : moreN 0 body = rawN 4294967295 body ^^^ 4294967295 := by unfold moreN; rw [Nat.sub_zero, not_u32 _ hr]
  rw [hm]
  constructor
  · intro h
    rw [h, ← Nat.xor_assoc, Nat.xor_self, Nat.zero_xor]
  · intro h
    have h0 : it8 4 ((rawN 4294967295 body ^^^ numN t) ^^^ 4294967295) = 0 := by rw [it8_xor, h, Nat.xor_self]
    have h1 := it8_inj0 4 (xor_lt (xor_lt hr hn) (by decide)) h0
    have h2 : rawN 4294967295 body ^^^ numN t = 4294967295 := by
      have := congrArg (fun z => z ^^^ 4294967295) h1
      simpa [Nat.xor_assoc] using this
    rw [← Nat.zero_xor (numN t), ← Nat.xor_self (rawN 4294967295 body), Nat.xor_assoc, h2]
/-- Two rows that part in four bytes side by side (or fewer, the others alike) leave the register otherwise. -/
theorem burst_raw (p w w' q : List UInt8) (hw : w.length = w'.length) (h4 : w.length ≤ 4) (hne : numN w ≠ numN w') (c : Nat) : rawN c (p ++ w ++ q) ≠ rawN c (p ++ w' ++ q) := by
  intro h
  have b1 : numN w < 4294967296 := Nat.lt_of_lt_of_le (numN_lt w) (Nat.le_trans (Nat.pow_le_pow_right (by decide) h4) (by decide))
  have b2 : numN w' < 4294967296 := Nat.lt_of_lt_of_le (numN_lt w') (Nat.le_trans (Nat.pow_le_pow_right (by decide) (show w'.length ≤ 4 by omega)) (by decide))
  rw [rawN_append, rawN_append, rawN_append, rawN_append, rawN_num w, rawN_num w', ← hw] at h
  have hl : ∀ a b, rawN a q = rawN b q → it8 q.length (a ^^^ b) = 0 := by
    intro a b hab
    have := rawN_xor q (a ^^^ b) b
    rw [Nat.xor_assoc, Nat.xor_self, Nat.xor_zero, hab] at this
    have h2 := congrArg (fun z => z ^^^ rawN b q) this
    simp only [Nat.xor_self, Nat.xor_assoc, Nat.xor_zero] at h2
    exact h2.symm
  have h0 := hl _ _ h
  rw [← it8_xor] at h0
  have e : (rawN c p ^^^ numN w) ^^^ (rawN c p ^^^ numN w') = numN w ^^^ numN w' := by
    rw [Nat.xor_comm (rawN c p) (numN w), Nat.xor_assoc, ← Nat.xor_assoc (rawN c p), Nat.xor_self, Nat.zero_xor]
  rw [e, ← it8_add] at h0
  have h1 := it8_inj0 _ (xor_lt b1 b2) h0
  apply hne
  have := congrArg (fun z => z ^^^ numN w') h1
  simpa [Nat.xor_assoc] using this
end Go.Px
