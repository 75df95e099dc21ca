/- Plain mathematics of numbers as bytes. -/
import Derived.Test.YtcpnobhdogpfiaaDoorLib
namespace Go.Px
set_option maxRecDepth 20000
/-- The number that bytes are, the lowest first. -/
def numN : List UInt8 → Nat
  | [] => 0
  | b :: l => b.toNat + 256 * numN l
/-- k bytes of a number, the lowest first. -/
def leB : Nat → Nat → List UInt8
  | 0, _ => []
  | k + 1, v => UInt8.ofNat (v % 256) :: leB k (v / 256)
theorem leB_length (k v : Nat) : (leB k v).length = k := by
  induction k generalizing v with
  | zero => rfl
  | succ k ih => simp [leB, ih]
theorem toNat_ofNat_mod (m : Nat) : (UInt8.ofNat (m % 256)).toNat = m % 256 := by
  simp
theorem leB_snoc (k v : Nat) : leB (k + 1) v = leB k v ++ [UInt8.ofNat (v / 256 ^ k % 256)] := by
  induction k generalizing v with
  | zero => simp [leB]
  | succ k ih =>
    rw [leB, ih (v / 256), leB, List.cons_append, Nat.div_div_eq_div_mul, Nat.pow_succ']
theorem numN_leB (k v : Nat) (h : v < 256 ^ k) : numN (leB k v) = v := by
  induction k generalizing v with
  | zero => simp [leB, numN] at *; omega
  | succ k ih =>
    rw [leB, numN, ih (v / 256) (by rw [Nat.pow_succ] at h; omega), toNat_ofNat_mod]; omega
theorem leB_numN (l : List UInt8) : leB l.length (numN l) = l := by
  induction l with
  | nil => rfl
  | cons b l ih =>
    have hb := b.toNat_lt
    rw [List.length_cons, leB, numN]
    have e1 : (b.toNat + 256 * numN l) % 256 = b.toNat := by omega
    have e2 : (b.toNat + 256 * numN l) / 256 = numN l := by omega
    rw [e1, e2, ih]; simp
theorem numN_lt (l : List UInt8) : numN l < 256 ^ l.length := by
  induction l with
  | nil => simp [numN]
  | cons b l ih =>
    have hb := b.toNat_lt
    rw [numN, List.length_cons, Nat.pow_succ]; omega
theorem numN_snoc (l : List UInt8) (b : UInt8) : numN (l ++ [b]) = numN l + 256 ^ l.length * b.toNat := by
  induction l with
  | nil => simp [numN]
  | cons c l ih => rw [List.cons_append, numN, ih, numN, List.length_cons, Nat.pow_succ']; rw [Nat.mul_add, Nat.mul_assoc]; omega
theorem numN_take_succ (l : List UInt8) (k : Nat) (h : k < l.length) : numN (l.take (k + 1)) = numN (l.take k) + 256 ^ k * (l[k]).toNat := by
  rw [List.take_succ_eq_append_getElem h, numN_snoc]; simp [Nat.min_eq_left (Nat.le_of_lt h)]
theorem numN_drop (l : List UInt8) (t : Nat) (h : t < l.length) : numN (l.drop t) = numN (l.drop (t + 1)) * 256 + (l[t]).toNat := by
  rw [List.drop_eq_getElem_cons h, numN]; omega
theorem numN_drop_lt (l : List UInt8) (t : Nat) (h : l.length ≤ 8) : numN (l.drop (t + 1)) < 72057594037927936 := by
  refine Nat.lt_of_lt_of_le (numN_lt _) ?_
  have : 256 ^ (l.drop (t + 1)).length ≤ 256 ^ 7 := Nat.pow_le_pow_right (by decide) (by rw [List.length_drop]; omega)
  exact Nat.le_trans this (by decide)
theorem pow256_le {k : Nat} (h : k ≤ 8) : 256 ^ k ≤ 18446744073709551616 := Nat.le_trans (Nat.pow_le_pow_right (by decide) h) (by decide)
theorem pow256_two (k : Nat) : 256 ^ k = 2 ^ (8 * k) := by rw [Nat.pow_mul]
/-- v |= b << (8 k), where v has less than 8 k bits. -/
theorem or_shift_u64 (a c k : Nat) (ha : a < 256 ^ k) (hc : c < 256) (hk : k < 8) :
    bits .or .u64 (a : Int) (IntKind.u64.wrap (IntKind.u64.wrap (c : Int) * 2 ^ (8 * k))) = ((a + 256 ^ k * c : Nat) : Int) := by
  have hp : 256 ^ (k + 1) ≤ 18446744073709551616 := pow256_le (by omega)
  have hk1 : 256 ^ k ≤ 72057594037927936 := Nat.le_trans (Nat.pow_le_pow_right (by decide) (show k ≤ 7 by omega)) (by decide)
  have hc1 : 256 ^ k * c < 18446744073709551616 := by
    have : 256 ^ k * c ≤ 256 ^ k * 255 := Nat.mul_le_mul_left _ (by omega)
    omega
  have e1 : IntKind.u64.wrap (c : Int) = (c : Int) := IntWalk.u64_in _ (by omega)
  have e2 : (c : Int) * 2 ^ (8 * k) = ((256 ^ k * c : Nat) : Int) := by
    rw [pow256_two, Int.natCast_mul, Int.natCast_pow, Int.mul_comm]; rfl
  rw [e1, e2, IntWalk.u64_in _ (by omega), u64_or_nat _ _ (by omega) (by omega)]
  rw [Nat.or_comm, pow256_two, Nat.mul_comm, ← Nat.shiftLeft_eq, ← Nat.shiftLeft_add_eq_or_of_lt (by rw [← pow256_two]; exact ha), Nat.add_comm]
/-- Put's error of a number: 1, 5 or 0. -/
def fitsE (v : Nat) (n : Int) : Int := if 1 ≤ n ∧ n ≤ 8 then (if v < 256 ^ n.toNat then 0 else 5) else 1
theorem fitsE_cases (v : Nat) (n : Int) : fitsE v n = 0 ∨ fitsE v n = 1 ∨ fitsE v n = 5 := by unfold fitsE; split <;> (try split) <;> simp
theorem fitsE_zero {v : Nat} {n : Int} (h : fitsE v n = 0) : 1 ≤ n ∧ n ≤ 8 ∧ v < 256 ^ n.toNat := by
  unfold fitsE at h; split at h
  · split at h
    · rename_i a b; exact ⟨a.1, a.2, b⟩
    · cases h
  · cases h
/-- The first error of some numbers. -/
def allE (n : Int) : List Nat → Int
  | [] => 0
  | v :: l => if fitsE v n = 0 then allE n l else fitsE v n
theorem allE_at (n : Int) (l : List Nat) (k : Nat) (hk : k < l.length) (h : allE n (l.take k) = 0) (hf : fitsE l[k] n ≠ 0) : allE n l = fitsE l[k] n := by
  induction l generalizing k with
  | nil => simp at hk
  | cons v l ih =>
    rcases k with _ | k
    · simp only [List.getElem_cons_zero] at hf ⊢; rw [allE, if_neg hf]
    · simp only [List.take_succ_cons, allE] at h
      split at h
      · rename_i hv
        simp only [List.getElem_cons_succ] at hf ⊢
        rw [allE, if_pos hv]; exact ih k (by simpa using hk) h hf
      · contradiction
theorem allE_snoc (n : Int) (l : List Nat) (k : Nat) (hk : k < l.length) (h : allE n (l.take k) = 0) (hf : fitsE l[k] n = 0) : allE n (l.take (k + 1)) = 0 := by
  induction l generalizing k with
  | nil => simp at hk
  | cons v l ih =>
    rcases k with _ | k
    · simp only [List.getElem_cons_zero] at hf; simp [allE, hf]
    · simp only [List.take_succ_cons, allE] at h ⊢
      split at h
      · rename_i hv
        rw [if_pos hv]
        exact ih k (by simpa using hk) h (by simpa using hf)
      · rename_i hv; exact absurd h hv
theorem allE_mem {n : Int} {l : List Nat} (h : allE n l = 0) : ∀ v ∈ l, fitsE v n = 0 := by
  induction l with
  | nil => simp
  | cons v l ih =>
    rw [allE] at h
    split at h
    · rename_i hv; intro u hu; rcases List.mem_cons.1 hu with rfl | hu
      · exact hv
      · exact ih h u hu
    · rename_i hv; exact absurd h hv
def putB (bs : List UInt8) (v : Nat) (n : Int) : List UInt8 := if fitsE v n = 0 then bs ++ leB n.toNat v else []
def flatB (k : Nat) (l : List Nat) : List UInt8 := l.flatMap (leB k)
theorem flatB_length (k : Nat) (l : List Nat) : (flatB k l).length = l.length * k := by
  induction l with
  | nil => simp [flatB]
  | cons v l ih => simp only [flatB, List.flatMap_cons, List.length_append, leB_length, List.length_cons] at *; rw [ih, Nat.succ_mul]; omega
theorem flatB_snoc (k : Nat) (l : List Nat) (j : Nat) (h : j < l.length) : flatB k (l.take (j + 1)) = flatB k (l.take j) ++ leB k l[j] := by
  rw [List.take_succ_eq_append_getElem h, flatB, flatB, List.flatMap_append]; simp
def putAllB (bs : List UInt8) (l : List Nat) (n : Int) : List UInt8 := if allE n l = 0 then bs ++ flatB n.toNat l else []
theorem putAll_one (bs : List UInt8) (v : Nat) (n : Int) : putAllB bs [v] n = putB bs v n ∧ allE n [v] = fitsE v n := by
  unfold putAllB putB allE allE flatB
  refine ⟨?_, ?_⟩
  · by_cases h : fitsE v n = 0 <;> simp [h]
  · split
    · rename_i h; exact h.symm
    · rfl
/-- A text's bytes. -/
def textB (s : List UInt8) : List UInt8 := leB 4 s.length ++ s
def putTextE (s : List UInt8) : Int := if s.length ≤ 16777216 then 0 else 2
def putTextB (bs s : List UInt8) : List UInt8 := if s.length ≤ 16777216 then bs ++ textB s else []
/-- Get's error. -/
def getE (bs : List UInt8) (at_ n : Int) : Int := if 1 ≤ n ∧ n ≤ 8 then (if 0 ≤ at_ ∧ at_ ≤ bs.length then (if bs.length - at_ < n then 10 else 0) else 5) else 1
def getV (bs : List UInt8) (at_ n : Int) : Nat := if getE bs at_ n = 0 then numN ((bs.drop at_.toNat).take n.toNat) else 0
def getI (bs : List UInt8) (at_ n : Int) : Int := if getE bs at_ n = 0 then at_ + n else 0
theorem getE_cases (bs : List UInt8) (at_ n : Int) : getE bs at_ n = 0 ∨ getE bs at_ n = 1 ∨ getE bs at_ n = 5 ∨ getE bs at_ n = 10 := by
  unfold getE; split <;> (try split) <;> (try split) <;> simp
theorem getE_zero {bs : List UInt8} {at_ n : Int} (h : getE bs at_ n = 0) : 1 ≤ n ∧ n ≤ 8 ∧ 0 ≤ at_ ∧ at_ ≤ bs.length ∧ at_ + n ≤ bs.length := by
  unfold getE at h; split at h
  · split at h
    · split at h
      · cases h
      · omega
    · cases h
  · cases h
theorem getV_lt (bs : List UInt8) (at_ n : Int) : getV bs at_ n < 256 ^ n.toNat := by
  unfold getV; split
  · refine Nat.lt_of_lt_of_le (numN_lt _) (Nat.pow_le_pow_right (by decide) ?_)
    rw [List.length_take]; omega
  · exact Nat.pow_pos (by decide)
/-- GetText's error, its text, the place behind. -/
def textE (bs : List UInt8) (at_ : Int) : Int :=
  if getE bs at_ 4 = 0 then (if getV bs at_ 4 ≤ 16777216 then (if at_ + 4 + getV bs at_ 4 ≤ bs.length then 0 else 10) else 2) else getE bs at_ 4
def textS (bs : List UInt8) (at_ : Int) : List UInt8 := if textE bs at_ = 0 then (bs.drop (at_.toNat + 4)).take (getV bs at_ 4) else []
def textI (bs : List UInt8) (at_ : Int) : Int := if textE bs at_ = 0 then at_ + 4 + getV bs at_ 4 else 0
end Go.Px
