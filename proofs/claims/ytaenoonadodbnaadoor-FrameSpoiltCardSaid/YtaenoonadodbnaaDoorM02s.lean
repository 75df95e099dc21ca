/- Mathematics: a sealed row of which four bytes side by side are spoilt. -/
import Derived.Test.YtaenoonadodbnaaDoorM02
namespace Go.Px

def xb (x i : Nat) : UInt8 := UInt8.ofNat (x / 2 ^ (8 * i) % 256)
def spoil (s : List UInt8) (k x : Nat) : Nat → List UInt8
  | 0 => s
  | i + 1 => (spoil s k x i).set (k + i) (s.getD (k + i) 0 ^^^ xb x i)
theorem spoil_length (s : List UInt8) (k x i : Nat) : (spoil s k x i).length = s.length := by
  induction i with
  | zero => rfl
  | succ i ih => simp [spoil, ih]
theorem spoil_at (s : List UInt8) (k x : Nat) : ∀ i j, k + i ≤ j → (spoil s k x i)[j]? = s[j]? := by
  intro i
  induction i with
  | zero => intro j _; rfl
  | succ i ih => intro j hj; simp only [spoil]; rw [List.getElem?_set_ne (by omega)]; exact ih j (by omega)
theorem u8_xor_self0 (a y : UInt8) (h : a ^^^ y = a) : y = 0 := by
  have := congrArg (fun z => a ^^^ z) h
  simpa [← UInt8.xor_assoc] using this
theorem spoil_4 (p q : List UInt8) (a b c d : UInt8) (x : Nat) : spoil (p ++ [a, b, c, d] ++ q) p.length x 4 = p ++ [a ^^^ xb x 0, b ^^^ xb x 1, c ^^^ xb x 2, d ^^^ xb x 3] ++ q := by
  simp [spoil, List.getD]
theorem four_of {l : List UInt8} (h : 4 ≤ l.length) : ∃ a b c d q, l = a :: b :: c :: d :: q := by
  match l, h with
  | a :: b :: c :: d :: q, _ => exact ⟨a, b, c, d, q, rfl⟩
theorem xb_zero {x : Nat} (hx : x < 4294967296) (h0 : xb x 0 = 0) (h1 : xb x 1 = 0) (h2 : xb x 2 = 0) (h3 : xb x 3 = 0) : x = 0 := by
  have f : ∀ i, xb x i = 0 → x / 2 ^ (8 * i) % 256 = 0 := by
    intro i h
    have := congrArg UInt8.toNat h
    rw [xb, UInt8.toNat_ofNat_of_lt' (by have := Nat.mod_lt (x / 2 ^ (8 * i)) (show 0 < 256 by decide); exact this)] at this
    exact this
  have e0 := f 0 h0
  have e1 := f 1 h1
  have e2 := f 2 h2
  have e3 := f 3 h3
  simp at e0 e1 e2 e3
  omega
/-- A sealed row that is spoilt: its last four bytes are not the sum of those ahead. -/
theorem spoilt_sum (body : List UInt8) (k x : Nat) (hx0 : x ≠ 0) (hx : x < 4294967296) (hk : k + 4 ≤ (body ++ leB 4 (moreN 0 body)).length) :
    numN ((spoil (body ++ leB 4 (moreN 0 body)) k x 4).drop body.length) ≠ moreN 0 ((spoil (body ++ leB 4 (moreN 0 body)) k x 4).take body.length) := by
  intro h
  have hl := spoil_length (body ++ leB 4 (moreN 0 body)) k x 4
  generalize hs : body ++ leB 4 (moreN 0 body) = s at *
  have hsl : s.length = body.length + 4 := by rw [← hs, List.length_append, leB_length]
  have h1 : rawN 4294967295 s = it8 4 4294967295 := by
    rw [← hs]; exact (sealed_raw body _ (leB_length _ _)).1 (numN_leB 4 _ (moreN_lt _ _))
  have h2 := (sealed_raw _ _ (by rw [List.length_drop, hl]; omega)).1 h
  rw [List.take_append_drop] at h2
  obtain ⟨a, b, c, d, q, hq⟩ := four_of (show 4 ≤ (s.drop k).length by rw [List.length_drop]; omega)
  have hp : s = s.take k ++ [a, b, c, d] ++ q := by
    rw [List.append_assoc, show [a, b, c, d] ++ q = s.drop k from hq.symm, List.take_append_drop]
  have hkl : (s.take k).length = k := by rw [List.length_take]; omega
  generalize s.take k = p at *
  subst hkl
  rw [hp, spoil_4] at h2
  rw [hp] at h1
  refine burst_raw p [a, b, c, d] _ q (by rfl) (by simp) ?_ 4294967295 (h1.trans h2.symm)
  intro hn
  have e := congrArg (leB 4) hn
  rw [show leB 4 (numN [a, b, c, d]) = [a, b, c, d] from leB_numN [a, b, c, d], show leB 4 (numN [a ^^^ xb x 0, b ^^^ xb x 1, c ^^^ xb x 2, d ^^^ xb x 3]) = _ from leB_numN [a ^^^ xb x 0, b ^^^ xb x 1, c ^^^ xb x 2, d ^^^ xb x 3]] at e
  simp only [List.cons.injEq, and_true] at e
  exact hx0 (xb_zero hx (u8_xor_self0 _ _ e.1.symm) (u8_xor_self0 _ _ e.2.1.symm) (u8_xor_self0 _ _ e.2.2.1.symm) (u8_xor_self0 _ _ e.2.2.2.symm))
end Go.Px
