/- Mathematics of frames. -/
import Derived.Test.YtaenoonadodbnaaDoorM02
namespace Go.Px
/-- The number of a frame's body, as its head says it. -/
def bodyN (x : List UInt8) : Nat := numN ((x.drop 12).take 4)
def lenE (x : List UInt8) : Int :=
  if x.length < 16 then 10 else if (x.getD 0 0).toNat ≠ 80 ∨ (x.getD 1 0).toNat ≠ 76 ∨ (x.getD 3 0).toNat ≠ 0 ∨ 16777216 < bodyN x then 30 else if x.length < bodyN x + 20 then 10 else 0
def lenR (x : List UInt8) : Int := if lenE x = 0 then ((bodyN x + 20 : Nat) : Int) else 0
theorem lenR_bad {x : List UInt8} (h : lenE x ≠ 0) : lenR x = 0 := if_neg h
theorem lenR_ok {x : List UInt8} (h : lenE x = 0) : lenR x = ((bodyN x + 20 : Nat) : Int) := if_pos h
theorem bodyN_lt (x : List UInt8) : bodyN x < 4294967296 := by
  have h := numN_lt ((x.drop 12).take 4)
  have : ((x.drop 12).take 4).length ≤ 4 := by rw [List.length_take]; omega
  exact Nat.lt_of_lt_of_le h (Nat.le_trans (Nat.pow_le_pow_right (by decide) this) (by decide))
theorem get_body {x : List UInt8} (h : 16 ≤ x.length) : getE x 12 4 = 0 ∧ getV x 12 4 = bodyN x := by
  have he : getE x 12 4 = 0 := by
    unfold getE
    rw [if_pos (by decide), if_pos (by omega), if_neg (by omega)]
  refine ⟨he, ?_⟩
  unfold getV
  rw [if_pos he]; rfl
theorem at_nat {x : List UInt8} {k : Nat} (h : k < x.length) : (x[k]).toNat = (x.getD k 0).toNat := by
  rw [List.getD_eq_getElem?_getD, List.getElem?_eq_getElem h]; rfl
/-- Why there is no frame with which x begins (0: there is one). -/
def frE (x : List UInt8) : Int := if lenE x ≠ 0 then lenE x else if numN ((x.drop (bodyN x + 16)).take 4) ≠ moreN 0 (x.take (bodyN x + 16)) then 31 else 0
def rdE (bs : List UInt8) (i : Int) : Int := if 0 ≤ i ∧ i ≤ bs.length then frE (bs.drop i.toNat) else 5
def rdK (bs : List UInt8) (i : Int) : Nat := if rdE bs i = 0 then ((bs.drop i.toNat).getD 2 0).toNat else 0
def rdS (bs : List UInt8) (i : Int) : Nat := if rdE bs i = 0 then numN (((bs.drop i.toNat).drop 4).take 8) else 0
def rdB (bs : List UInt8) (i : Int) : List UInt8 := if rdE bs i = 0 then ((bs.drop i.toNat).drop 16).take (bodyN (bs.drop i.toNat)) else []
def rdN (bs : List UInt8) (i : Int) : Int := if rdE bs i = 0 then i + ((bodyN (bs.drop i.toNat) + 20 : Nat) : Int) else 0
theorem rd_bad {bs : List UInt8} {i z : Int} (h : rdE bs i = z) (hz : z ≠ 0) : rdK bs i = 0 ∧ rdS bs i = 0 ∧ rdB bs i = [] ∧ rdN bs i = 0 := by
  have : rdE bs i ≠ 0 := by rw [h]; exact hz
  exact ⟨if_neg this, if_neg this, if_neg this, if_neg this⟩
theorem lenE_le {x : List UInt8} (h : lenE x = 0) : bodyN x + 20 ≤ x.length ∧ bodyN x ≤ 16777216 := by
  unfold lenE at h
  split at h
  · simp at h
  · split at h
    · simp at h
    · split at h
      · simp at h
      · omega
end Go.Px
