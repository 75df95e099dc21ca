/- The mathematics of requests and results as bytes. -/
import Derived.Test.YtabglphiafeheaaM01
import Derived.Test.YtabglphiafeheaaF04c
namespace Go.Proofs.Ytabglphiafeheaa
open Go.Px

def brE (e : Int) : Int := if e = 2 then 42 else e
/-- The error of a request's decoding. -/
def opE (bs : List UInt8) : Int :=
  if bs.length < 9 then 10 else if textE bs 9 ≠ 0 then brE (textE bs 9) else if textE bs (textI bs 9) ≠ 0 then brE (textE bs (textI bs 9))
  else if fmE (getV bs 0 1) (getV bs 1 4) (getV bs 5 4) (textS bs 9).length (textS bs (textI bs 9)).length ≠ 0 then 42 else 0
def opK (bs : List UInt8) : Nat := if opE bs = 0 then getV bs 0 1 else 0
def opP (bs : List UInt8) : Nat := if opE bs = 0 then getV bs 1 4 else 0
def opN (bs : List UInt8) : Nat := if opE bs = 0 then getV bs 5 4 else 0
def opD (bs : List UInt8) : List UInt8 := if opE bs = 0 then textS bs 9 else []
def opO (bs : List UInt8) : List UInt8 := if opE bs = 0 then textS bs (textI bs 9) else []
def opT (bs : List UInt8) : Int := if opE bs = 0 then textI bs (textI bs 9) else 0
theorem textE_cases (bs : List UInt8) (i : Int) (hi : 0 ≤ i) (hi2 : i ≤ bs.length) : textE bs i = 0 ∨ textE bs i = 2 ∨ textE bs i = 10 := by
  unfold textE
  split
  · split
    · split <;> simp
    · simp
  · rename_i h
    unfold getE at *
    simp only [show (1 : Int) ≤ 4 ∧ (4 : Int) ≤ 8 from by decide, if_true, hi, hi2, and_self] at *
    split at h
    · right; right; split
      · rfl
      · omega
    · exact absurd rfl h
theorem textI_bd {bs : List UInt8} {i : Int} (h : textE bs i = 0) : 0 ≤ textI bs i ∧ i + 4 ≤ textI bs i ∧ textI bs i ≤ bs.length ∧ textI bs i = i + 4 + (textS bs i).length ∧ (textS bs i).length ≤ 16777216 := by
  have h0 := h
  unfold textE at h
  split at h
  · rename_i hg
    obtain ⟨_, _, h1, h2, h3⟩ := getE_zero hg
    split at h
    · rename_i hq
      split at h
      · rename_i hb
        have hS : (textS bs i).length = getV bs i 4 := by
          unfold textS; rw [if_pos h0, List.length_take, List.length_drop]; omega
        have hI : textI bs i = i + 4 + getV bs i 4 := by unfold textI; rw [if_pos h0]
        rw [hI, hS]; omega
      · cases h
    · cases h
  · rename_i hg; exact absurd h hg
theorem short_get (bs : List UInt8) (i n : Int) (h1 : 1 ≤ n) (h8 : n ≤ 8) (hi : 0 ≤ i) (hi2 : i ≤ bs.length) (h : bs.length < i + n) : getE bs i n = 10 := by
  unfold getE; rw [if_pos ⟨h1, h8⟩, if_pos ⟨hi, hi2⟩, if_pos (by omega)]
theorem long_get (bs : List UInt8) (i n : Int) (h1 : 1 ≤ n) (h8 : n ≤ 8) (hi : 0 ≤ i) (h : i + n ≤ bs.length) : getE bs i n = 0 := by
  unfold getE; rw [if_pos ⟨h1, h8⟩, if_pos ⟨hi, by omega⟩, if_neg (by omega)]
theorem getI_of {bs : List UInt8} {i n : Int} (h : getE bs i n = 0) : getI bs i n = i + n := by unfold getI; rw [if_pos h]
theorem getV_1 (bs : List UInt8) (i : Int) : getV bs i 1 < 256 := by have := getV_lt bs i 1; simpa using this
theorem getV_4 (bs : List UInt8) (i : Int) : getV bs i 4 ≤ 4294967295 := by
  have h := getV_lt bs i 4
  have e : 256 ^ (4 : Int).toNat = 4294967296 := by decide
  omega
theorem getV_byte (bs : List UInt8) (h : 0 < bs.length) : (bs[0]).toNat = getV bs 0 1 := by
  have e : getE bs 0 1 = 0 := long_get bs 0 1 (by decide) (by decide) (by decide) (by omega)
  unfold getV
  rw [if_pos e]
  match bs, h with
  | x :: r, _ => simp [numN]
/-- What a request's bytes are, where they are one's. -/
theorem opE_ok {bs : List UInt8} (h : opE bs = 0) : 9 ≤ bs.length ∧ textE bs 9 = 0 ∧ textE bs (textI bs 9) = 0 ∧ fmE (getV bs 0 1) (getV bs 1 4) (getV bs 5 4) (textS bs 9).length (textS bs (textI bs 9)).length = 0 := by
  unfold opE at h
  split at h
  · cases h
  · split at h
    · rename_i h1 h2
      rcases textE_cases bs 9 (by omega) (by omega) with e | e | e
      · exact absurd e h2
      · rw [e] at h; cases h
      · rw [e] at h; cases h
    · rename_i h1 h2
      have h2' : textE bs 9 = 0 := by omega
      have hb := textI_bd h2'
      split at h
      · rename_i h3
        rcases textE_cases bs (textI bs 9) (by omega) (by omega) with e | e | e
        · exact absurd e h3
        · rw [e] at h; cases h
        · rw [e] at h; cases h
      · rename_i h3
        split at h
        · cases h
        · exact ⟨by omega, h2', by omega, by omega⟩
theorem opE_no {bs : List UInt8} (h : opE bs ≠ 0) : opK bs = 0 ∧ opP bs = 0 ∧ opN bs = 0 ∧ opD bs = [] ∧ opO bs = [] ∧ opT bs = 0 := by
  unfold opK opP opN opD opO opT
  simp only [if_neg h, and_self]
theorem opE_yes {bs : List UInt8} (h : opE bs = 0) : opK bs = getV bs 0 1 ∧ opP bs = getV bs 1 4 ∧ opN bs = getV bs 5 4 ∧ opD bs = textS bs 9 ∧ opO bs = textS bs (textI bs 9) ∧ opT bs = textI bs (textI bs 9) := by
  unfold opK opP opN opD opO opT
  simp only [if_pos h, and_self]
end Go.Proofs.Ytabglphiafeheaa
