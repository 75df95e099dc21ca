/- The mathematics of results as bytes. -/
import Derived.Test.YtabglphiafeheaaM04
import Derived.Test.YtabglphiafeheaaF04g
namespace Go.Proofs.Ytabglphiafeheaa
open Go.Px
theorem rsE_two (k d : Nat) : rsP k d ∧ rsE k d = 0 ∨ rsE k d = 42 := by
  unfold rsE; split
  · exact .inl ⟨‹_›, rfl⟩
  · exact .inr rfl
def reE (bs : List UInt8) : Int :=
  if bs.length < 1 then 10 else if textE bs 1 ≠ 0 then brE (textE bs 1) else if rsE (getV bs 0 1) (textS bs 1).length ≠ 0 then 42 else 0
def reK (bs : List UInt8) : Nat := if reE bs = 0 then getV bs 0 1 else 0
def reD (bs : List UInt8) : List UInt8 := if reE bs = 0 then textS bs 1 else []
def reT (bs : List UInt8) : Int := if reE bs = 0 then textI bs 1 else 0
theorem reE_no {bs : List UInt8} (h : reE bs ≠ 0) : reK bs = 0 ∧ reD bs = [] ∧ reT bs = 0 := by
  unfold reK reD reT
  simp only [if_neg h, and_self]
theorem reE_yes {bs : List UInt8} (h : reE bs = 0) : reK bs = getV bs 0 1 ∧ reD bs = textS bs 1 ∧ reT bs = textI bs 1 := by
  unfold reK reD reT
  simp only [if_pos h, and_self]
theorem reE_ok {bs : List UInt8} (h : reE bs = 0) : 1 ≤ bs.length ∧ textE bs 1 = 0 ∧ rsE (getV bs 0 1) (textS bs 1).length = 0 := by
  unfold reE at h
  split at h
  · cases h
  · split at h
    · rename_i h1 h2
      rcases textE_cases bs 1 (by omega) (by omega) with e | e | e
      · exact absurd e h2
      · rw [e] at h; cases h
      · rw [e] at h; cases h
    · rename_i h1 h2
      split at h
      · cases h
      · exact ⟨by omega, by omega, by omega⟩
def rencB (k : Nat) (ds : List UInt8) : List UInt8 := [UInt8.ofNat k] ++ textB ds
def rencL (k : Nat) (ds : List UInt8) : List UInt8 := if rsP k ds.length then rencB k ds else []
end Go.Proofs.Ytabglphiafeheaa
