/- The document's disk: what a step of Crash makes. -/
import Derived.Test.YtdianokikhggnaaF08y
namespace Go.Proofs.Ytdianokikhggnaa
set_option maxRecDepth 20000
open Go.RowKit Go.Px Go.Maps
set_option linter.unusedVariables false
section
variable {d dk : Dk} {L : List Int} {k i : Nat}
/-- What is left of a disk when k of the loose sectors are done. -/
def rlow (d : Dk) (L : List Int) (dk : Dk) (k : Nat) : Dk := { dk with loose := fun x => if x ∈ L.take k then none else d.loose x }
def stepF (keep : List Bool) (torn cut : Int) (dk : Dk) (k i : Nat) (bs fi : List UInt8) : List UInt8 :=
  if (k : Int) = torn then (if dk.bad (i : Int) = true then fi else tornB dk.size bs fi cut) else if keep.getD k false = true then bs else fi
def stepB (keep : List Bool) (torn : Int) (dk : Dk) (k i : Nat) : Bool := if (k : Int) = torn then dk.bad (i : Int) else if keep.getD k false = true then false else dk.bad (i : Int)
theorem rlow_loose (hk : k < L.length) (hLk : L[k] = (i : Int)) : (fun x => if x ∈ L.take (k + 1) then none else d.loose x) = fun x => if x = (i : Int) then none else if x ∈ L.take k then none else d.loose x := by
  funext x
  rw [List.take_succ_eq_append_getElem hk]
  simp only [List.mem_append, List.mem_singleton, hLk]
  by_cases h1 : x = (i : Int) <;> by_cases h2 : x ∈ L.take k <;> simp [h1, h2]
theorem rlow_fasten (hk : k < L.length) (hLk : L[k] = (i : Int)) (b : List UInt8) : rlow d L (dk.fasten i b) (k + 1) = (rlow d L dk k).put4 i b none false := by
  unfold rlow
  rw [rlow_loose hk hLk]
  rfl
theorem rlow_keep (hk : k < L.length) (hLk : L[k] = (i : Int)) (hi : i < dk.fast.length) : rlow d L dk (k + 1) = (rlow d L dk k).put4 i dk.fast[i] none (dk.bad (i : Int)) := by
  unfold rlow
  rw [rlow_loose hk hLk]
  have e1 : dk.fast = dk.fast.set i dk.fast[i] := by rw [List.set_getElem_self]
  have e2 : dk.bad = fun x => if x = (i : Int) then dk.bad (i : Int) else dk.bad x := by
    funext x
    by_cases h : x = (i : Int)
    · rw [if_pos h, h]
    · rw [if_neg h]
  show Dk.mk _ dk.fast _ dk.bad _ = Dk.mk _ (dk.fast.set i dk.fast[i]) _ (fun x => if x = (i : Int) then dk.bad (i : Int) else dk.bad x) _
  rw [← e1, ← e2]
  rfl
theorem rlow_step (keep : List Bool) (torn cut : Int) (hk : k < L.length) (hLk : L[k] = (i : Int)) (hi : i < dk.fast.length) {bs : List UInt8} (hl : dk.loose (i : Int) = some bs) :
    rlow d L (dk.crashStep keep torn cut k (i : Int)) (k + 1) = (rlow d L dk k).put4 i (stepF keep torn cut dk k i bs dk.fast[i]) none (stepB keep torn dk k i) := by
  have hfd : dk.fast.getD i [] = dk.fast[i] := by rw [List.getD_eq_getElem?_getD, List.getElem?_eq_getElem hi]; rfl
  unfold Dk.crashStep stepF stepB
  rw [Int.toNat_natCast, hl, hfd]
  by_cases h1 : (k : Int) = torn
  · rw [if_pos h1, if_pos h1, if_pos h1]
    cases hb : dk.bad (i : Int) with
    | true =>
      rw [if_pos rfl, if_pos rfl, rlow_keep hk hLk hi, hb]
    | false =>
      rw [if_neg (by decide), if_neg (by decide), rlow_fasten hk hLk]; rfl
  · rw [if_neg h1, if_neg h1, if_neg h1]
    by_cases h2 : keep.getD k false = true
    · rw [if_pos h2, if_pos h2, if_pos h2, rlow_fasten hk hLk]; rfl
    · rw [if_neg h2, if_neg h2, if_neg h2, rlow_keep hk hLk hi]
theorem rlow_zero (d : Dk) (L : List Int) : rlow d L d 0 = d := by
  unfold rlow
  simp
theorem rlow_done (ok : d.Ok) (keep : List Bool) (torn cut : Int) : { rlow d d.looseL (d.crashTo keep torn cut d.looseL d.looseL.length) d.looseL.length with fuse := -1 } = d.crash keep torn cut := by
  unfold rlow Dk.crash
  have e : (fun x => if x ∈ d.looseL.take d.looseL.length then none else d.loose x) = fun _ => none := by
    funext x
    rw [List.take_length]
    by_cases h : x ∈ d.looseL
    · rw [if_pos h]
    · rw [if_neg h]
      cases hx : d.loose x with
      | none => rfl
      | some b => exact absurd ((Dk.mem_looseL ok).2 (by rw [hx]; rfl)) h
  rw [e]
end
end Go.Proofs.Ytdianokikhggnaa
