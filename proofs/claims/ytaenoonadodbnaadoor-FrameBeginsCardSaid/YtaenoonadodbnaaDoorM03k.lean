/- Frames' bytes, cut anywhere: which of them are whole. -/
import Derived.Test.YtaenoonadodbnaaDoorF03x
import Derived.Test.YtaenoonadodbnaaDoorF03d
namespace Go.Proofs.YtaenoonadodbnaaDoor
open Go.RowKit Go.Px
set_option linter.unusedVariables false
def frB (f : Nat × Nat × List UInt8) : List UInt8 := frmB f.1 f.2.1 f.2.2
/-- The bytes of some frames, one behind the other. -/
def allB : List (Nat × Nat × List UInt8) → List UInt8
  | [] => []
  | f :: r => frB f ++ allB r
theorem allB_append (l m : List (Nat × Nat × List UInt8)) : allB (l ++ m) = allB l ++ allB m := by
  induction l with
  | nil => rfl
  | cons f r ih => show frB f ++ allB (r ++ m) = frB f ++ allB r ++ allB m; rw [ih, List.append_assoc]
def Fine (fs : List (Nat × Nat × List UInt8)) : Prop := ∀ f ∈ fs, f.1 < 256 ∧ f.2.1 < 18446744073709551616 ∧ f.2.2.length ≤ 500
theorem frB_length (f : Nat × Nat × List UInt8) : (frB f).length = f.2.2.length + 20 := frmB_length _ _ _
/-- Where the first j of them end. -/
def offs (fs : List (Nat × Nat × List UInt8)) (j : Nat) : Nat := (allB (fs.take j)).length
theorem offs_succ {fs : List (Nat × Nat × List UInt8)} {j : Nat} {f : Nat × Nat × List UInt8} (h : fs[j]? = some f) : offs fs (j + 1) = offs fs j + (f.2.2.length + 20) := by
  unfold offs
  rw [List.take_add_one, h, allB_append, List.length_append]
  show _ + (frB f ++ []).length = _
  rw [List.append_nil, frB_length]
theorem allB_split {fs : List (Nat × Nat × List UInt8)} {j : Nat} {f : Nat × Nat × List UInt8} (h : fs[j]? = some f) : allB fs = allB (fs.take j) ++ frB f ++ allB (fs.drop (j + 1)) := by
  have hj := (List.getElem?_eq_some_iff.1 h).1
  have e : fs = fs.take j ++ (f :: fs.drop (j + 1)) := by
    conv => lhs; rw [← List.take_append_drop j fs]
    rw [List.drop_eq_getElem_cons hj]
    rw [List.getElem?_eq_getElem hj] at h
    injection h with h
    rw [h]
  conv => lhs; rw [e]
  rw [allB_append, List.append_assoc]; rfl
/-- A proper beginning of a frame's bytes is none. -/
theorem part_none {f : Nat × Nat × List UInt8} (hf : f.2.2.length ≤ 500) {n : Nat} (hn : n < f.2.2.length + 20) (z : List UInt8) : lenE ((frB f ++ z).take n) ≠ 0 := by
  have hl : ((frB f ++ z).take n).length = n := by rw [List.length_take, List.length_append, frB_length]; omega
  intro h
  have hle := (lenE_le h).1
  rw [hl] at hle
  have hb : bodyN ((frB f ++ z).take n) = f.2.2.length := by
    unfold bodyN
    have h16 : 16 ≤ n := by omega
    have e1 : (((frB f ++ z).take n).drop 12).take 4 = leB 4 f.2.2.length := by
      have e2 : frB f ++ z = ([80, 76, UInt8.ofNat f.1, 0] ++ leB 8 f.2.1) ++ (leB 4 f.2.2.length ++ (f.2.2 ++ (leB 4 (moreN 0 (frmH f.1 f.2.1 f.2.2)) ++ z))) := by
        show (([80, 76, UInt8.ofNat f.1, 0] ++ leB 8 f.2.1 ++ leB 4 f.2.2.length ++ f.2.2) ++ leB 4 (moreN 0 (frmH f.1 f.2.1 f.2.2))) ++ z = _
        simp only [List.append_assoc]
      have h12 : ([80, 76, UInt8.ofNat f.1, 0] ++ leB 8 f.2.1).length = 12 := by rw [List.length_append, leB_length]; rfl
      rw [List.drop_take, List.take_take, Nat.min_eq_left (by omega), e2, List.drop_left' h12, List.take_left' (leB_length _ _)]
    rw [e1]
    exact numN_leB 4 _ (by omega)
  omega
theorem none_none : lenE [] ≠ 0 := by unfold lenE; simp
theorem frE_of_lenE {x : List UInt8} (h : lenE x ≠ 0) : frE x ≠ 0 := by
  unfold frE; rw [if_pos h]; exact h
set_option maxHeartbeats 800000 in
/-- What a scan of the beginning tells. -/
theorem scan_begins {fs : List (Nat × Nat × List UInt8)} (hf : Fine fs) {k W : Nat} (hk : k ≤ (allB fs).length) (hW : W ≤ fs.length) (h1 : offs fs W ≤ k) (h2 : W < fs.length → k < offs fs (W + 1)) :
    Ends ((allB fs).take k) W ∧ scF ((allB fs).take k) W = fs.take W ∧ ∀ j, j ≤ W → scP ((allB fs).take k) j = offs fs j := by
  have hmono : ∀ i j, i ≤ j → j ≤ fs.length → offs fs i ≤ offs fs j := by
    intro i j hij
    induction hij with
    | refl => intro _; exact Nat.le_refl _
    | @step j hij ih =>
      intro hj
      have := offs_succ (fs := fs) (List.getElem?_eq_getElem (show j < fs.length by omega))
      have h3 := ih (by omega)
      show offs fs i ≤ offs fs (j + 1)
      omega
  have hTl : ((allB fs).take k).length = k := by rw [List.length_take]; omega
  -- one whole frame
  have one : ∀ j f, fs[j]? = some f → offs fs (j + 1) ≤ k → rdE ((allB fs).take k) (offs fs j : Nat) = 0 ∧ frOf ((allB fs).take k) (offs fs j) = f ∧ rdN ((allB fs).take k) (offs fs j : Nat) = (offs fs (j + 1) : Nat) := by
    intro j f hj hle
    have hfm := hf f (List.mem_of_getElem? hj)
    have hsplit := allB_split hj
    have hcut : (allB fs).take k = allB (fs.take j) ++ frB f ++ ((allB (fs.drop (j + 1))).take (k - offs fs (j + 1))) := by
      have hlen : (allB (fs.take j) ++ frB f).length = offs fs (j + 1) := by rw [List.length_append, frB_length, offs_succ hj]; rfl
      rw [hsplit, List.take_append, List.take_of_length_le (by omega), hlen]
    obtain ⟨z, hz⟩ : ∃ z, (allB (fs.drop (j + 1))).take (k - offs fs (j + 1)) = z := ⟨_, rfl⟩
    have hb : rdE (allB (fs.take j) ++ frB f ++ z) (offs fs j : Nat) = 0 ∧ rdK (allB (fs.take j) ++ frB f ++ z) (offs fs j : Nat) = f.1 ∧ rdS (allB (fs.take j) ++ frB f ++ z) (offs fs j : Nat) = f.2.1 ∧ rdB (allB (fs.take j) ++ frB f ++ z) (offs fs j : Nat) = f.2.2 ∧ rdN (allB (fs.take j) ++ frB f ++ z) (offs fs j : Nat) = ((offs fs j + (f.2.2.length + 20) : Nat) : Int) :=
      rd_back f.1 f.2.1 f.2.2 (allB (fs.take j)) z hfm.1 hfm.2.1 (by omega)
    rw [hcut, hz]
    obtain ⟨e0, e1, e2, e3, e4⟩ := hb
    refine ⟨e0, ?_, ?_⟩
    · unfold frOf
      rw [e1, e2, e3]
    · rw [offs_succ hj]
      exact e4
  have pos : ∀ j, j ≤ W → scP ((allB fs).take k) j = offs fs j := by
    intro j
    induction j with
    | zero => intro _; rfl
    | succ j ih =>
      intro hj
      have hp := ih (by omega)
      have hj' : fs[j]? = some (fs[j]'(by omega)) := List.getElem?_eq_getElem (by omega)
      obtain ⟨_, _, h3⟩ := one j _ hj' (Nat.le_trans (hmono _ _ hj hW) h1)
      show (rdN _ (scP _ j)).toNat = _
      rw [hp, h3]; rfl
  have frs : ∀ j, j ≤ W → scF ((allB fs).take k) j = fs.take j := by
    intro j
    induction j with
    | zero => intro _; rfl
    | succ j ih =>
      intro hj
      have hj' : fs[j]? = some (fs[j]'(by omega)) := List.getElem?_eq_getElem (by omega)
      obtain ⟨_, h2', _⟩ := one j _ hj' (Nat.le_trans (hmono _ _ hj hW) h1)
      show scF _ j ++ [frOf _ (scP _ j)] = _
      rw [ih (by omega), pos j (by omega), h2', List.take_add_one, hj']; rfl
  refine ⟨⟨fun t ht => ?_, ?_⟩, frs W (Nat.le_refl _), pos⟩
  · have hj' : fs[t]? = some (fs[t]'(by omega)) := List.getElem?_eq_getElem (by omega)
    rw [pos t (by omega)]
    exact (one t _ hj' (Nat.le_trans (hmono _ _ ht hW) h1)).1
  · rw [pos W (Nat.le_refl _)]
    unfold rdE
    rw [if_pos (by rw [hTl]; omega), Int.toNat_natCast]
    apply frE_of_lenE
    rcases Nat.lt_or_ge W fs.length with hlt | hge
    · have hj' : fs[W]? = some (fs[W]'hlt) := List.getElem?_eq_getElem hlt
      have hk2 := h2 hlt
      rw [offs_succ hj'] at hk2
      have e : ((allB fs).take k).drop (offs fs W) = (frB (fs[W]'hlt) ++ allB (fs.drop (W + 1))).take (k - offs fs W) := by
        rw [List.drop_take]
        congr 1
        rw [allB_split hj', List.append_assoc]
        exact List.drop_left' rfl
      rw [e]
      exact part_none (hf _ (List.getElem_mem hlt)).2.2 (by omega) _
    · have hWe : W = fs.length := by omega
      have hoff : offs fs W = (allB fs).length := by unfold offs; rw [List.take_of_length_le (by omega)]
      rw [List.drop_eq_nil_of_le (by rw [hTl]; omega)]
      exact none_none
end Go.Proofs.YtaenoonadodbnaaDoor
