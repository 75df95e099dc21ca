/- A frame of which one byte is another: mathematics. -/
import Derived.Test.YtaenoonadodbnaaDoorF03d
import Derived.Test.YtaenoonadodbnaaDoorM02s
namespace Go.Proofs.YtaenoonadodbnaaDoor
open Go.RowKit Go.Px
set_option linter.unusedVariables false

theorem frm_head (k s : Nat) (bd : List UInt8) (hb : bd.length ≤ 16384) :
    ((frmB k s bd).getD 0 0).toNat = 80 ∧ ((frmB k s bd).getD 1 0).toNat = 76 ∧ ((frmB k s bd).getD 3 0).toNat = 0 ∧ bodyN (frmB k s bd) = bd.length := by
  obtain ⟨u, hu⟩ : ∃ u, moreN 0 (frmH k s bd) = u := ⟨_, rfl⟩
  have e : frmB k s bd = ([80, 76, UInt8.ofNat k, 0] ++ leB 8 s) ++ (leB 4 bd.length ++ (bd ++ leB 4 u)) := by
    unfold frmB; rw [hu]; simp [frmH]
  have e3 : frmB k s bd = [80, 76, UInt8.ofNat k, 0] ++ (leB 8 s ++ (leB 4 bd.length ++ (bd ++ leB 4 u))) := by rw [e]; simp
  have d12 : (frmB k s bd).drop 12 = leB 4 bd.length ++ (bd ++ leB 4 u) := by
    rw [e]; exact List.drop_left' (by simp [leB_length])
  refine ⟨by rw [e3]; rfl, by rw [e3]; rfl, by rw [e3]; rfl, ?_⟩
  unfold bodyN; rw [d12, List.take_left' (leB_length _ _), numN_leB 4 _ (by omega)]
theorem frm_sealed (k s : Nat) (bd : List UInt8) : rawN 4294967295 (frmB k s bd) = it8 4 4294967295 := by
  unfold frmB
  exact (sealed_raw _ _ (leB_length _ _)).1 (numN_leB 4 _ (moreN_lt _ _))
theorem set_cut {l : List UInt8} {j : Nat} (h : j < l.length) (y : UInt8) : l.set j y = l.take j ++ [y] ++ l.drop (j + 1) := by
  rw [List.set_eq_take_append_cons_drop, if_pos h]; simp
theorem self_cut {l : List UInt8} {j : Nat} (h : j < l.length) : l = l.take j ++ [l[j]] ++ l.drop (j + 1) := by
  have := set_cut h l[j]
  rw [List.set_getElem_self] at this
  exact this
theorem numN_inj {a b : List UInt8} (hl : a.length = b.length) (h : numN a = numN b) : a = b := by
  rw [← leB_numN a, ← leB_numN b, hl, h]
theorem getD_set_ne {l : List UInt8} {j i : Nat} (h : i ≠ j) (y : UInt8) : (l.set j y).getD i 0 = l.getD i 0 := by
  rw [List.getD_eq_getElem?_getD, List.getD_eq_getElem?_getD, List.getElem?_set_ne (Ne.symm h)]
theorem getD_set_eq {l : List UInt8} {j : Nat} (h : j < l.length) (y : UInt8) : (l.set j y).getD j 0 = y := by
  rw [List.getD_eq_getElem?_getD, List.getElem?_set_self h]; rfl
theorem frm_spoilt (k s : Nat) (bd : List UInt8) (hb : bd.length ≤ 16384) (j : Nat) (hj : j < bd.length + 20) (y : UInt8) (hy : y ≠ (frmB k s bd).getD j 0) :
    rdE ((frmB k s bd).set j y) 0 ≠ 0 ∨ (12 ≤ j ∧ j < 16 ∧ (rdB ((frmB k s bd).set j y) 0).length < bd.length) := by
  obtain ⟨h80, h76, h0, hbn⟩ := frm_head k s bd hb
  have hsl := frm_sealed k s bd
  have hlen := frmB_length k s bd
  generalize frmB k s bd = f at *
  obtain ⟨g, hg⟩ : ∃ g, f.set j y = g := ⟨_, rfl⟩
  have hgl : g.length = bd.length + 20 := by rw [← hg, List.length_set, hlen]
  have hjl : j < f.length := by omega
  rw [hg]
  by_cases hE : rdE g 0 = 0
  · refine .inr ?_
    have hE2 : frE g = 0 := by
      have := hE
      unfold rdE at this
      rw [if_pos ⟨Int.le_refl 0, by omega⟩] at this
      exact this
    have hL : lenE g = 0 := by
      unfold frE at hE2
      split at hE2
      · exact hE2
      · rename_i h; exact Decidable.not_not.1 h
    obtain ⟨hle, hmx⟩ := lenE_le hL
    have hsum : numN ((g.drop (bodyN g + 16)).take 4) = moreN 0 (g.take (bodyN g + 16)) := by
      unfold frE at hE2
      rw [if_neg (by rw [hL]; simp)] at hE2
      split at hE2
      · cases hE2
      · rename_i h; exact Decidable.not_not.1 h
    have hhd : (g.getD 0 0).toNat = 80 ∧ (g.getD 1 0).toNat = 76 ∧ (g.getD 3 0).toNat = 0 := by
      unfold lenE at hL
      split at hL
      · cases hL
      · split at hL
        · cases hL
        · rename_i h; omega
    have hyn : y.toNat ≠ (f.getD j 0).toNat := fun h => hy (UInt8.toNat_inj.1 h)
    have hgj : g.getD j 0 = y := by rw [← hg]; exact getD_set_eq hjl y
    have hj0 : j ≠ 0 := fun h => by subst h; rw [hgj] at hhd; omega
    have hj1 : j ≠ 1 := fun h => by subst h; rw [hgj] at hhd; omega
    have hj3 : j ≠ 3 := fun h => by subst h; rw [hgj] at hhd; omega
    by_cases h12 : 12 ≤ j ∧ j < 16
    · refine ⟨h12.1, h12.2, ?_⟩
      have hne : bodyN g ≠ bd.length := by
        intro h
        rw [← hbn] at h
        unfold bodyN at h
        have hh := numN_inj (by rw [List.length_take, List.length_take, List.length_drop, List.length_drop, hgl, hlen]) h
        have h1 : ((g.drop 12).take 4)[j - 12]? = some y := by
          rw [List.getElem?_take, if_pos (by omega), List.getElem?_drop, show 12 + (j - 12) = j by omega, ← hg, List.getElem?_set_self hjl]
        have h2 : ((f.drop 12).take 4)[j - 12]? = f[j]? := by
          rw [List.getElem?_take, if_pos (by omega), List.getElem?_drop, show 12 + (j - 12) = j by omega]
        rw [hh, h2] at h1
        exact hy (by rw [List.getD_eq_getElem?_getD, h1]; rfl)
      have : (rdB g 0).length ≤ bodyN g := by
        unfold rdB
        rw [if_pos hE]
        exact List.length_take_le _ _
      omega
    · exfalso
      have hbg : bodyN g = bd.length := by
        rw [← hbn]
        unfold bodyN
        congr 1
        refine List.ext_getElem? fun i => ?_
        rw [List.getElem?_take, List.getElem?_take]
        split
        · rw [List.getElem?_drop, List.getElem?_drop, ← hg, List.getElem?_set_ne (by omega)]
        · rfl
      rw [hbg] at hsum
      have hd4 : ((g.drop (bd.length + 16)).take 4).length = 4 := by rw [List.length_take, List.length_drop, hgl]; omega
      have hraw := (sealed_raw _ _ hd4).1 hsum
      rw [show (g.drop (bd.length + 16)).take 4 = g.drop (bd.length + 16) from List.take_of_length_le (by rw [List.length_drop, hgl]; omega), List.take_append_drop] at hraw
      rw [← hg, set_cut hjl] at hraw
      rw [self_cut hjl] at hsl
      refine burst_raw (f.take j) [f[j]] [y] (f.drop (j + 1)) rfl (by simp) ?_ 4294967295 (hsl.trans hraw.symm)
      intro h
      have := numN_inj (a := [f[j]]) (b := [y]) rfl h
      injection this with this
      exact hy (by rw [← this, List.getD_eq_getElem?_getD, List.getElem?_eq_getElem hjl]; rfl)
  · exact .inl hE
theorem zeros_none (z : Nat) : rdE (List.replicate z 0) 0 ≠ 0 := by
  have h : lenE (List.replicate z 0) ≠ 0 := by
    unfold lenE
    rw [List.length_replicate]
    split
    · decide
    · rename_i h
      have : ((List.replicate z (0 : UInt8)).getD 0 0).toNat = 0 := by
        rw [List.getD_eq_getElem?_getD, List.getElem?_replicate]; split <;> rfl
      rw [if_pos (.inl (by rw [this]; decide))]; decide
  unfold rdE
  rw [if_pos ⟨Int.le_refl 0, by omega⟩]
  show frE (List.replicate z 0) ≠ 0
  unfold frE
  rw [if_pos h]; exact h
end Go.Proofs.YtaenoonadodbnaaDoor
