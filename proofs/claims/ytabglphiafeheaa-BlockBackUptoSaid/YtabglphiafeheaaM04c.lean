/- What is encoded is decoded; what is decoded is encoded. -/
import Derived.Test.YtabglphiafeheaaM04b
namespace Go.Proofs.Ytabglphiafeheaa
open Go.Px
theorem get_at (a c : List UInt8) (n v : Nat) (h1 : 1 ≤ n) (h8 : n ≤ 8) (hv : v < 256 ^ n) : getE (a ++ (leB n v ++ c)) a.length n = 0 ∧ getV (a ++ (leB n v ++ c)) a.length n = v := by
  have e : getE (a ++ (leB n v ++ c)) a.length n = 0 := long_get _ _ _ (by omega) (by omega) (by omega) (by simp [leB_length]; omega)
  refine ⟨e, ?_⟩
  unfold getV
  rw [if_pos e, Int.toNat_natCast, Int.toNat_natCast, List.drop_left, List.take_append_of_le_length (by rw [leB_length]; exact Nat.le_refl _), List.take_of_length_le (by rw [leB_length]; exact Nat.le_refl _)]
  exact numN_leB n v hv
theorem text_at (a c s : List UInt8) (hs : s.length ≤ 16777216) : textE (a ++ (textB s ++ c)) a.length = 0 ∧ textS (a ++ (textB s ++ c)) a.length = s ∧ textI (a ++ (textB s ++ c)) a.length = a.length + 4 + s.length := by
  have hg := get_at a (s ++ c) 4 s.length (by decide) (by decide) (by omega)
  rw [show a ++ (leB 4 s.length ++ (s ++ c)) = a ++ (textB s ++ c) by unfold textB; simp] at hg
  replace hg : getE (a ++ (textB s ++ c)) a.length 4 = 0 ∧ getV (a ++ (textB s ++ c)) a.length 4 = s.length := hg
  have hl : (a ++ (textB s ++ c)).length = a.length + (4 + s.length) + c.length := by unfold textB; simp [leB_length]; omega
  have hE : textE (a ++ (textB s ++ c)) a.length = 0 := by
    unfold textE
    rw [if_pos hg.1, hg.2, if_pos hs, if_pos (by rw [hl]; omega)]
  refine ⟨hE, ?_, ?_⟩
  · unfold textS
    rw [if_pos hE, hg.2, Int.toNat_natCast]
    have : (a ++ (textB s ++ c)).drop (a.length + 4) = s ++ c := by
      rw [← List.drop_drop, List.drop_left]
      unfold textB
      rw [List.append_assoc]
      exact List.drop_left' (leB_length 4 _)
    rw [this, List.take_left]
  · unfold textI
    rw [if_pos hE, hg.2]
theorem op_back (k p n : Nat) (ds os c : List UInt8) (hk : k < 256) (hf : fmE k p n ds.length os.length = 0) :
    opE (encB k p n ds os ++ c) = 0 ∧ opK (encB k p n ds os ++ c) = k ∧ opP (encB k p n ds os ++ c) = p ∧ opN (encB k p n ds os ++ c) = n ∧ opD (encB k p n ds os ++ c) = ds ∧ opO (encB k p n ds os ++ c) = os ∧ opT (encB k p n ds os ++ c) = (encB k p n ds os).length := by
  have hP : fmP k p n ds.length os.length := by
    unfold fmE at hf; split at hf
    · assumption
    · cases hf
  obtain ⟨⟨⟨_, p2⟩, ⟨_, n2⟩, d1, o1⟩, _⟩ := hP
  obtain ⟨bs, hbs⟩ : ∃ bs, encB k p n ds os ++ c = bs := ⟨_, rfl⟩
  have e0 := get_at [] (leB 4 p ++ (leB 4 n ++ (textB ds ++ (textB os ++ c)))) 1 k (by decide) (by decide) (by omega)
  have e1 := get_at [UInt8.ofNat k] (leB 4 n ++ (textB ds ++ (textB os ++ c))) 4 p (by decide) (by decide) (by omega)
  have e2 := get_at ([UInt8.ofNat k] ++ leB 4 p) (textB ds ++ (textB os ++ c)) 4 n (by decide) (by decide) (by omega)
  have e3 := text_at ([UInt8.ofNat k] ++ leB 4 p ++ leB 4 n) (textB os ++ c) ds (by omega)
  have e4 := text_at ([UInt8.ofNat k] ++ leB 4 p ++ leB 4 n ++ textB ds) c os (by omega)
  have b0 : leB 1 k = [UInt8.ofNat k] := by simp [leB, Nat.mod_eq_of_lt hk]
  have hle : ([UInt8.ofNat k] ++ leB 4 p ++ leB 4 n).length = 9 := by simp [leB_length]
  have hle2 : ([UInt8.ofNat k] ++ leB 4 p ++ leB 4 n ++ textB ds).length = 9 + 4 + ds.length := by rw [List.length_append, hle]; unfold textB; rw [List.length_append, leB_length]; omega
  have hle1 : ([UInt8.ofNat k] ++ leB 4 p).length = 5 := by simp [leB_length]
  have q0 : [] ++ (leB 1 k ++ (leB 4 p ++ (leB 4 n ++ (textB ds ++ (textB os ++ c))))) = bs := by rw [← hbs, b0]; unfold encB; simp
  have q1 : [UInt8.ofNat k] ++ (leB 4 p ++ (leB 4 n ++ (textB ds ++ (textB os ++ c)))) = bs := by rw [← hbs]; unfold encB; simp
  have q2 : [UInt8.ofNat k] ++ leB 4 p ++ (leB 4 n ++ (textB ds ++ (textB os ++ c))) = bs := by rw [← hbs]; unfold encB; simp
  have q3 : [UInt8.ofNat k] ++ leB 4 p ++ leB 4 n ++ (textB ds ++ (textB os ++ c)) = bs := by rw [← hbs]; unfold encB; simp
  have q4 : [UInt8.ofNat k] ++ leB 4 p ++ leB 4 n ++ textB ds ++ (textB os ++ c) = bs := by rw [← hbs]; unfold encB; simp
  rw [q0] at e0
  rw [q1] at e1
  rw [q2, hle1] at e2
  rw [q3, hle] at e3
  rw [q4, hle2] at e4
  have v0 : getV bs 0 1 = k := e0.2
  have v1 : getV bs 1 4 = p := e1.2
  have v2 : getV bs 5 4 = n := e2.2
  have x3 : textE bs 9 = 0 := e3.1
  have s3 : textS bs 9 = ds := e3.2.1
  have i3 : textI bs 9 = ((9 + 4 + ds.length : Nat) : Int) := by rw [show textI bs 9 = _ from e3.2.2]; omega
  have hlen : bs.length = 9 + (4 + ds.length) + (4 + os.length) + c.length := by
    rw [← hbs]; unfold encB textB; simp [leB_length]; omega
  have hx : opE bs = 0 := by
    unfold opE
    rw [if_neg (by omega), if_neg (by rw [x3]; decide), i3, if_neg (by rw [e4.1]; decide), v0, v1, v2, s3, e4.2.1, if_neg (by rw [hf]; decide)]
  obtain ⟨g1, g2, g3, g4, g5, g6⟩ := opE_yes hx
  rw [hbs]
  refine ⟨hx, g1.trans v0, g2.trans v1, g3.trans v2, g4.trans s3, ?_, ?_⟩
  · rw [g5, i3]; exact e4.2.1
  · rw [g6, i3, e4.2.2]
    unfold encB textB; simp [leB_length]; omega
theorem re_back (k : Nat) (ds c : List UInt8) (hk : k < 256) (hf : rsE k ds.length = 0) :
    reE (rencB k ds ++ c) = 0 ∧ reK (rencB k ds ++ c) = k ∧ reD (rencB k ds ++ c) = ds ∧ reT (rencB k ds ++ c) = (rencB k ds).length := by
  have hd : ds.length ≤ 262144 := by
    unfold rsE at hf; split at hf
    · rename_i h; unfold rsP at h; omega
    · cases hf
  obtain ⟨bs, hbs⟩ : ∃ bs, rencB k ds ++ c = bs := ⟨_, rfl⟩
  have e0 := get_at [] (textB ds ++ c) 1 k (by decide) (by decide) (by omega)
  have e3 := text_at [UInt8.ofNat k] c ds (by omega)
  have b0 : leB 1 k = [UInt8.ofNat k] := by simp [leB, Nat.mod_eq_of_lt hk]
  have q0 : [] ++ (leB 1 k ++ (textB ds ++ c)) = bs := by rw [← hbs, b0]; unfold rencB; simp
  have q3 : [UInt8.ofNat k] ++ (textB ds ++ c) = bs := by rw [← hbs]; unfold rencB; simp
  rw [q0] at e0
  rw [q3] at e3
  have v0 : getV bs 0 1 = k := e0.2
  have x3 : textE bs 1 = 0 := e3.1
  have s3 : textS bs 1 = ds := e3.2.1
  have i3 : textI bs 1 = 1 + 4 + ds.length := e3.2.2
  have hlen : bs.length = 1 + (4 + ds.length) + c.length := by
    rw [← hbs]; unfold rencB textB; simp [leB_length]; omega
  have hx : reE bs = 0 := by
    unfold reE
    rw [if_neg (by omega), if_neg (by rw [x3]; decide), v0, s3, if_neg (by rw [hf]; decide)]
  obtain ⟨g1, g2, g3⟩ := reE_yes hx
  rw [hbs]
  refine ⟨hx, g1.trans v0, g2.trans s3, ?_⟩
  rw [g3, i3]; unfold rencB textB; simp [leB_length]; omega
/-! ### only so -/
theorem get_le {bs : List UInt8} {i n : Nat} (h : getE bs i n = 0) : leB n (getV bs i n) = (bs.drop i).take n := by
  obtain ⟨_, _, _, _, hl⟩ := getE_zero h
  unfold getV
  rw [if_pos h, Int.toNat_natCast, Int.toNat_natCast]
  have hlen : ((bs.drop i).take n).length = n := by rw [List.length_take, List.length_drop]; omega
  have := leB_numN ((bs.drop i).take n)
  rwa [hlen] at this
theorem text_le {bs : List UInt8} {i : Nat} (h : textE bs i = 0) : textB (textS bs i) = (bs.drop i).take (4 + (textS bs i).length) := by
  have hb := textI_bd h
  have hg : getE bs i 4 = 0 := by
    unfold textE at h; split at h
    · assumption
    · rename_i hn; exact absurd h hn
  have hq : (textS bs i).length = getV bs i 4 := by
    have h4 := hb.2.2.2.1
    unfold textI at h4
    rw [if_pos h] at h4
    omega
  have h1 := get_le (n := 4) hg
  have h1' : leB 4 (getV bs i 4) = (bs.drop i).take 4 := h1
  unfold textB
  rw [hq, h1']
  have hS : textS bs i = (bs.drop (i + 4)).take (getV bs i 4) := by
    unfold textS; rw [if_pos h, Int.toNat_natCast]
  rw [hS, ← List.drop_drop, ← List.take_add]
theorem op_only {bs : List UInt8} (h : opE bs = 0) : 0 ≤ opT bs ∧ opT bs ≤ bs.length ∧ fmE (opK bs) (opP bs) (opN bs) (opD bs).length (opO bs).length = 0 ∧ encB (opK bs) (opP bs) (opN bs) (opD bs) (opO bs) = bs.take (opT bs).toNat := by
  obtain ⟨h9, e3, e4, hf⟩ := opE_ok h
  obtain ⟨g1, g2, g3, g4, g5, g6⟩ := opE_yes h
  have b3 := textI_bd e3
  have b4 := textI_bd e4
  obtain ⟨t, ht⟩ : ∃ t : Nat, textI bs 9 = t := ⟨(textI bs 9).toNat, by omega⟩
  rw [g1, g2, g3, g4, g5, g6]
  refine ⟨by omega, by omega, hf, ?_⟩
  rw [ht] at e4 b4 ⊢
  have p0 := get_le (bs := bs) (i := 0) (n := 1) (long_get bs 0 1 (by decide) (by decide) (by decide) (by omega))
  have p1 := get_le (bs := bs) (i := 1) (n := 4) (long_get bs 1 4 (by decide) (by decide) (by decide) (by omega))
  have p2 := get_le (bs := bs) (i := 5) (n := 4) (long_get bs 5 4 (by decide) (by decide) (by decide) (by omega))
  have p3 := text_le (bs := bs) (i := 9) e3
  have p4 := text_le (bs := bs) (i := t) e4
  have b0 : leB 1 (getV bs 0 1) = [UInt8.ofNat (getV bs 0 1)] := by simp [leB, Nat.mod_eq_of_lt (getV_1 bs 0)]
  have p0' : [UInt8.ofNat (getV bs 0 1)] = (bs.drop 0).take 1 := by rw [← b0]; exact p0
  have p1' : leB 4 (getV bs 1 4) = (bs.drop 1).take 4 := p1
  have p2' : leB 4 (getV bs 5 4) = (bs.drop 5).take 4 := p2
  have p3' : textB (textS bs 9) = (bs.drop 9).take (4 + (textS bs 9).length) := p3
  unfold encB
  rw [p0', p1', p2', p3', p4]
  have l3 : t = 9 + (4 + (textS bs 9).length) := by omega
  have l4 : (textI bs (t : Int)).toNat = t + (4 + (textS bs t).length) := by omega
  have j1 : (bs.drop 0).take 1 ++ ((bs.drop 1).take 4 ++ (bs.drop 5).take 4) = bs.take 9 := by
    rw [show bs.drop 5 = (bs.drop 1).drop 4 by rw [List.drop_drop], ← List.take_add, show bs.drop 1 = (bs.drop 0).drop 1 by rw [List.drop_drop], ← List.take_add]; rfl
  rw [j1, ← List.take_add, ← l3, ← List.take_add, ← l4]
theorem re_only {bs : List UInt8} (h : reE bs = 0) : 0 ≤ reT bs ∧ reT bs ≤ bs.length ∧ rsE (reK bs) (reD bs).length = 0 ∧ rencB (reK bs) (reD bs) = bs.take (reT bs).toNat := by
  obtain ⟨h9, e3, hf⟩ := reE_ok h
  obtain ⟨g1, g2, g3⟩ := reE_yes h
  have b3 := textI_bd e3
  rw [g1, g2, g3]
  refine ⟨by omega, by omega, hf, ?_⟩
  have p0 := get_le (bs := bs) (i := 0) (n := 1) (long_get bs 0 1 (by decide) (by decide) (by decide) (by omega))
  have p3 := text_le (bs := bs) (i := 1) e3
  have b0 : leB 1 (getV bs 0 1) = [UInt8.ofNat (getV bs 0 1)] := by simp [leB, Nat.mod_eq_of_lt (getV_1 bs 0)]
  have p0' : [UInt8.ofNat (getV bs 0 1)] = (bs.drop 0).take 1 := by rw [← b0]; exact p0
  have p3' : textB (textS bs 1) = (bs.drop 1).take (4 + (textS bs 1).length) := p3
  unfold rencB
  rw [p0', p3']
  have l3 : (textI bs 1).toNat = 1 + (4 + (textS bs 1).length) := by omega
  rw [show bs.drop 1 = (bs.drop 0).drop 1 by rw [List.drop_drop], ← List.take_add, l3]; rfl
end Go.Proofs.Ytabglphiafeheaa
