/- Plain mathematics of volumes: what requests and pages make, byte by byte. -/
import Derived.Test.YtjilkaciopiabaaDoorF05p
namespace Go.Proofs.YtjilkaciopiabaaDoor
open Go.RowKit Go.Px
set_option linter.unusedVariables false
theorem getD_len {α : Type} {l : List α} {j : Nat} {x : α} (h : l.length ≤ j) : l.getD j x = x := by
  rw [List.getD_eq_getElem?_getD, List.getElem?_eq_none h]; rfl
theorem splB_getD {bs xs : List UInt8} {off : Nat} (h : off + xs.length ≤ bs.length) (j : Nat) : (splB bs off xs).getD j 0 = if off ≤ j ∧ j < off + xs.length then xs.getD (j - off) 0 else bs.getD j 0 := by
  unfold splB
  simp only [List.getD_eq_getElem?_getD]
  have h1 : (bs.take off).length = off := by rw [List.length_take]; omega
  by_cases c1 : j < off
  · rw [if_neg (by omega), List.append_assoc, List.getElem?_append_left (by omega), List.getElem?_take, if_pos c1]
  · by_cases c2 : j < off + xs.length
    · rw [if_pos ⟨by omega, c2⟩, List.getElem?_append_left (by simp [h1]; omega), List.getElem?_append_right (by omega), h1]
    · rw [if_neg (by omega), List.getElem?_append_right (by simp [h1]; omega), List.getElem?_drop]
      congr 2
      simp [h1]; omega
theorem stampL_getD (vs : List Int) (P : Nat) (num : Int) : ∀ M, P + M ≤ vs.length → ∀ i, (stampL vs P num M).getD i 0 = if P ≤ i ∧ i < P + M then num else vs.getD i 0
  | 0, _, i => by unfold stampL; rw [if_neg (by omega)]
  | M + 1, h, i => by
    have ih := stampL_getD vs P num M (by omega) i
    have hl := stampL_length vs P num M
    unfold stampL
    rw [List.getD_eq_getElem?_getD, List.getElem?_set]
    by_cases c : P + M = i
    · rw [if_pos c, if_pos (by omega), if_pos ⟨by omega, by omega⟩]; rfl
    · rw [if_neg c, ← List.getD_eq_getElem?_getD, ih]
      by_cases c1 : P ≤ i ∧ i < P + M
      · rw [if_pos c1, if_pos ⟨c1.1, by omega⟩]
      · rw [if_neg c1, if_neg (by omega)]
/-- What a request makes of a volume: nothing, or a run of blocks written and stamped. -/
theorem do_changes (b z : Nat) (bs : List UInt8) (vs : List Int) (last : Int) (k : Nat) (p n : Int) (ds os : List UInt8) (num : Int) :
    (doBE b z bs last k p n ds os num = bs ∧ doVE b z bs vs last k p n ds os num = vs) ∨
    ∃ P M xs, P + M ≤ b ∧ xs.length = M * z ∧ doBE b z bs last k p n ds os num = splB bs (P * z) xs ∧ doVE b z bs vs last k p n ds os num = stampL vs P num M ∧ serB num = true := by
  unfold doBE doVE
  by_cases hE : doE b z last k p n ds.length os.length num = 0
  · rw [if_pos hE, if_pos hE]
    unfold doB doV
    by_cases hW : doW b z bs k p n ds.length os = true
    · rw [if_pos hW, if_pos hW]
      have hn : serB num = true ∧ ¬ num < last := by
        unfold doE at hE
        split at hE
        · assumption
        · cases hE
      have hf : ftE b z k p n ds.length os.length = 0 := by
        unfold doE at hE
        rw [if_pos hn] at hE
        exact hE
      unfold doW at hW
      simp only [Bool.and_eq_true, decide_eq_true_eq, Bool.or_eq_true] at hW
      obtain ⟨hc, hk⟩ := hW
      obtain ⟨p1, n1, hg⟩ := fit_good hf hc
      refine .inr ⟨p.toNat, doN k n, doP z k n ds, ?_, ?_, rfl, rfl, hn.1⟩
      · unfold doN
        rcases hg with rfl | ⟨rfl, g1, g2, g3⟩ | ⟨hkk, g1, g2, g3, g4⟩
        · rcases hk with (h | h) | ⟨h, _⟩ <;> cases h
        · rw [if_pos rfl]; omega
        · rw [if_neg (by omega)]; omega
      · unfold doN doP
        rcases hg with rfl | ⟨rfl, g1, g2, g3⟩ | ⟨hkk, g1, g2, g3, g4⟩
        · rcases hk with (h | h) | ⟨h, _⟩ <;> cases h
        · show ds.length = 1 * z; omega
        · by_cases h3 : k = 3
          · subst h3; show (List.replicate (n.toNat * z) (0 : UInt8)).length = n.toNat * z; rw [List.length_replicate]
          · have h2 : k = 2 := by
              rcases hk with (h | h) | ⟨h, _⟩
              · exact h
              · exact absurd h h3
              · omega
            have := g4 h2
            rw [if_neg h3, if_neg (by omega)]
            obtain ⟨M, rfl⟩ := Int.eq_ofNat_of_zero_le n1
            have : ((ds.length : Nat) : Int) = ((M * z : Nat) : Int) := by rw [this]; simp
            show ds.length = M * z
            exact Int.ofNat_inj.1 this
    · rw [if_neg hW, if_neg hW]; exact .inl ⟨rfl, rfl⟩
  · rw [if_neg hE, if_neg hE]; exact .inl ⟨rfl, rfl⟩
theorem blk_out {i P M r z : Nat} (hr : r < z) : (P * z ≤ i * z + r ∧ i * z + r < P * z + M * z) ↔ P ≤ i ∧ i < P + M := by
  constructor
  · rintro ⟨h1, h2⟩
    constructor
    · rcases Nat.lt_or_ge i P with h | h
      · have := Nat.mul_le_mul_right z h
        rw [Nat.succ_mul] at this
        omega
      · exact h
    · rcases Nat.lt_or_ge i (P + M) with h | h
      · exact h
      · have := Nat.mul_le_mul_right z h
        rw [Nat.add_mul] at this
        omega
  · rintro ⟨h1, h2⟩
    have a1 := Nat.mul_le_mul_right z h1
    have a2 := Nat.mul_le_mul_right z h2
    rw [Nat.succ_mul, Nat.add_mul] at a2
    omega
/-- Since a number n: each block is as it was, or bears a later version. -/
def Since (b z : Nat) (n : Int) (bs : List UInt8) (vs : List Int) (bs' : List UInt8) (vs' : List Int) : Prop :=
  ∀ i, i < b → (vs'.getD i 0 = vs.getD i 0 ∧ ∀ r, r < z → bs'.getD (i * z + r) 0 = bs.getD (i * z + r) 0) ∨ n < vs'.getD i 0
theorem Since.refl (b z : Nat) (n : Int) (bs : List UInt8) (vs : List Int) : Since b z n bs vs bs vs := fun i hi => .inl ⟨rfl, fun r hr => rfl⟩
theorem Since.step {b z N : Nat} {n : Int} {bs0 : List UInt8} {vs0 : List Int} {bs : List UInt8} {vs : List Int} (h : Since b z n bs0 vs0 bs vs) (hb : bs.length = N) (hv : vs.length = b) (hN : b * z = N) (last : Int) (k : Nat) (p m : Int) (ds os : List UInt8) {num : Int} (hn : n < num) :
    Since b z n bs0 vs0 (doBE b z bs last k p m ds os num) (doVE b z bs vs last k p m ds os num) := by
  rcases do_changes b z bs vs last k p m ds os num with ⟨e1, e2⟩ | ⟨P, M, xs, hPM, hx, e1, e2, _⟩
  · rw [e1, e2]; exact h
  · rw [e1, e2]
    intro i hi
    rw [stampL_getD vs P num M (by omega)]
    by_cases c : P ≤ i ∧ i < P + M
    · rw [if_pos c]; exact .inr hn
    · rw [if_neg c]
      rcases h i hi with ⟨h1, h2⟩ | h1
      · refine .inl ⟨h1, fun r hr => ?_⟩
        have hfit : P * z + xs.length ≤ bs.length := by
          rw [hx, hb, ← hN, ← Nat.add_mul]; exact Nat.mul_le_mul_right z hPM
        rw [splB_getD hfit, hx, if_neg (by rw [blk_out hr]; exact c)]
        exact h2 r hr
      · exact .inr h1
theorem do_versions {b z : Nat} {bs : List UInt8} {vs : List Int} {last : Int} {k : Nat} {p m : Int} {ds os : List UInt8} {num n : Int} (hv : vs.length = b) (h : ∀ i, i < b → vs.getD i 0 ≤ n) (hn : n ≤ num) :
    ∀ i, i < b → (doVE b z bs vs last k p m ds os num).getD i 0 ≤ num := by
  rcases do_changes b z bs vs last k p m ds os num with ⟨e1, e2⟩ | ⟨P, M, xs, hPM, hx, e1, e2, _⟩
  · rw [e2]; intro i hi; have := h i hi; omega
  · rw [e2]
    intro i hi
    rw [stampL_getD vs P num M (by omega)]
    split
    · omega
    · have := h i hi; omega
/-- Pages laid: block by block. -/
theorem layB_length {z N : Nat} : ∀ (ps : List (Int × Int × List UInt8)) (bs : List UInt8), bs.length = N → (∀ p ∈ ps, p.1.toNat * z + p.2.2.length ≤ N) → (layB z bs ps).length = N
  | [], bs, h, _ => h
  | p :: r, bs, h, hp => layB_length r _ (by rw [splB_length (by rw [h]; exact hp p List.mem_cons_self)]; exact h) (fun q hq => hp q (List.mem_cons_of_mem _ hq))
theorem layB_snoc (z : Nat) (bs : List UInt8) (l : List (Int × Int × List UInt8)) (p : Int × Int × List UInt8) : layB z bs (l ++ [p]) = splB (layB z bs l) (p.1.toNat * z) p.2.2 := by unfold layB; rw [List.foldl_append, List.foldl_cons, List.foldl_nil]
theorem layV_snoc (vs : List Int) (l : List (Int × Int × List UInt8)) (p : Int × Int × List UInt8) : layV vs (l ++ [p]) = (layV vs l).set p.1.toNat p.2.1 := by unfold layV; rw [List.foldl_append, List.foldl_cons, List.foldl_nil]
theorem pg_laid {b z N : Nat} {n : Int} {bs bs' : List UInt8} {vs vs' : List Int} (hb : bs.length = N) (hb' : bs'.length = N) (hv : vs.length = b) (hN : b * z = N) : ∀ k, k ≤ b →
    (layB z bs (pgL z bs' vs' n k)).length = N ∧ (layV vs (pgL z bs' vs' n k)).length = b ∧
    (∀ i r, i < b → r < z → (layB z bs (pgL z bs' vs' n k)).getD (i * z + r) 0 = if i < k ∧ pgB vs' n i = true then bs'.getD (i * z + r) 0 else bs.getD (i * z + r) 0) ∧
    ∀ i, i < b → (layV vs (pgL z bs' vs' n k)).getD i 0 = if i < k ∧ pgB vs' n i = true then vs'.getD i 0 else vs.getD i 0
  | 0, _ => ⟨hb, hv, fun i r hi hr => by rw [if_neg (by omega)]; rfl, fun i hi => by rw [if_neg (by omega)]; rfl⟩
  | k + 1, hk => by
    obtain ⟨i1, i2, i3, i4⟩ := pg_laid (n := n) hb hb' hv hN k (by omega) (vs' := vs')
    have hsl : (segB bs' k 1 z).length = 1 * z := segB_length hb' hN (by omega)
    rw [Nat.one_mul] at hsl
    have hkz : k * z + z ≤ N := by
      rw [← hN]
      have := Nat.mul_le_mul_right z hk
      rw [Nat.succ_mul] at this
      exact this
    unfold pgL
    by_cases hp : pgB vs' n k = true
    · rw [if_pos hp, layB_snoc, layV_snoc]
      simp only [Int.toNat_natCast]
      refine ⟨by rw [splB_length (by omega)]; exact i1, by simp [i2], fun i r hi hr => ?_, fun i hi => ?_⟩
      · rw [splB_getD (by omega), hsl]
        have hout := blk_out (i := i) (P := k) (M := 1) hr
        rw [Nat.one_mul] at hout
        by_cases c : i = k
        · subst c
          rw [if_pos (hout.2 ⟨by omega, by omega⟩), if_pos ⟨by omega, hp⟩]
          unfold segB
          rw [List.getD_eq_getElem?_getD, List.getElem?_take, if_pos (by omega), List.getElem?_drop, ← List.getD_eq_getElem?_getD]
          congr 1
          omega
        · rw [if_neg (fun h => by have := hout.1 h; omega), i3 i r hi hr]
          by_cases c2 : i < k ∧ pgB vs' n i = true
          · rw [if_pos c2, if_pos ⟨by omega, c2.2⟩]
          · rw [if_neg c2, if_neg (fun h => c2 ⟨by omega, h.2⟩)]
      · rw [List.getD_eq_getElem?_getD, List.getElem?_set]
        by_cases c : k = i
        · subst c
          rw [if_pos rfl, if_pos (by omega), if_pos ⟨by omega, hp⟩]; rfl
        · rw [if_neg c, ← List.getD_eq_getElem?_getD, i4 i hi]
          by_cases c2 : i < k ∧ pgB vs' n i = true
          · rw [if_pos c2, if_pos ⟨by omega, c2.2⟩]
          · rw [if_neg c2, if_neg (fun h => c2 ⟨by omega, h.2⟩)]
    · rw [if_neg hp]
      refine ⟨i1, i2, fun i r hi hr => ?_, fun i hi => ?_⟩
      · rw [i3 i r hi hr]
        by_cases c2 : i < k ∧ pgB vs' n i = true
        · rw [if_pos c2, if_pos ⟨by omega, c2.2⟩]
        · rw [if_neg c2, if_neg (fun h => c2 ⟨by
            rcases Nat.lt_or_ge i k with h' | h'
            · exact h'
            · have : i = k := by omega
              subst this; exact absurd h.2 hp, h.2⟩)]
      · rw [i4 i hi]
        by_cases c2 : i < k ∧ pgB vs' n i = true
        · rw [if_pos c2, if_pos ⟨by omega, c2.2⟩]
        · rw [if_neg c2, if_neg (fun h => c2 ⟨by
            rcases Nat.lt_or_ge i k with h' | h'
            · exact h'
            · have : i = k := by omega
              subst this; exact absurd h.2 hp, h.2⟩)]
theorem ext_getD {α : Type} {l m : List α} {x : α} (hl : l.length = m.length) (h : ∀ j, j < l.length → l.getD j x = m.getD j x) : l = m := by
  apply List.ext_getElem hl
  intro j h1 h2
  have := h j h1
  rw [List.getD_eq_getElem?_getD, List.getD_eq_getElem?_getD, List.getElem?_eq_getElem h1, List.getElem?_eq_getElem h2] at this
  simpa using this
/-- The pages that were changed since a number make the later volume. -/
theorem pages_later {b z N : Nat} {n : Int} {bs bs' : List UInt8} {vs vs' : List Int} (hz : 1 ≤ z) (hn : 0 ≤ n) (hb : bs.length = N) (hb' : bs'.length = N) (hv : vs.length = b) (hv' : vs'.length = b) (hN : b * z = N) (hs : Since b z n bs vs bs' vs') (hle : ∀ i, i < b → vs.getD i 0 ≤ n) :
    layB z bs (pgL z bs' vs' n b) = bs' ∧ layV vs (pgL z bs' vs' n b) = vs' := by
  obtain ⟨i1, i2, i3, i4⟩ := pg_laid (n := n) (vs' := vs') hb hb' hv hN b (Nat.le_refl _)
  have key : ∀ i, i < b → pgB vs' n i = false → vs'.getD i 0 = vs.getD i 0 ∧ ∀ r, r < z → bs'.getD (i * z + r) 0 = bs.getD (i * z + r) 0 := fun i hi hp => by
    rcases hs i hi with h | h
    · exact h
    · unfold pgB at hp
      rw [decide_eq_true h, decide_eq_true (show 0 < vs'.getD i 0 by omega)] at hp
      cases hp
  constructor
  · apply ext_getD (x := 0) (by rw [i1, hb'])
    intro j hj
    rw [i1, ← hN] at hj
    have hi : j / z < b := Nat.div_lt_of_lt_mul (by rw [Nat.mul_comm]; exact hj)
    have hr : j % z < z := Nat.mod_lt _ (by omega)
    have e : j / z * z + j % z = j := by rw [Nat.mul_comm]; exact Nat.div_add_mod j z
    have := i3 (j / z) (j % z) hi hr
    rw [e] at this
    rw [this]
    by_cases hp : pgB vs' n (j / z) = true
    · rw [if_pos ⟨hi, hp⟩]
    · rw [if_neg (fun h => hp h.2)]
      have := (key _ hi (by simpa using hp)).2 (j % z) hr
      rw [e] at this
      exact this.symm
  · apply ext_getD (x := 0) (by rw [i2, hv'])
    intro j hj
    rw [i2] at hj
    rw [i4 j hj]
    by_cases hp : pgB vs' n j = true
    · rw [if_pos ⟨hj, hp⟩]
    · rw [if_neg (fun h => hp h.2)]
      exact (key _ hj (by simpa using hp)).1.symm
theorem mpA_snoc {b z : Int} {p : Int × Int × List UInt8} (h2 : ¬ b ≤ p.1) (h3 : serB p.2.1 = true) (h4 : (p.2.2.length : Int) = z) : ∀ (l : List (Int × Int × List UInt8)) (ah : Int), ah < p.1 → (∀ q ∈ l, q.1 < p.1) → mpA b z ah l = true → mpA b z ah (l ++ [p]) = true
  | [], ah, ha, _, _ => by rw [List.nil_append, mpA_yes ⟨by omega, h2, h3, h4⟩]; rfl
  | q :: r, ah, ha, hl, h => by
    rw [List.cons_append]
    by_cases hq : ¬ q.1 ≤ ah ∧ ¬ b ≤ q.1 ∧ serB q.2.1 = true ∧ (q.2.2.length : Int) = z
    · rw [mpA_yes hq] at h ⊢
      exact mpA_snoc h2 h3 h4 r q.1 (hl q List.mem_cons_self) (fun x hx => hl x (List.mem_cons_of_mem _ hx)) h
    · rw [mpA_no hq] at h; cases h
theorem pgL_places {z : Nat} {bs : List UInt8} {vs : List Int} {n : Int} : ∀ k, ∀ q ∈ pgL z bs vs n k, q.1 < (k : Int)
  | 0, q, h => by simp [pgL] at h
  | k + 1, q, h => by
    unfold pgL at h
    split at h
    · rcases List.mem_append.1 h with h | h
      · have := pgL_places k q h; omega
      · simp at h; subst h; show (k : Int) < _; omega
    · have := pgL_places k q h; omega
theorem pgL_may {b z N : Nat} {bs : List UInt8} {vs : List Int} {n : Int} (hb : bs.length = N) (hN : b * z = N) (hle : ∀ i, i < b → vs.getD i 0 ≤ 4611686018427387904) : ∀ k, k ≤ b → mpA b z (-1) (pgL z bs vs n k) = true
  | 0, _ => rfl
  | k + 1, hk => by
    unfold pgL
    split
    · rename_i hp
      unfold pgB at hp
      simp only [Bool.and_eq_true, decide_eq_true_eq] at hp
      have hsl : (segB bs k 1 z).length = 1 * z := segB_length hb hN (by omega)
      have := hle k (by omega)
      exact mpA_snoc (by show ¬ (b : Int) ≤ (k : Int); omega) (by unfold serB; simp only [decide_eq_true_eq]; omega) (by show ((segB bs k 1 z).length : Int) = z; rw [hsl]; omega) _ _ (by show (-1 : Int) < k; omega) (pgL_places k) (pgL_may hb hN hle k (by omega))
    · exact pgL_may hb hN hle k (by omega)
end Go.Proofs.YtjilkaciopiabaaDoor
