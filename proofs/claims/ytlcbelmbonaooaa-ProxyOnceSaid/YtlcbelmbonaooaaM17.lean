/- Stage 17: mathematics of tails: rows of entries, ledgers, tails, the best one, what a quorum had. -/
import Derived.Test.YtlcbelmbonaooaaB17
namespace Go.Proofs.Ytlcbelmbonaooaa
set_option maxRecDepth 20000
open Go.RowKit Go.Px
set_option linter.unusedVariables false
set_option linter.unusedSimpArgs false
/-! ### rows of entries -/
/-- The number of the first entry. -/
def num0 (l : List EntryD) : Int := (l.head?.map (·.2.1)).getD 0
/-- Is the entry at a place such as may be, with the number that its place asks? -/
def okAt (l : List EntryD) (k : Nat) : Bool := (l[k]?.map fun e => entryB e && (e.2.1 == num0 l + (k : Int))).getD true
def entsB (l : List EntryD) : Bool := (List.range l.length).all (okAt l)
theorem okAt_of {l : List EntryD} {k : Nat} {e : EntryD} (h : l[k]? = some e) : okAt l k = (entryB e && (e.2.1 == num0 l + (k : Int))) := by unfold okAt; rw [h]; rfl
theorem num0_of {l : List EntryD} {e : EntryD} (h : l[0]? = some e) : num0 l = e.2.1 := by
  cases l with
  | nil => cases h
  | cons f r => injection h with h; subst h; rfl
theorem entsB_ok {l : List EntryD} (h : ∀ k, k < l.length → okAt l k = true) : entsB l = true := by
  unfold entsB
  rw [List.all_eq_true]
  intro k hk
  exact h k (List.mem_range.1 hk)
theorem entsB_bad {l : List EntryD} {k : Nat} (hk : k < l.length) (h : okAt l k = false) : entsB l = false := by
  unfold entsB
  rw [List.all_eq_false]
  exact ⟨k, List.mem_range.2 hk, by rw [h]; decide⟩
theorem entsB_out {l : List EntryD} (h : entsB l = true) {k : Nat} {e : EntryD} (he : l[k]? = some e) : entryB e = true ∧ e.2.1 = num0 l + (k : Int) := by
  unfold entsB at h
  rw [List.all_eq_true] at h
  have := h k (List.mem_range.2 (List.getElem?_eq_some_iff.1 he).1)
  rw [okAt_of he, Bool.and_eq_true, beq_iff_eq] at this
  exact this
theorem entsB_nil : entsB [] = true := rfl
theorem entryB_num {e : EntryD} (h : entryB e = true) : 1 ≤ e.2.1 ∧ e.2.1 ≤ 4611686018427387904 := by
  unfold entryB at h
  rw [Bool.and_eq_true] at h
  exact serB_out h.1
/-! ### ledgers -/
def ledB (x : LedgerD) : Bool := stateB x.1 && (entsB x.2 && (x.2.isEmpty || (num0 x.2 == x.1.1 + 1)))
def ledE (x : LedgerD) : Int := if ledB x = true then 0 else 150
theorem ledE_ok {x : LedgerD} (h : ledB x = true) : ledE x = 0 := if_pos h
theorem ledE_no {x : LedgerD} (h : ledB x = false) : ledE x = 150 := if_neg (by rw [h]; decide)
def lastW (x : LedgerD) : Int := IntKind.i64.wrap (x.1.1 + (x.2.length : Int))
theorem ledB_out {x : LedgerD} (h : ledB x = true) : stateB x.1 = true ∧ entsB x.2 = true ∧ (x.2 ≠ [] → num0 x.2 = x.1.1 + 1) := by
  unfold ledB at h
  simp only [Bool.and_eq_true, Bool.or_eq_true, beq_iff_eq] at h
  refine ⟨h.1, h.2.1, fun hne => ?_⟩
  rcases h.2.2 with h | h
  · exact absurd (List.isEmpty_iff.1 h) hne
  · exact h
theorem stateB_num {x : StateD} (h : stateB x = true) : 0 ≤ x.1 ∧ x.1 ≤ 4611686018427387904 := by
  unfold stateB at h
  rw [Bool.and_eq_true] at h
  exact numB_out h.1
theorem ledB_num {x : LedgerD} (h : ledB x = true) {k : Nat} {e : EntryD} (he : x.2[k]? = some e) : e.2.1 = x.1.1 + 1 + (k : Int) := by
  obtain ⟨h1, h2, h3⟩ := ledB_out h
  have := (entsB_out h2 he).2
  rw [this, h3 (fun e0 => by rw [e0] at he; cases he)]
theorem ledB_last {x : LedgerD} (h : ledB x = true) : 0 ≤ x.1.1 + (x.2.length : Int) ∧ x.1.1 + (x.2.length : Int) ≤ 4611686018427387904 := by
  have hs := stateB_num (ledB_out h).1
  rcases Nat.eq_zero_or_pos x.2.length with h0 | h0
  · rw [h0]; omega
  · have he : x.2[x.2.length - 1]? = some (x.2[x.2.length - 1]'(by omega)) := List.getElem?_eq_getElem (by omega)
    have h1 := ledB_num h he
    have h2 := entryB_num (entsB_out (ledB_out h).2.1 he).1
    omega
theorem wrap_small {z : Int} (h : -9223372036854775808 ≤ z ∧ z ≤ 9223372036854775807) : IntKind.i64.wrap z = z := by rw [IntKind.wrap_i64]; omega
theorem lastW_ok {x : LedgerD} (h : ledB x = true) : lastW x = x.1.1 + (x.2.length : Int) := by
  have := ledB_last h
  exact wrap_small (by omega)
/-! ### tails -/
def tlL (t : TailD) : LedgerD := (t.2.2.2.1, t.2.2.2.2)
def tailB (t : TailD) : Bool := nodeB t.1 && (numB t.2.1 && (ledB (tlL t) && (decide (t.2.2.2.1.1 ≤ t.2.2.1) && decide (t.2.2.1 ≤ lastW (tlL t)))))
def tailE (t : TailD) : Int := if tailB t = true then 0 else 170
theorem tailE_ok {x : TailD} (h : tailB x = true) : tailE x = 0 := if_pos h
theorem tailE_no {x : TailD} (h : tailB x = false) : tailE x = 170 := if_neg (by rw [h]; decide)
theorem tailB_out {t : TailD} (h : tailB t = true) : nodeB t.1 = true ∧ numB t.2.1 = true ∧ ledB (tlL t) = true := by
  unfold tailB at h
  simp only [Bool.and_eq_true] at h
  exact ⟨h.1, h.2.1, h.2.2.1⟩
/-- Is a better than b? -/
def betB (a b : TailD) : Bool := decide (b.2.1 < a.2.1) || ((a.2.1 == b.2.1) && decide (lastW (tlL b) < lastW (tlL a)))
theorem betB_no {a b : TailD} (h : betB a b = false) : a.2.1 ≤ b.2.1 ∧ (a.2.1 = b.2.1 → lastW (tlL a) ≤ lastW (tlL b)) := by
  unfold betB at h
  simp only [Bool.or_eq_false_iff, decide_eq_false_iff_not, Bool.and_eq_false_iff, beq_eq_false_iff_ne] at h
  refine ⟨by omega, fun e => ?_⟩
  rcases h.2 with h2 | h2
  · exact absurd e h2
  · omega
def tl0 : TailD := (0, 0, 0, (0, (0, 0), [], [], (0, [])), [])
/-- The place of the first one than which none of the first k is better. -/
def bestK (l : List TailD) : Nat → Nat
  | 0 => 0
  | k + 1 => if betB (l.getD k tl0) (l.getD (bestK l k) tl0) = true then k else bestK l k
theorem bestK_lt (l : List TailD) : ∀ k, 0 < k → bestK l k < k
  | 0, h => absurd h (by omega)
  | 1, _ => by unfold bestK; split <;> (try unfold bestK) <;> omega
  | k + 2, _ => by
    have := bestK_lt l (k + 1) (by omega)
    rw [bestK]
    split <;> omega
theorem betB_self (a : TailD) : betB a a = false := by unfold betB; simp
theorem betB_yes {a b : TailD} (h : betB a b = true) : b.2.1 < a.2.1 ∨ (a.2.1 = b.2.1 ∧ lastW (tlL b) < lastW (tlL a)) := by
  unfold betB at h
  simpa only [Bool.or_eq_true, decide_eq_true_eq, Bool.and_eq_true, beq_iff_eq] using h
theorem betB_mk {a b : TailD} (h1 : a.2.1 ≤ b.2.1) (h2 : a.2.1 = b.2.1 → lastW (tlL a) ≤ lastW (tlL b)) : betB a b = false := by
  unfold betB
  simp only [Bool.or_eq_false_iff, decide_eq_false_iff_not, Bool.and_eq_false_iff, beq_eq_false_iff_ne]
  refine ⟨by omega, ?_⟩
  by_cases e : a.2.1 = b.2.1
  · have := h2 e
    exact .inr (by omega)
  · exact .inl e
theorem betB_step {j b k : TailD} (h1 : betB j b = false) (h2 : betB k b = true) : betB j k = false := by
  obtain ⟨h, h'⟩ := betB_no h1
  rcases betB_yes h2 with h3 | ⟨h3, h4⟩
  · exact betB_mk (by omega) (fun e => by omega)
  · refine betB_mk (by omega) (fun e => ?_)
    have := h' (by omega)
    omega
theorem bestK_top (l : List TailD) : ∀ k j, j < k → betB (l.getD j tl0) (l.getD (bestK l k) tl0) = false
  | 0, j, h => absurd h (by omega)
  | k + 1, j, h => by
    have ih := bestK_top l k
    rw [bestK]
    split
    · rename_i hb
      rcases Nat.lt_or_ge j k with h | h
      · exact betB_step (ih j h) hb
      · rw [show j = k by omega]; exact betB_self _
    · rename_i hb
      rcases Nat.lt_or_ge j k with h | h
      · exact ih j h
      · rw [show j = k by omega]; simpa using hb
/-- The best one's place, and the error. -/
def bestE (l : List TailD) : Nat × Int := if l = [] then (0, 1) else if l.all tailB = true then (bestK l l.length, 0) else (0, 170)
theorem bestE_nil : bestE [] = (0, 1) := rfl
theorem bestE_bad {l : List TailD} {k : Nat} {t : TailD} (h : l[k]? = some t) (hb : tailB t = false) : bestE l = (0, 170) := by
  unfold bestE
  rw [if_neg (fun e => by rw [e] at h; cases h), if_neg]
  intro ha
  rw [List.all_eq_true] at ha
  have := ha t (List.mem_of_getElem? h)
  rw [hb] at this
  cases this
theorem bestE_ok {l : List TailD} (hne : l ≠ []) (h : ∀ (k : Nat) (t : TailD), l[k]? = some t → tailB t = true) : bestE l = (bestK l l.length, 0) := by
  unfold bestE
  rw [if_neg hne, if_pos]
  rw [List.all_eq_true]
  intro t ht
  obtain ⟨k, hk, rfl⟩ := List.mem_iff_getElem.1 ht
  exact h k _ (List.getElem?_eq_getElem hk)
/-! ### the entry of a number -/
def atF (l : List EntryD) (num : Int) : Option EntryD := l.find? (fun e => e.2.1 == num)
def atK (l : List EntryD) (num : Int) (k : Nat) : Prop := ∀ j e, j < k → l[j]? = some e → e.2.1 ≠ num
theorem atF_none {l : List EntryD} {num : Int} (h : atK l num l.length) : atF l num = none := by
  unfold atF
  rw [List.find?_eq_none]
  intro e he
  obtain ⟨j, hj, rfl⟩ := List.mem_iff_getElem.1 he
  have := h j _ hj (List.getElem?_eq_getElem hj)
  simpa using this
theorem atF_some : ∀ {l : List EntryD} {num : Int} {k : Nat} {e : EntryD}, atK l num k → l[k]? = some e → e.2.1 = num → atF l num = some e
  | [], _, _, _, _, h, _ => by cases h
  | x :: r, num, 0, e, _, h, he => by
    injection h with h
    subst h
    unfold atF
    rw [List.find?_cons_of_pos (by simpa using he)]
  | x :: r, num, k + 1, e, hk, h, he => by
    have h0 := hk 0 x (by omega) rfl
    unfold atF
    rw [List.find?_cons_of_neg (by simpa using h0)]
    exact atF_some (k := k) (fun j y hj hy => hk (j + 1) y (by omega) (by simpa using hy)) (by simpa using h) he
theorem atF_out {l : List EntryD} {num : Int} {e : EntryD} (h : atF l num = some e) : e ∈ l ∧ e.2.1 = num := by
  unfold atF at h
  exact ⟨List.mem_of_find?_eq_some h, by simpa using List.find?_some h⟩
theorem atF_has {l : List EntryD} {num : Int} {k : Nat} {e : EntryD} (h : l[k]? = some e) (he : e.2.1 = num) : ∃ y, atF l num = some y := by
  cases hy : atF l num with
  | some y => exact ⟨y, rfl⟩
  | none =>
    unfold atF at hy
    rw [List.find?_eq_none] at hy
    have := hy e (List.mem_of_getElem? h)
    simp [he] at this
/-! ### what a quorum had -/
theorem eqE_eq {x y : EntryD} (h : eqE x y = true) : x = y := by
  obtain ⟨a, b, c, d, e, ⟨f, g, i, j, k⟩, m, n⟩ := x
  obtain ⟨a', b', c', d', e', ⟨f', g', i', j', k'⟩, m', n'⟩ := y
  unfold eqE eqO eqG eqB at h
  simp only [Bool.and_eq_true, beq_iff_eq, decide_eq_true_eq] at h
  obtain ⟨h1, h2, h3, h4, h5, ⟨h6, h7, h8, h9, h10⟩, h11, h12⟩ := h
  have h1 : a = a' := by exact_mod_cast h1
  have h6 : f = f' := by exact_mod_cast h6
  subst h1 h2 h3 h4 h5 h6 h7 h8 h9 h10 h11 h12
  rfl
def hasB (t : TailD) (e : EntryD) : Bool := ((atF t.2.2.2.2 e.2.1).map fun x => eqE x e).getD false
theorem hasB_out {t : TailD} {e : EntryD} (h : hasB t e = true) : atF t.2.2.2.2 e.2.1 = some e := by
  unfold hasB at h
  cases hx : atF t.2.2.2.2 e.2.1 with
  | none => rw [hx] at h; cases h
  | some x =>
    rw [hx] at h
    have : eqE x e = true := h
    rw [eqE_eq this]
theorem hasB_mk {t : TailD} {e : EntryD} (h : atF t.2.2.2.2 e.2.1 = some e) : hasB t e = true := by
  unfold hasB; rw [h]; exact eqE_self e
/-- Have logs with one Normal alike entries wherever both have one? -/
def Agree (l : List TailD) : Prop := ∀ (i k : Nat) (t u : TailD), k < i → l[i]? = some t → l[k]? = some u → t.2.1 = u.2.1 → ∀ x ∈ t.2.2.2.2, ∀ y, atF u.2.2.2.2 x.2.1 = some y → eqE y x = true
def KeptR (ms : List Int) (l : List TailD) (e : EntryD) (nodes : List Int) (least : Int) : Prop :=
  reachB ms nodes = true ∧ (∀ v ∈ nodes, ∃ t ∈ l, hasB t e = true ∧ t.1 = v ∧ least ≤ t.2.1) ∧ ∀ t ∈ l, least < t.2.1 → hasB t e = true ∨ e.2.1 ≤ t.2.2.2.1.1
theorem keeps17 {ms frm nodes : List Int} {least : Int} {l : List TailD} {e : EntryD} (hf : reachB ms frm = true) (hk : KeptR ms l e nodes least) (hA : Agree l) (hok : ∀ t ∈ l, tailB t = true)
    {sm : List TailD} (hs : sm = l.filter (fun t => inB frm t.1)) :
    ∃ b, b < sm.length ∧ bestE sm = (b, 0) ∧ (hasB (sm.getD b tl0) e = true ∨ e.2.1 ≤ (sm.getD b tl0).2.2.2.1.1) := by
  obtain ⟨h1, h2, h3⟩ := hk
  obtain ⟨k, hkl, hin, _⟩ := two_quorums h1 hf
  obtain ⟨t, ht, hte, htn, hlt⟩ := h2 _ (List.getElem_mem hkl)
  have hts : t ∈ sm := by
    rw [hs, List.mem_filter]
    exact ⟨ht, by rw [htn]; exact hin⟩
  have hne : sm ≠ [] := fun e => by rw [e] at hts; cases hts
  have hpos : 0 < sm.length := List.length_pos_iff.2 hne
  have hbl := bestK_lt sm sm.length hpos
  have hall : ∀ (k : Nat) (t : TailD), sm[k]? = some t → tailB t = true := fun k t hk => by
    have := List.mem_of_getElem? hk
    rw [hs, List.mem_filter] at this
    exact hok t this.1
  refine ⟨bestK sm sm.length, hbl, bestE_ok hne hall, ?_⟩
  obtain ⟨b, hb⟩ : ∃ b, sm.getD (bestK sm sm.length) tl0 = b := ⟨_, rfl⟩
  have hbm : b ∈ sm := by
    rw [← hb, List.getD_eq_getElem?_getD, List.getElem?_eq_getElem hbl]
    exact List.getElem_mem hbl
  have hbl' : b ∈ l := by
    rw [hs, List.mem_filter] at hbm
    exact hbm.1
  obtain ⟨j, hj, hjt⟩ := List.mem_iff_getElem.1 hts
  have htop := bestK_top sm sm.length j hj
  rw [hb, List.getD_eq_getElem?_getD, List.getElem?_eq_getElem hj, hjt, Option.getD_some] at htop
  obtain ⟨n1, n2⟩ := betB_no htop
  rw [hb]
  have hte' := hasB_out hte
  rcases Int.lt_or_le least b.2.1 with hlb | hlb
  · rcases h3 b hbl' hlb with h | h
    · exact .inl h
    · exact .inr h
  have heq : t.2.1 = b.2.1 := by omega
  by_cases hbn : e.2.1 ≤ b.2.2.2.1.1
  · exact .inr hbn
  refine .inl ?_
  have hlast := n2 heq
  obtain ⟨_, _, lt⟩ := tailB_out (hok t ht)
  obtain ⟨_, _, lb⟩ := tailB_out (hok b hbl')
  rw [lastW_ok lt, lastW_ok lb] at hlast
  obtain ⟨hem, _⟩ := atF_out hte'
  obtain ⟨q, hq, hqe⟩ := List.mem_iff_getElem.1 hem
  have hnum := ledB_num lt (k := q) (e := e) (by show t.2.2.2.2[q]? = _; rw [List.getElem?_eq_getElem hq, hqe])
  have hnum' : e.2.1 = t.2.2.2.1.1 + 1 + (q : Int) := hnum
  have hlast' : t.2.2.2.1.1 + (t.2.2.2.2.length : Int) ≤ b.2.2.2.1.1 + (b.2.2.2.2.length : Int) := hlast
  obtain ⟨r, hr⟩ : ∃ r : Nat, (r : Int) = e.2.1 - b.2.2.2.1.1 - 1 := ⟨(e.2.1 - b.2.2.2.1.1 - 1).toNat, by omega⟩
  have hrl : r < b.2.2.2.2.length := by omega
  have hy0 : b.2.2.2.2[r]? = some b.2.2.2.2[r] := List.getElem?_eq_getElem hrl
  have hyn := ledB_num lb (k := r) hy0
  have hyn' : (b.2.2.2.2[r]).2.1 = e.2.1 := by
    have : (b.2.2.2.2[r]).2.1 = b.2.2.2.1.1 + 1 + (r : Int) := hyn
    omega
  obtain ⟨y, hy⟩ := atF_has hy0 hyn'
  obtain ⟨hym, hyn2⟩ := atF_out hy
  suffices y = e by rw [this] at hy; exact hasB_mk hy
  obtain ⟨i1, hi1, hi1t⟩ := List.mem_iff_getElem.1 ht
  obtain ⟨i2, hi2, hi2b⟩ := List.mem_iff_getElem.1 hbl'
  have g1 : l[i1]? = some t := by rw [List.getElem?_eq_getElem hi1, hi1t]
  have g2 : l[i2]? = some b := by rw [List.getElem?_eq_getElem hi2, hi2b]
  rcases Nat.lt_trichotomy i1 i2 with h | h | h
  · have := hA i2 i1 b t h g2 g1 heq.symm y hym e (by rw [hyn2]; exact hte')
    exact (eqE_eq this).symm
  · subst h
    rw [g1] at g2
    injection g2 with g2
    subst g2
    rw [hte'] at hy
    injection hy with hy
    exact hy.symm
  · have := hA i1 i2 t b h g1 g2 heq e hem y hy
    exact eqE_eq this
end Go.Proofs.Ytlcbelmbonaooaa
