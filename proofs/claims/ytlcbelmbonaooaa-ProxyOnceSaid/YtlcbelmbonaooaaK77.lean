/- Texts joined (shake.py). -/
import Derived.Deep.QuietTactic
import Derived.BigQuiet
import Derived.WalkSpells
import Derived.Outline
import Derived.Deep.DeepFit
import Derived.Deep.RegionHeldLaw
import Derived.Maps.OwnSet
import Derived.Deep.Slices
import Derived.Maps.RangeWalk
import Derived.Deep.RegionLaw
import Derived.Shelf.SlGeneric
import Derived.Test.YtlcbelmbonaooaaProg
import Derived.Test.YtlcbelmbonaooaaK71
import Derived.Test.YtlcbelmbonaooaaK72
import Derived.Test.YtlcbelmbonaooaaK74
namespace Go.Proofs.Ytlcbelmbonaooaa
set_option maxRecDepth 20000
open Go.RowKit Go.Px Go.Maps
set_option linter.unusedVariables false
/-- An entry's value is what is read of it. -/
def rdV (v : Value) : Option (DataW Value × List MemPlace) := some (.held v, [])
/-- An entry: the last serial, how it ended. -/
abbrev entV (s : Int) (k : Nat) (A : Option Addr) (d dc : Nat) : Value := .agg #[.int .i64 s, .int .u8 k, .slice A d dc]
abbrev zeroE : Value := entV 0 0 none 0 0
abbrev TM := Int → Option (Int × Nat × List UInt8)
/-- What the map says of a client. -/
def EntIs (w : World) (B t bm : Nat) (D : DataW Value) (c : Int) : Option (Int × Nat × List UInt8) → Prop
  | none => Maps.has D (.int .i64 c) = false
  | some (s, k, bs) => Maps.has D (.int .i64 c) = true ∧ k < 256 ∧ ∃ A d dc, D.atKey (.int .i64 c) (.held zeroE) = .held (entV s k A d dc) ∧ bs.length = d ∧ d ≤ dc ∧ d ≤ 262144 ∧ dc ≤ 9223372036854775807 ∧ Rd w A (bys bs) ∧ ∀ a, A = some a → B ≤ a.block ∧ a.block ≠ t ∧ a.block ≠ bm
section
variable {w w' : World} {B t bm n : Nat} {D : DataW Value} {m : TM}
theorem EntIs.keep {c : Int} {o : Option (Int × Nat × List UInt8)} (h : EntIs w B t bm D c o) (hk : ∀ A xs, Rd w A xs → (∀ a, A = some a → B ≤ a.block ∧ a.block ≠ t ∧ a.block ≠ bm) → Rd w' A xs) : EntIs w' B t bm D c o := by
  cases o with
  | none => exact h
  | some x =>
    obtain ⟨s, k, bs⟩ := x
    obtain ⟨h0, hk8, A, d, dc, h1, h2, h3, h4, h5, h6, h7⟩ := h
    exact ⟨h0, hk8, A, d, dc, h1, h2, h3, h4, h5, hk _ _ h6 h7, h7⟩
end
end Go.Proofs.Ytlcbelmbonaooaa
namespace Go.Proofs.Ytlcbelmbonaooaa
set_option maxRecDepth 20000
open Go.RowKit Go.Px Go.Maps
set_option linter.unusedVariables false
/-- What a table knows behind a store. -/
def tmPut (m : TM) (c s : Int) (k : Nat) (bs : List UInt8) : TM := fun x => if x = c then some (s, k, bs) else m x
end Go.Proofs.Ytlcbelmbonaooaa
namespace Go.Proofs.Ytlcbelmbonaooaa
set_option maxRecDepth 20000
open Go.RowKit Go.Px Go.Maps
set_option linter.unusedVariables false
theorem tmPut_same (m : TM) (c s : Int) (k : Nat) (bs : List UInt8) : tmPut m c s k bs c = some (s, k, bs) := by unfold tmPut; rw [if_pos rfl]
theorem tmPut_other (m : TM) {c x : Int} (s : Int) (k : Nat) (bs : List UInt8) (h : x ≠ c) : tmPut m c s k bs x = m x := by unfold tmPut; rw [if_neg h]
end Go.Proofs.Ytlcbelmbonaooaa
namespace Go.Proofs.Ytlcbelmbonaooaa
set_option maxRecDepth 20000
open Go.RowKit Go.Px Go.Maps
set_option linter.unusedVariables false
/-- A request that is taken. -/
def Takes (m : TM) (c s : Int) (k d : Nat) : Prop := serB c = true ∧ serB s = true ∧ rsE k d = 0 ∧ d ≤ 262144 ∧ (m c = none ∨ ∃ s0 k0 b0, m c = some (s0, k0, b0) ∧ s0 < s)
abbrev Dne := List (Int × Int × Nat × List UInt8)
/-- Is there a later one of the same client? -/
def Later (L : Dne) (j : Nat) (c : Int) : Prop := ∃ j' e', j < j' ∧ L[j']? = some e' ∧ e'.1 = c
/-- What was done, and what the table knows of it. -/
def Dn (L : Dne) (m : TM) : Prop := ∀ (j : Nat) (e : Int × Int × Nat × List UInt8), L[j]? = some e → ∃ s k bs, m e.1 = some (s, k, bs) ∧ e.2.1 ≤ s ∧ (Later L j e.1 → e.2.1 < s) ∧ (¬ Later L j e.1 → (s, k, bs) = e.2)
theorem Dn.nil (m : TM) : Dn [] m := fun j e h => by simp at h
theorem Dn.push {L : Dne} {m : TM} (h : Dn L m) {c s : Int} {k d : Nat} {bs : List UInt8} (ht : Takes m c s k d) : Dn (L ++ [(c, s, k, bs)]) (tmPut m c s k bs) := by
  intro j e hj
  by_cases hlt : j < L.length
  · rw [List.getElem?_append_left hlt] at hj
    obtain ⟨s1, k1, b1, hm, hle, hl, hn⟩ := h j e hj
    by_cases hc : e.1 = c
    · have hls : e.2.1 < s := by
        rcases ht.2.2.2.2 with h0 | ⟨s0, k0, b0, h0, h1⟩
        · rw [hc] at hm; rw [h0] at hm; cases hm
        · rw [hc] at hm; rw [h0] at hm
          injection hm with hm
          injection hm with hm _
          omega
      refine ⟨s, k, bs, by rw [hc]; exact tmPut_same _ _ _ _ _, by omega, fun _ => hls, fun hno => absurd ⟨L.length, (c, s, k, bs), hlt, by simp, hc.symm⟩ hno⟩
    · have hiff : Later (L ++ [(c, s, k, bs)]) j e.1 ↔ Later L j e.1 := by
        constructor
        · rintro ⟨j', e', hj', he', hc'⟩
          by_cases hl' : j' < L.length
          · rw [List.getElem?_append_left hl'] at he'; exact ⟨j', e', hj', he', hc'⟩
          · have hj2 : j' = L.length := by have := (List.getElem?_eq_some_iff.1 he').1; simp at this; omega
            subst hj2
            simp at he'
            subst he'
            exact absurd hc'.symm hc
        · rintro ⟨j', e', hj', he', hc'⟩
          have hl' := (List.getElem?_eq_some_iff.1 he').1
          exact ⟨j', e', hj', by rw [List.getElem?_append_left hl']; exact he', hc'⟩
      exact ⟨s1, k1, b1, by rw [tmPut_other _ _ _ _ hc]; exact hm, hle, fun hL => hl (hiff.1 hL), fun hL => hn (fun hh => hL (hiff.2 hh))⟩
  · have hj2 : j = L.length := by have := (List.getElem?_eq_some_iff.1 hj).1; simp at this; omega
    subst hj2
    simp at hj
    subst hj
    refine ⟨s, k, bs, tmPut_same _ _ _ _ _, Int.le_refl _, fun hL => ?_, fun _ => rfl⟩
    obtain ⟨j', e', hj', he', _⟩ := hL
    have := (List.getElem?_eq_some_iff.1 he').1
    simp at this
    omega
theorem rd_loB {w w' : World} {B : Nat} {A : Option Addr} {bs : List UInt8} (hr : Rd w A (bys bs)) (hb : Below B w w') (hA : bs ≠ [] → ∀ a, A = some a → a.block < B) : Rd w' A (bys bs) := by
  cases bs with
  | nil => exact Rd.nil
  | cons x xs => exact hr.lo (hA (by simp)) hb
/-- The cells of the calls that were done. -/
def ClAt (w : World) (B : Nat) (cs : List Value) (j : Nat) (e : Int × Int × Nat × List UInt8) : Prop :=
  ∃ dn A d dc, cs[5 * j]? = some (.bool dn) ∧ cs[5 * j + 1]? = some (.int .i64 e.1) ∧ cs[5 * j + 2]? = some (.int .i64 e.2.1) ∧ cs[5 * j + 3]? = some (.int .u8 e.2.2.1) ∧ cs[5 * j + 4]? = some (.slice A d dc) ∧
    e.2.2.1 < 256 ∧ e.2.2.2.length = d ∧ Rd w A (bys e.2.2.2) ∧ serB e.1 = true ∧ serB e.2.1 = true ∧ (e.2.2.2 ≠ [] → ∀ a, A = some a → a.block < B)
def ClRows (w : World) (B : Nat) (cs : List Value) (L : Dne) : Prop := cs.length = 5 * L.length ∧ ∀ j e, L[j]? = some e → ClAt w B cs j e
theorem ClRows.nil {w : World} {B : Nat} : ClRows w B [] [] := ⟨rfl, fun j e h => by simp at h⟩
theorem ClRows.keep {w w' : World} {B : Nat} {cs : List Value} {L : Dne} (h : ClRows w B cs L) (hb : Below B w w') : ClRows w' B cs L :=
  ⟨h.1, fun j e he => by
    obtain ⟨dn, A, d, dc, h1, h2, h3, h4, h5, h6, h7, h8, h9, h10, h11⟩ := h.2 j e he
    exact ⟨dn, A, d, dc, h1, h2, h3, h4, h5, h6, h7, rd_loB h8 hb h11, h9, h10, h11⟩⟩
theorem ClRows.snoc {w : World} {B : Nat} {cs : List Value} {L : Dne} (h : ClRows w B cs L) {dn : Bool} {c s : Int} {k : Nat} {A : Option Addr} {d dc : Nat} {bs : List UInt8} (hk : k < 256) (hd : bs.length = d) (hr : Rd w A (bys bs)) (hc : serB c = true) (hs : serB s = true) (hA : bs ≠ [] → ∀ a, A = some a → a.block < B) :
    ClRows w B (cs ++ [.bool dn, .int .i64 c, .int .i64 s, .int .u8 k, .slice A d dc]) (L ++ [(c, s, k, bs)]) := by
  have hl := h.1
  refine ⟨by simp [hl]; omega, fun j e he => ?_⟩
  by_cases hlt : j < L.length
  · rw [List.getElem?_append_left hlt] at he
    obtain ⟨dn', A', d', dc', h1, h2, h3, h4, h5, h6⟩ := h.2 j e he
    exact ⟨dn', A', d', dc', by rw [List.getElem?_append_left (by omega)]; exact h1, by rw [List.getElem?_append_left (by omega)]; exact h2, by rw [List.getElem?_append_left (by omega)]; exact h3, by rw [List.getElem?_append_left (by omega)]; exact h4, by rw [List.getElem?_append_left (by omega)]; exact h5, h6⟩
  · have hj : j = L.length := by have := (List.getElem?_eq_some_iff.1 he).1; simp at this; omega
    subst hj
    simp at he
    subst he
    refine ⟨dn, A, d, dc, ?_, ?_, ?_, ?_, ?_, hk, hd, hr, hc, hs, hA⟩
    · rw [← hl]; simp
    · rw [← hl, List.getElem?_append_right (by omega), show cs.length + 1 - cs.length = 1 by omega]; rfl
    · rw [← hl, List.getElem?_append_right (by omega), show cs.length + 2 - cs.length = 2 by omega]; rfl
    · rw [← hl, List.getElem?_append_right (by omega), show cs.length + 3 - cs.length = 3 by omega]; rfl
    · rw [← hl, List.getElem?_append_right (by omega), show cs.length + 4 - cs.length = 4 by omega]; rfl
/-- What the entries point at lies apart from a block. -/
def Apart (D : DataW Value) (m : TM) (x : Option Nat) : Prop := ∀ c s k bs A d dc, m c = some (s, k, bs) → D.atKey (.int .i64 c) (.held zeroE) = .held (entV s k A d dc) → bs ≠ [] → ∀ a, A = some a → some a.block ≠ x
end Go.Proofs.Ytlcbelmbonaooaa
namespace Go.Proofs.Ytlcbelmbonaooaa
set_option maxRecDepth 20000
open Go.RowKit Go.Px Go.Maps Go.ChangeShapes Go.WideShapes Go.ChangeAt Go.Joins Go.Deep
set_option linter.unusedVariables false
abbrev RowT := Int × Int × Nat × List UInt8
/-- The cells of a row at place j of a row of rows; Q: which blocks its data may lie in. -/
def RwAt (w : World) (Q : Nat → Prop) (cs : List Value) (j : Nat) (e : RowT) : Prop :=
  ∃ A d dc, cs[4 * j]? = some (.int .i64 e.1) ∧ cs[4 * j + 1]? = some (.int .i64 e.2.1) ∧ cs[4 * j + 2]? = some (.int .u8 e.2.2.1) ∧ cs[4 * j + 3]? = some (.slice A d dc) ∧
    e.2.2.1 < 256 ∧ e.2.2.2.length = d ∧ d ≤ dc ∧ dc ≤ 9223372036854775807 ∧ Rd w A (bys e.2.2.2) ∧ (e.2.2.2 ≠ [] → ∀ a, A = some a → Q a.block)
def RwRows (w : World) (Q : Nat → Prop) (cs : List Value) (es : List RowT) : Prop := cs.length = 4 * es.length ∧ ∀ j e, es[j]? = some e → RwAt w Q cs j e
theorem RwRows.nil {w : World} {Q : Nat → Prop} : RwRows w Q [] [] := ⟨rfl, fun j e h => by simp at h⟩
theorem RwAt.keep {w w' : World} {Q Q' : Nat → Prop} {cs : List Value} {j : Nat} {e : RowT} (h : RwAt w Q cs j e) (hk : ∀ A xs, Rd w A xs → (∀ a, A = some a → Q a.block) → Rd w' A xs) (hQ : ∀ B, Q B → Q' B) : RwAt w' Q' cs j e := by
  obtain ⟨A, d, dc, h1, h2, h3, h4, h5, h6, h7, h8, h9, h10⟩ := h
  refine ⟨A, d, dc, h1, h2, h3, h4, h5, h6, h7, h8, ?_, fun hne a ha => hQ _ (h10 hne a ha)⟩
  cases he : e.2.2.2 with
  | nil => exact Rd.nil
  | cons x xs => rw [← he]; exact hk _ _ h9 (h10 (by rw [he]; simp))
theorem RwRows.keep {w w' : World} {Q Q' : Nat → Prop} {cs : List Value} {es : List RowT} (h : RwRows w Q cs es) (hk : ∀ A xs, Rd w A xs → (∀ a, A = some a → Q a.block) → Rd w' A xs) (hQ : ∀ B, Q B → Q' B) : RwRows w' Q' cs es :=
  ⟨h.1, fun j e he => (h.2 j e he).keep hk hQ⟩
theorem RwRows.below {w w' : World} {Q : Nat → Prop} {cs : List Value} {es : List RowT} (h : RwRows w Q cs es) (hb : Below w.heap.size w w') : RwRows w' Q cs es := h.keep (fun A xs hr _ => hr.below hb) (fun _ h => h)
theorem RwRows.snoc {w : World} {Q : Nat → Prop} {cs : List Value} {es : List RowT} (h : RwRows w Q cs es) {c s : Int} {k : Nat} {A : Option Addr} {d dc : Nat} {bs : List UInt8} (hk : k < 256) (hd : bs.length = d) (hdc : d ≤ dc) (hdm : dc ≤ 9223372036854775807) (hr : Rd w A (bys bs)) (hA : bs ≠ [] → ∀ a, A = some a → Q a.block) :
    RwRows w Q (cs ++ [.int .i64 c, .int .i64 s, .int .u8 k, .slice A d dc]) (es ++ [(c, s, k, bs)]) := by
  have hl := h.1
  refine ⟨by simp [hl]; omega, fun j e he => ?_⟩
  by_cases hlt : j < es.length
  · rw [List.getElem?_append_left hlt] at he
    obtain ⟨A', d', dc', h1, h2, h3, h4, h5⟩ := h.2 j e he
    exact ⟨A', d', dc', by rw [List.getElem?_append_left (by omega)]; exact h1, by rw [List.getElem?_append_left (by omega)]; exact h2, by rw [List.getElem?_append_left (by omega)]; exact h3, by rw [List.getElem?_append_left (by omega)]; exact h4, h5⟩
  · have hj : j = es.length := by have := (List.getElem?_eq_some_iff.1 he).1; simp at this; omega
    subst hj
    simp at he
    subst he
    refine ⟨A, d, dc, ?_, ?_, ?_, ?_, hk, hd, hdc, hdm, hr, hA⟩
    · rw [← hl]; simp
    · rw [← hl, List.getElem?_append_right (by omega), show cs.length + 1 - cs.length = 1 by omega]; rfl
    · rw [← hl, List.getElem?_append_right (by omega), show cs.length + 2 - cs.length = 2 by omega]; rfl
    · rw [← hl, List.getElem?_append_right (by omega), show cs.length + 3 - cs.length = 3 by omega]; rfl
theorem rd4_0 {w : World} {a : Addr} {cs : List Value} (hat : ∀ j u, cs[j]? = some u → w.cell? (a.add j) = some u) {k : Nat} {u : Value} (h : cs[4 * k]? = some u) : w.cell? (a.add (k * 4)) = some u := by
  rw [Nat.mul_comm]; exact hat _ _ h
theorem rd4_S {w : World} {a : Addr} {cs : List Value} (hat : ∀ j u, cs[j]? = some u → w.cell? (a.add j) = some u) {k i : Nat} {u : Value} (h : cs[4 * k + (i + 1)]? = some u) : w.cell? ⟨(a.add (k * 4)).block, (a.add (k * 4)).off + (i + 1), none⟩ = some u := by
  have := hat _ _ h
  have e : a.add (4 * k + (i + 1)) = ⟨(a.add (k * 4)).block, (a.add (k * 4)).off + (i + 1), none⟩ := by
    unfold Addr.add
    rw [if_neg (by omega)]
    split
    · rename_i h0
      rw [show 4 * k + (i + 1) = i + 1 by omega]
    · show (⟨a.block, a.off + (4 * k + (i + 1)), none⟩ : Addr) = ⟨a.block, a.off + k * 4 + (i + 1), none⟩
      rw [show a.off + (4 * k + (i + 1)) = a.off + k * 4 + (i + 1) by omega]
  rw [← e]; exact this
/-- A row's four cells, where a slice of rows begins at a. -/
theorem RwAt.cells {w w' : World} {Q : Nat → Prop} {cs : List Value} {j : Nat} {e : RowT} (h : RwAt w Q cs j e) {a : Addr} (hat : ∀ j u, cs[j]? = some u → w'.cell? (a.add j) = some u) :
    ∃ A d dc, w'.cell? (a.add (j * 4)) = some (.int .i64 e.1) ∧ w'.cell? ⟨(a.add (j * 4)).block, (a.add (j * 4)).off + 1, none⟩ = some (.int .i64 e.2.1) ∧ w'.cell? ⟨(a.add (j * 4)).block, (a.add (j * 4)).off + 2, none⟩ = some (.int .u8 e.2.2.1) ∧ w'.cell? ⟨(a.add (j * 4)).block, (a.add (j * 4)).off + 3, none⟩ = some (.slice A d dc) ∧
      e.2.2.1 < 256 ∧ e.2.2.2.length = d ∧ d ≤ dc ∧ dc ≤ 9223372036854775807 ∧ Rd w A (bys e.2.2.2) ∧ (e.2.2.2 ≠ [] → ∀ a, A = some a → Q a.block) := by
  obtain ⟨A, d, dc, h1, h2, h3, h4, h5⟩ := h
  exact ⟨A, d, dc, rd4_0 hat h1, rd4_S (i := 0) hat h2, rd4_S (i := 1) hat h3, rd4_S (i := 2) hat h4, h5⟩
theorem tRows : SlT Try.prog 53 124 4 48 := slT_mk Try.underlying53 (z := .agg #[.int .i64 0, .int .i64 0, .int .u8 0, .slice none 0 0]) (by kernel_rfl) rfl (by decide)
section
variable {H : Type} {enc : TypeId × Value → H}
end
/-! ### which rows may be a table's -/
/-- Is it right behind a client? -/
def okB (ahead : Int) (e : RowT) : Bool := decide (ahead < e.1) && (serB e.1 && (serB e.2.1 && (rsE e.2.2.1 e.2.2.2.length == 0)))
def okL : Int → List RowT → Bool
  | _, [] => true
  | a, e :: es => okB a e && okL e.1 es
def rowsB (es : List RowT) : Bool := decide (es.length ≤ 64) && okL 0 es
theorem okB_out {a : Int} {e : RowT} (h : okB a e = true) : a < e.1 ∧ serB e.1 = true ∧ serB e.2.1 = true ∧ rsE e.2.2.1 e.2.2.2.length = 0 := by
  unfold okB at h
  simp only [Bool.and_eq_true, decide_eq_true_eq, beq_iff_eq] at h
  exact h
end Go.Proofs.Ytlcbelmbonaooaa
namespace Go.Proofs.Ytlcbelmbonaooaa
set_option maxRecDepth 20000
open Go.RowKit Go.Px Go.Maps
set_option linter.unusedVariables false
theorem okL_step {a : Int} {e : RowT} {es : List RowT} (h : okB a e = true) : okL a (e :: es) = okL e.1 es := by
  show (okB a e && okL e.1 es) = _
  rw [h, Bool.true_and]
theorem okL_no {a : Int} {e : RowT} {es : List RowT} (h : okB a e = false) : okL a (e :: es) = false := by
  show (okB a e && okL e.1 es) = _
  rw [h, Bool.false_and]
theorem drop_cons {α : Type} {l : List α} {k : Nat} {x : α} (h : l[k]? = some x) : l.drop k = x :: l.drop (k + 1) := by
  have hk : k < l.length := (List.getElem?_eq_some_iff.1 h).1
  rw [List.drop_eq_getElem_cons hk]
  rw [List.getElem?_eq_getElem hk] at h
  injection h with h
  rw [h]
theorem okB_mk {a c s : Int} {k : Nat} {bs : List UInt8} {d : Nat} (hd : bs.length = d) (h1 : ¬ c ≤ a) (h2 : serB c = true) (h3 : serB s = true) (h4 : rsE k d = 0) : okB a (c, s, k, bs) = true := by
  unfold okB
  simp only [h2, h3, hd, h4]
  simp; omega
theorem okB_no1 {a c s : Int} {k : Nat} {bs : List UInt8} (h1 : c ≤ a) : okB a (c, s, k, bs) = false := by
  unfold okB
  rw [decide_eq_false (by show ¬ a < c; omega)]; rfl
theorem okB_no2 {a c s : Int} {k : Nat} {bs : List UInt8} (h1 : serB c = false) : okB a (c, s, k, bs) = false := by
  unfold okB
  simp only [h1]; simp
theorem okB_no3 {a c s : Int} {k : Nat} {bs : List UInt8} (h1 : serB s = false) : okB a (c, s, k, bs) = false := by
  unfold okB
  simp only [h1]; simp
theorem okB_no4 {a c s : Int} {k : Nat} {bs : List UInt8} {d : Nat} (hd : bs.length = d) (h1 : rsE k d ≠ 0) : okB a (c, s, k, bs) = false := by
  unfold okB
  simp only [hd]
  rw [show (rsE k d == 0) = false by simpa using h1]; simp
set_option maxHeartbeats 3200000 in
theorem mayRows_any (A : Option Addr) (n c : Nat) (cs : List Value) (es : List RowT) (Q : Nat → Prop) (w : World) (hn : es.length = n) (hr : Rd w A cs) (hE : RwRows w Q cs es) :
    Calls Try.prog 89 #[.slice A n c] w fun e w' => e = .returned (.bool (rowsB es)) ∧ Below w.heap.size w w' := by
  by_cases h64 : n ≤ 64
  case neg =>
    have hf := hide (show rowsB es = false by unfold rowsB; rw [hn, decide_eq_false h64]; rfl)
    go_enter Try.func89, Try.ntmps89
    go_wp2
    go_ret
    exact ⟨by rw [hf.out]; rfl, Below.refl _ _⟩
  have hrb : rowsB es = okL 0 es := by unfold rowsB; rw [hn, decide_eq_true h64]; rfl
  have hl := hE.1
  go_enter Try.func89, Try.ntmps89
  go_wp2
  go_loopw [3, 11] (fun a i wr => ∃ (k : Nat) (ah : Int), k ≤ n ∧ i = .int .i64 k ∧ a = .int .i64 ah ∧ rowsB es = okL ah (es.drop k) ∧ Below w.heap.size w wr) (fun _ i _ => n - (intOf i).toNat)
  case atStart => exact ⟨0, 0, by omega, rfl, rfl, hrb, Below.refl _ _⟩
  case round =>
    obtain ⟨k, ah, hk, rfl, rfl, hm, hB⟩ := hrel
    by_cases hlt : k < n
    · obtain ⟨e, he⟩ : ∃ e, es[k]? = some e := ⟨_, List.getElem?_eq_getElem (by omega)⟩
      obtain ⟨a, rfl, hat⟩ := (hr.below hB).some_of (xs := cs) (by omega)
      obtain ⟨A', d, dc, y0, y1, y2, y3, hk8, hd, hdc, hdm, hrd, hq⟩ := ((hE.below hB).2 k e he).cells hat
      rw [drop_cons he] at hm
      obtain ⟨cl, s, kd, bs⟩ := e
      simp only at y0 y1 y2 hk8 hd hrd hq
      clear hq hat he hrd
      have Hd := hide hd
      clear hd
      have hb1 : ∀ X, Below wr.heap.size wr X → Below w.heap.size w X := fun X hX => hB.trans (hX.mono hB.size)
      have Hb := hide hb1
      clear hb1
      obtain ⟨wa, hwa⟩ : ∃ x, wr.alloc (.cells #[.int .i64 cl, .int .i64 s, .int .u8 kd, .slice A' d dc] 124) = x := ⟨_, rfl⟩
      obtain ⟨g, hg⟩ : ∃ x, wr.heap.size = x := ⟨_, rfl⟩
      have hS : Blk wa g [.int .i64 cl, .int .i64 s, .int .u8 kd, .slice A' d dc] 124 := by rw [← hwa, ← hg]; exact Blk.new wr [.int .i64 cl, .int .i64 s, .int .u8 kd, .slice A' d dc] _
      have hba : Below wr.heap.size wr wa := by rw [← hwa]; exact (Below.refl _ _).alloc (Nat.le_refl _) _
      have Hwa := hide hwa
      clear hwa
      by_cases c1 : cl ≤ ah
      · have hf := hide (hm.trans (okL_no (okB_no1 c1)))
        clear hm
        go_wp2
        go_ret
        exact ⟨by rw [hf.out]; rfl, Hb.out _ (by rw [Hwa.out]; exact hba)⟩
      · go_wp2_with fail
        rw [Hwa.out]
        go_fit (serial_any cl _)
        cases c2 : serB cl with
        | false =>
          have hf := hide (hm.trans (okL_no (okB_no2 c2)))
          clear hm c2
          rintro x w1 ⟨rfl, rfl⟩
          go_wp2
          go_ret
          exact ⟨by rw [hf.out]; rfl, Hb.out _ hba⟩
        | true =>
          rintro x w1 ⟨rfl, rfl⟩
          have s0 := hS.cell (j := 0) rfl
          have s1 := hS.cell (j := 1) rfl
          have s2 := hS.cell (j := 2) rfl
          have s3 := hS.cell (j := 3) rfl
          go_wp2_with fail
          go_fit (serial_any s _)
          cases c3 : serB s with
          | false =>
            have hf := hide (hm.trans (okL_no (okB_no3 c3)))
            clear hm c3
            rintro x w1 ⟨rfl, rfl⟩
            go_wp2
            go_ret
            exact ⟨by rw [hf.out]; rfl, Hb.out _ hba⟩
          | true =>
            rintro x w1 ⟨rfl, rfl⟩
            go_wp2_with fail
            go_fit (result_any kd A' d dc _ hk8)
            obtain ⟨R, hRR⟩ : ∃ R, rsE kd d = R := ⟨_, rfl⟩
            by_cases c4 : R = 0
            · have hf := hide (hm.trans (okL_step (okB_mk Hd.out (by omega) c2 c3 (hRR.trans c4))))
              rw [hRR]
              subst c4
              clear hm c2 c3 hRR
              rintro x w2 ⟨rfl, hb2⟩
              have hb02 := hba.trans (hb2.mono hba.size)
              have z0 := (hS.below hb2).cell (j := 0) rfl
              go_wp2
              go_roundw
              case rel => exact ⟨k + 1, cl, by omega, by go_num, rfl, hf.out, Hb.out _ hb02⟩
              case measure => simp [intOf]; omega
            · have hf := hide (hm.trans (okL_no (okB_no4 Hd.out (by rw [hRR]; exact c4))))
              rw [hRR]
              have q4 : (R != 0) = true := by simpa using c4
              clear hm c2 c3 hRR c4
              rintro x w2 ⟨rfl, hb2⟩
              have hb02 := hba.trans (hb2.mono hba.size)
              go_wp2
              go_ret
              exact ⟨by rw [hf.out]; rfl, Hb.out _ hb02⟩
    · obtain rfl : k = n := by omega
      have hf := hide (show rowsB es = true by rw [hm, List.drop_eq_nil_of_le (by omega)]; rfl)
      clear hm
      go_wp2
      go_ret
      exact ⟨by rw [hf.out]; rfl, hB⟩
theorem number6_any (n : Int) (w : World) : Calls Try.prog 100 #[.int .i64 n] w fun e w' => e = .returned (.bool (serB n)) ∧ w = w' := by
  by_cases h1 : 1 ≤ n
  · by_cases h2 : n ≤ 4611686018427387904
    · have H := hide (show serB n = true from decide_eq_true ⟨h1, h2⟩)
      go_enter Try.func100, Try.ntmps100
      go_wp2
      go_ret
      exact ⟨by rw [H.out]; rfl, rfl⟩
    · have H := hide (show serB n = false from decide_eq_false (by omega))
      go_enter Try.func100, Try.ntmps100
      go_wp2
      go_ret
      exact ⟨by rw [H.out]; rfl, rfl⟩
  · have H := hide (show serB n = false from decide_eq_false (by omega))
    go_enter Try.func100, Try.ntmps100
    go_wp2
    go_ret
    exact ⟨by rw [H.out]; rfl, rfl⟩
end Go.Proofs.Ytlcbelmbonaooaa
namespace Go.Proofs.Ytlcbelmbonaooaa
set_option maxRecDepth 20000
open Go.RowKit Go.Px Go.Maps
set_option linter.unusedVariables false
set_option maxRecDepth 20000 in
set_option maxHeartbeats 3200000 in
theorem right_any (A : Option Addr) (n c : Nat) (cs : List Value) (es : List RowT) (Q : Nat → Prop) (w : World) (hn : es.length = n) (hr : Rd w A cs) (hE : RwRows w Q cs es) :
    Calls Try.prog 96 #[.slice A n c] w fun e w' => e = .returned (.bool (rowsB es)) ∧ Below w.heap.size w w' := by
  by_cases h64 : n ≤ 64
  case neg =>
    have hf := hide (show rowsB es = false by unfold rowsB; rw [hn, decide_eq_false h64]; rfl)
    go_enter Try.func96, Try.ntmps96
    go_wp2
    go_ret
    exact ⟨by rw [hf.out]; rfl, Below.refl _ _⟩
  have hrb : rowsB es = okL 0 es := by unfold rowsB; rw [hn, decide_eq_true h64]; rfl
  have hl := hE.1
  go_enter Try.func96, Try.ntmps96
  go_wp2
  go_loopw [3] (fun i wr => ∃ (k : Nat) (ah : Int), k ≤ n ∧ i = .int .i64 k ∧ (∀ j e, k = j + 1 → es[j]? = some e → ah = e.1) ∧ (k = 0 → ah = 0) ∧ rowsB es = okL ah (es.drop k) ∧ Below w.heap.size w wr) (fun i _ => n - (intOf i).toNat)
  case atStart => exact ⟨0, 0, by omega, rfl, fun j e h => by omega, fun _ => rfl, hrb, Below.refl _ _⟩
  case round =>
    obtain ⟨k, ah, hk, rfl, hah, hah0, hm, hB⟩ := hrel
    by_cases hlt : k < n
    · obtain ⟨e, he⟩ : ∃ e, es[k]? = some e := ⟨_, List.getElem?_eq_getElem (by omega)⟩
      obtain ⟨a, rfl, hat⟩ := (hr.below hB).some_of (xs := cs) (by omega)
      obtain ⟨A', d, dc, y0, y1, y2, y3, hk8, hd, hdc, hdm, hrd, hq⟩ := ((hE.below hB).2 k e he).cells hat
      rw [drop_cons he] at hm
      have hnx : ∀ j e', k + 1 = j + 1 → es[j]? = some e' → e.1 = e'.1 := fun j e' hj he' => by
        obtain rfl : j = k := by omega
        rw [he] at he'; injection he' with he'; rw [he']
      have Hnx := hide hnx
      have hkI : (k : Int) < (n : Int) := by omega
      have z0 : ∀ x : InC (fun W => Below wr.heap.size wr W), x.W.cell? (a.add (k * 4)) = some (.int .i64 e.1) := fun x => below_cell x.h y0
      have z1 : ∀ x : InC (fun W => Below wr.heap.size wr W), x.W.cell? ⟨(a.add (k * 4)).block, (a.add (k * 4)).off + 1, none⟩ = some (.int .i64 e.2.1) := fun x => below_cell x.h y1
      have z2 : ∀ x : InC (fun W => Below wr.heap.size wr W), x.W.cell? ⟨(a.add (k * 4)).block, (a.add (k * 4)).off + 2, none⟩ = some (.int .u8 e.2.2.1) := fun x => below_cell x.h y2
      have z3 : ∀ x : InC (fun W => Below wr.heap.size wr W), x.W.cell? ⟨(a.add (k * 4)).block, (a.add (k * 4)).off + 3, none⟩ = some (.slice A' d dc) := fun x => below_cell x.h y3
      obtain ⟨cl, s, kd, bs⟩ := e
      simp only at z0 z1 z2 hk8 hd hrd hq
      clear hq hrd y0 y1 y2 y3 hnx
      have Hd := hide hd
      clear hd
      have hb1 : ∀ X, Below wr.heap.size wr X → Below w.heap.size w X := fun X hX => hB.trans (hX.mono hB.size)
      have Hb := hide hb1
      clear hb1
      have HN := hide number6_any
      cases c2 : serB cl with
      | false =>
        have hf := hide (hm.trans (okL_no (okB_no2 c2)))
        have Hc2 := hide c2
        clear hm hah hah0 c2 he
        go_wp2_with fail
        refine wp_region_in (fun W => Below wr.heap.size wr W) (Below.refl _ _).drew (by kernel_rfl) (by kernel_rfl) ?_
        repeat (go_big_quiet_step (first
          | (go_at_call_of 100 (Value.int .i64 cl); have hh := HN.out cl; rw [Hc2.out] at hh; exact Calls.in_same (hh _))))
        refine wpQuiet_nil ?_
        intro _ hw'
        obtain ⟨nq, hw''⟩ := hw'
        subst hw''
        have hbq := nq.h
        go_wp2
        go_ret
        exact ⟨by rw [hf.out]; rfl, Hb.out _ hbq⟩
      | true =>
        have Hc2 := hide c2
        cases c3 : serB s with
        | false =>
          have hf := hide (hm.trans (okL_no (okB_no3 c3)))
          have Hc3 := hide c3
          clear hm hah hah0 c2 c3 he
          go_wp2_with fail
          refine wp_region_in (fun W => Below wr.heap.size wr W) (Below.refl _ _).drew (by kernel_rfl) (by kernel_rfl) ?_
          repeat (go_big_quiet_step (first
            | (go_at_call_of 100 (Value.int .i64 cl); have hh := HN.out cl; rw [Hc2.out] at hh; exact Calls.in_same (hh _))
            | (go_at_call_of 100 (Value.int .i64 s); have hh := HN.out s; rw [Hc3.out] at hh; exact Calls.in_same (hh _))))
          refine wpQuiet_nil ?_
          intro _ hw'
          obtain ⟨nq, hw''⟩ := hw'
          subst hw''
          have hbq := nq.h
          go_wp2
          go_ret
          exact ⟨by rw [hf.out]; rfl, Hb.out _ hbq⟩
        | true =>
          have Hc3 := hide c3
          by_cases hk0 : k = 0
          · obtain rfl := hah0 hk0
            have g1 : decide (0 < k) = false := decide_eq_false (by omega)
            have hah1 : ¬ cl ≤ 0 := by have := serB_out c2; omega
            have Hk0 := hide hk0
            clear hah hah0 he hk0
            obtain ⟨R, hRR⟩ : ∃ R, rsE kd d = R := ⟨_, rfl⟩
            by_cases c4 : R = 0
            · have hf := hide (hm.trans (okL_step (okB_mk Hd.out hah1 c2 c3 (hRR.trans c4))))
              have Hc4 := hide (hRR.trans c4)
              subst c4
              clear hm c2 c3 hRR
              go_wp2_with fail
              refine wp_region_in (fun W => Below wr.heap.size wr W) (Below.refl _ _).drew (by kernel_rfl) (by kernel_rfl) ?_
              repeat (go_big_quiet_step (first
                | (go_at_call_of 100 (Value.int .i64 cl); have hh := HN.out cl; rw [Hc2.out] at hh; exact Calls.in_same (hh _))
                | (go_at_call_of 100 (Value.int .i64 s); have hh := HN.out s; rw [Hc3.out] at hh; exact Calls.in_same (hh _))
                | (go_at_call 76; have hh := fun W => rresult_any kd A' d dc W hk8; rw [Hc4.out] at hh; exact Calls.in_below (hh _))))
              refine wpQuiet_nil ?_
              intro _ hw'
              obtain ⟨nq, hw''⟩ := hw'
              subst hw''
              have hbq := nq.h
              go_wp2
              go_roundw
              case rel => exact ⟨k + 1, cl, by omega, by go_num, Hnx.out, fun h0 => by omega, hf.out, Hb.out _ hbq⟩
              case measure => simp [intOf]; omega
            · have hf := hide (hm.trans (okL_no (okB_no4 Hd.out (by rw [hRR]; exact c4))))
              have Hc4 := hide hRR
              have q4 : (R != 0) = true := by simpa using c4
              clear hm c2 c3 hRR c4
              go_wp2_with fail
              refine wp_region_in (fun W => Below wr.heap.size wr W) (Below.refl _ _).drew (by kernel_rfl) (by kernel_rfl) ?_
              repeat (go_big_quiet_step (first
                | (go_at_call_of 100 (Value.int .i64 cl); have hh := HN.out cl; rw [Hc2.out] at hh; exact Calls.in_same (hh _))
                | (go_at_call_of 100 (Value.int .i64 s); have hh := HN.out s; rw [Hc3.out] at hh; exact Calls.in_same (hh _))
                | (go_at_call 76; have hh := fun W => rresult_any kd A' d dc W hk8; rw [Hc4.out] at hh; exact Calls.in_below (hh _))))
              refine wpQuiet_nil ?_
              intro _ hw'
              obtain ⟨nq, hw''⟩ := hw'
              subst hw''
              have hbq := nq.h
              go_wp2
              go_ret
              exact ⟨by rw [hf.out]; rfl, Hb.out _ hbq⟩
          · obtain ⟨e1, he1⟩ : ∃ e, es[k - 1]? = some e := ⟨_, List.getElem?_eq_getElem (by omega)⟩
            have hae := hah (k - 1) e1 (by omega) he1
            subst hae
            have g1 : decide (0 < k) = true := decide_eq_true (by omega)
            have g2 : (0 : Int) < (k : Int) := by omega
            obtain ⟨_, _, _, y4, _⟩ := ((hE.below hB).2 (k - 1) e1 he1).cells hat
            have z4 : ∀ x : InC (fun W => Below wr.heap.size wr W), x.W.cell? (a.add ((k - 1) * 4)) = some (.int .i64 e1.1) := fun x => below_cell x.h y4
            have g3 : ((k : Int) - 1).toNat = k - 1 := by omega
            have g4 : IntKind.i64.wrap ((k : Int) - 1) = (k : Int) - 1 := IntWalk.i64_in _ (by omega)
            have g5 : (0 : Int) ≤ (k : Int) - 1 := by omega
            have g6 : (k : Int) - 1 < (n : Int) := by omega
            obtain ⟨ah, _⟩ := e1
            simp only at z4 hm
            clear hah hah0 he he1 y4 hk0
            by_cases c1 : cl ≤ ah
            · have hf := hide (hm.trans (okL_no (okB_no1 c1)))
              clear hm c2 c3
              go_wp2_with fail
              refine wp_region_in (fun W => Below wr.heap.size wr W) (Below.refl _ _).drew (by kernel_rfl) (by kernel_rfl) ?_
              repeat (go_big_quiet_step (first
                | (go_at_call_of 100 (Value.int .i64 cl); have hh := HN.out cl; rw [Hc2.out] at hh; exact Calls.in_same (hh _))
                | (go_at_call_of 100 (Value.int .i64 s); have hh := HN.out s; rw [Hc3.out] at hh; exact Calls.in_same (hh _))))
              refine wpQuiet_nil ?_
              intro _ hw'
              obtain ⟨nq, hw''⟩ := hw'
              subst hw''
              have hbq := nq.h
              go_wp2
              go_ret
              exact ⟨by rw [hf.out]; rfl, Hb.out _ hbq⟩
            · have g7 : decide (cl ≤ ah) = false := decide_eq_false c1
              have hah1 := c1
              clear c1
              obtain ⟨R, hRR⟩ : ∃ R, rsE kd d = R := ⟨_, rfl⟩
              by_cases c4 : R = 0
              · have hf := hide (hm.trans (okL_step (okB_mk Hd.out hah1 c2 c3 (hRR.trans c4))))
                have Hc4 := hide (hRR.trans c4)
                subst c4
                clear hm c2 c3 hRR hah1
                go_wp2_with fail
                refine wp_region_in (fun W => Below wr.heap.size wr W) (Below.refl _ _).drew (by kernel_rfl) (by kernel_rfl) ?_
                repeat (go_big_quiet_step (first
                  | (go_at_call_of 100 (Value.int .i64 cl); have hh := HN.out cl; rw [Hc2.out] at hh; exact Calls.in_same (hh _))
                  | (go_at_call_of 100 (Value.int .i64 s); have hh := HN.out s; rw [Hc3.out] at hh; exact Calls.in_same (hh _))
                  | (go_at_call 76; have hh := fun W => rresult_any kd A' d dc W hk8; rw [Hc4.out] at hh; exact Calls.in_below (hh _))))
                refine wpQuiet_nil ?_
                intro _ hw'
                obtain ⟨nq, hw''⟩ := hw'
                subst hw''
                have hbq := nq.h
                go_wp2
                go_roundw
                case rel => exact ⟨k + 1, cl, by omega, by go_num, Hnx.out, fun h0 => by omega, hf.out, Hb.out _ hbq⟩
                case measure => simp [intOf]; omega
              · have hf := hide (hm.trans (okL_no (okB_no4 Hd.out (by rw [hRR]; exact c4))))
                have Hc4 := hide hRR
                have q4 : (R != 0) = true := by simpa using c4
                clear hm c2 c3 hRR hah1 c4
                go_wp2_with fail
                refine wp_region_in (fun W => Below wr.heap.size wr W) (Below.refl _ _).drew (by kernel_rfl) (by kernel_rfl) ?_
                repeat (go_big_quiet_step (first
                  | (go_at_call_of 100 (Value.int .i64 cl); have hh := HN.out cl; rw [Hc2.out] at hh; exact Calls.in_same (hh _))
                  | (go_at_call_of 100 (Value.int .i64 s); have hh := HN.out s; rw [Hc3.out] at hh; exact Calls.in_same (hh _))
                  | (go_at_call 76; have hh := fun W => rresult_any kd A' d dc W hk8; rw [Hc4.out] at hh; exact Calls.in_below (hh _))))
                refine wpQuiet_nil ?_
                intro _ hw'
                obtain ⟨nq, hw''⟩ := hw'
                subst hw''
                have hbq := nq.h
                go_wp2
                go_ret
                exact ⟨by rw [hf.out]; rfl, Hb.out _ hbq⟩
    · obtain rfl : k = n := by omega
      have hf := hide (show rowsB es = true by rw [hm, List.drop_eq_nil_of_le (by omega)]; rfl)
      clear hm
      go_wp2
      go_ret
      exact ⟨by rw [hf.out]; rfl, hB⟩
end Go.Proofs.Ytlcbelmbonaooaa
namespace Go.Proofs.Ytlcbelmbonaooaa
set_option maxRecDepth 20000
open Go.RowKit Go.Px Go.Maps Go.Shelf Go.Lib Go.Sort
set_option linter.unusedVariables false
/-- A row of the table's, as it lies in memory; its client is one. -/
structure RowE where
  c : Int
  s : Int
  k : Nat
  A : Option Addr
  d : Nat
  dc : Nat
  h : 1 ≤ c ∧ c ≤ 4611686018427387904
instance : Inhabited RowE := ⟨⟨1, 0, 0, none, 0, 0, by omega⟩⟩
def encR (x : RowE) : List Value := [.int .i64 x.c, .int .i64 x.s, .int .u8 x.k, .slice x.A x.d x.dc]
/-- What the rows made so far are: each is what the table says of its client. -/
def RowOk (w : World) (Q : Nat → Prop) (m : TM) (x : RowE) : Prop :=
  ∃ bs, m x.c = some (x.s, x.k, bs) ∧ x.k < 256 ∧ bs.length = x.d ∧ x.d ≤ x.dc ∧ x.dc ≤ 9223372036854775807 ∧ Rd w x.A (bys bs) ∧ (bs ≠ [] → ∀ a, x.A = some a → Q a.block)
theorem RowOk.keep {w w' : World} {Q Q' : Nat → Prop} {m : TM} {x : RowE} (h : RowOk w Q m x) (hk : ∀ A xs, Rd w A xs → (∀ a, A = some a → Q a.block) → Rd w' A xs) (hQ : ∀ b, Q b → Q' b) : RowOk w' Q' m x := by
  obtain ⟨bs, h1, h2, h3, h4, h5, h6, h7⟩ := h
  refine ⟨bs, h1, h2, h3, h4, h5, ?_, fun hne a ha => hQ _ (h7 hne a ha)⟩
  cases bs with
  | nil => exact Rd.nil
  | cons b bs => exact hk _ _ h6 (h7 (by simp))
/-- What the loop over the map has made. -/
structure LoopR (w0 wr : World) (t bm r n : Nat) (D : DataW Value) (m : TM) (o : Value) (left : Lit → Bool) (cnt : Nat) (ds : List RowE) : Prop where
  rng : wr.ranges Try.prog 3 rdV bm r n D left cnt
  own : wr.ownsRow w0.heap.size 124 4 o ds.length (ds.flatMap encR)
  ok : ∀ x ∈ ds, RowOk wr (fun b => w0.heap.size ≤ b ∧ b < wr.heap.size ∧ b ≠ r ∧ some b ≠ o.ownBlock) m x
  gone : ∀ x ∈ ds, left (.int .i64 x.c) = false
  all : ∀ c y, m c = some y → left (.int .i64 c) = false → ∃ x ∈ ds, x.c = c
  sub : ∀ kl, left kl = true → Maps.has D kl = true
  nd : ds.Pairwise (fun x y => x.c ≠ y.c)
  len : ds.length + cnt ≤ Maps.size D
  bel : Below w0.heap.size w0 wr
  ne : o ≠ .slice none 0 0
  sep : some r ≠ o.ownBlock
  hr : w0.heap.size ≤ r
end Go.Proofs.Ytlcbelmbonaooaa
namespace Go.Proofs.Ytlcbelmbonaooaa
set_option maxRecDepth 20000
open Go.RowKit Go.Px Go.Maps
set_option linter.unusedVariables false
theorem okL_out : ∀ (es : List RowT) (a : Int), okL a es = true → (∀ e ∈ es, a < e.1 ∧ serB e.1 = true ∧ serB e.2.1 = true ∧ rsE e.2.2.1 e.2.2.2.length = 0) ∧ es.Pairwise (fun x y => x.1 < y.1)
  | [], a, _ => ⟨fun e h => by simp at h, List.Pairwise.nil⟩
  | x :: xs, a, h => by
    have h' : okB a x = true ∧ okL x.1 xs = true := by
      have : (okB a x && okL x.1 xs) = true := h
      simpa using this
    obtain ⟨h1, h2⟩ := okL_out xs x.1 h'.2
    have h3 := okB_out h'.1
    refine ⟨fun e he => ?_, List.pairwise_cons.2 ⟨fun y hy => (h1 y hy).1, h2⟩⟩
    rcases List.mem_cons.1 he with rfl | he
    · exact h3
    · obtain ⟨q1, q2⟩ := h1 e he
      exact ⟨by have := h3.1; omega, q2⟩
theorem rowsB_out {es : List RowT} (h : rowsB es = true) : es.length ≤ 64 ∧ (∀ e ∈ es, serB e.1 = true ∧ serB e.2.1 = true ∧ rsE e.2.2.1 e.2.2.2.length = 0) ∧ es.Pairwise (fun x y => x.1 < y.1) := by
  unfold rowsB at h
  rw [Bool.and_eq_true, decide_eq_true_eq] at h
  obtain ⟨h1, h2⟩ := okL_out es 0 h.2
  exact ⟨h.1, fun e he => (h1 e he).2, h2⟩
end Go.Proofs.Ytlcbelmbonaooaa
namespace Go.Proofs.Ytlcbelmbonaooaa
set_option maxRecDepth 20000
open Go.RowKit Go.Px Go.Maps
set_option linter.unusedVariables false
theorem Apart.none {D : DataW Value} {m : TM} : Apart D m none := fun c s k bs A d dc _ _ _ a _ e => by cases e
end Go.Proofs.Ytlcbelmbonaooaa
namespace Go.Proofs.Ytlcbelmbonaooaa
set_option maxRecDepth 20000
open Go.RowKit Go.Px Go.Maps
set_option linter.unusedVariables false
def sameB (a b : List RowT) : Bool := decide (a = b)
theorem take_one {a b : List RowT} {k : Nat} {x y : RowT} (h : a.take k = b.take k) (ha : a[k]? = some x) (hb : b[k]? = some y) (e : x = y) : a.take (k + 1) = b.take (k + 1) := by
  rw [List.take_add_one, List.take_add_one, h, ha, hb, e]
theorem same_no {a b : List RowT} {k : Nat} {x y : RowT} (ha : a[k]? = some x) (hb : b[k]? = some y) (e : x ≠ y) : sameB a b = false := by
  refine decide_eq_false fun h => e ?_
  rw [h, hb] at ha
  injection ha with ha
  exact ha.symm
theorem eqR_iff {k k' : Nat} {ds ds' : List UInt8} : eqR k ds k' ds' = true ↔ k = k' ∧ ds = ds' := by
  unfold eqR
  rw [Bool.and_eq_true, beq_iff_eq, beq_iff_eq]
  constructor
  · rintro ⟨h1, h2⟩; exact ⟨by omega, h2⟩
  · rintro ⟨h1, h2⟩; exact ⟨by omega, h2⟩
set_option maxRecDepth 20000 in
set_option maxHeartbeats 3200000 in
theorem rsame6_any (A : Option Addr) (n c : Nat) (cs : List Value) (es : List RowT) (Q : Nat → Prop) (A' : Option Addr) (n' c' : Nat) (cs' : List Value) (es' : List RowT) (Q' : Nat → Prop) (w : World) (hn : es.length = n) (hr : Rd w A cs) (hE : RwRows w Q cs es) (hn' : es'.length = n') (hr' : Rd w A' cs') (hE' : RwRows w Q' cs' es') (h63 : n ≤ 9223372036854775807) :
    Calls Try.prog 84 #[.slice A n c, .slice A' n' c'] w fun e w' => e = .returned (.bool (sameB es es')) ∧ Below w.heap.size w w' := by
  by_cases hnn : n = n'
  case neg =>
    have hf := hide (show sameB es es' = false from decide_eq_false (fun h => hnn (by rw [← hn, ← hn', h])))
    have q : ((n : Int) != (n' : Int)) = true := by simp; omega
    clear hnn
    go_enter Try.func84, Try.ntmps84
    go_wp2
    go_ret
    exact ⟨by rw [hf.out]; rfl, Below.refl _ _⟩
  subst hnn
  have hl := hE.1
  have hl' := hE'.1
  have Hn := hide hn
  have Hn' := hide hn'
  clear hn hn'
  go_enter Try.func84, Try.ntmps84
  go_wp2
  go_loopw [5] (fun i wr => ∃ (k : Nat), k ≤ n ∧ i = .int .i64 k ∧ es.take k = es'.take k ∧ Below w.heap.size w wr) (fun i _ => n - (intOf i).toNat)
  case atStart => exact ⟨0, by omega, rfl, rfl, Below.refl _ _⟩
  case round =>
    obtain ⟨k, hk, rfl, htk, hB⟩ := hrel
    by_cases hlt : k < n
    · obtain ⟨x, hx⟩ : ∃ e, es[k]? = some e := ⟨_, List.getElem?_eq_getElem (by rw [Hn.out]; exact hlt)⟩
      obtain ⟨y, hy⟩ : ∃ e, es'[k]? = some e := ⟨_, List.getElem?_eq_getElem (by rw [Hn'.out]; exact hlt)⟩
      obtain ⟨a, rfl, hat⟩ := (hr.below hB).some_of (xs := cs) (by have := Hn.out; omega)
      obtain ⟨a', rfl, hat'⟩ := (hr'.below hB).some_of (xs := cs') (by have := Hn'.out; omega)
      obtain ⟨D, d, dc, y0, y1, y2, y3, hk8, hd, hdc, hdm, hrd, hq⟩ := ((hE.below hB).2 k x hx).cells hat
      obtain ⟨D', d', dc', y0', y1', y2', y3', hk8', hd', hdc', hdm', hrd', hq'⟩ := ((hE'.below hB).2 k y hy).cells hat'
      have hkI : (k : Int) < (n : Int) := by omega
      have htk1 := hide (fun e => take_one htk hx hy e)
      have hno := hide (fun e => same_no hx hy e)
      obtain ⟨x1, x2, x3, x4⟩ := x
      obtain ⟨z1, z2, z3, z4⟩ := y
      simp only at y0 y1 y2 y0' y1' y2' hd hd' hrd hrd'
      have c0 : ∀ x : InC (fun W => Below wr.heap.size wr W), x.W.cell? (a.add (k * 4)) = some (.int .i64 x1) := fun x => below_cell x.h y0
      have c1 : ∀ x : InC (fun W => Below wr.heap.size wr W), x.W.cell? ⟨(a.add (k * 4)).block, (a.add (k * 4)).off + 1, none⟩ = some (.int .i64 x2) := fun x => below_cell x.h y1
      have c2 : ∀ x : InC (fun W => Below wr.heap.size wr W), x.W.cell? ⟨(a.add (k * 4)).block, (a.add (k * 4)).off + 2, none⟩ = some (.int .u8 x3) := fun x => below_cell x.h y2
      have c3 : ∀ x : InC (fun W => Below wr.heap.size wr W), x.W.cell? ⟨(a.add (k * 4)).block, (a.add (k * 4)).off + 3, none⟩ = some (.slice D d dc) := fun x => below_cell x.h y3
      have d0 : ∀ x : InC (fun W => Below wr.heap.size wr W), x.W.cell? (a'.add (k * 4)) = some (.int .i64 z1) := fun x => below_cell x.h y0'
      have d1 : ∀ x : InC (fun W => Below wr.heap.size wr W), x.W.cell? ⟨(a'.add (k * 4)).block, (a'.add (k * 4)).off + 1, none⟩ = some (.int .i64 z2) := fun x => below_cell x.h y1'
      have d2 : ∀ x : InC (fun W => Below wr.heap.size wr W), x.W.cell? ⟨(a'.add (k * 4)).block, (a'.add (k * 4)).off + 2, none⟩ = some (.int .u8 z3) := fun x => below_cell x.h y2'
      have d3 : ∀ x : InC (fun W => Below wr.heap.size wr W), x.W.cell? ⟨(a'.add (k * 4)).block, (a'.add (k * 4)).off + 3, none⟩ = some (.slice D' d' dc') := fun x => below_cell x.h y3'
      have Hd := hide hd
      have Hd' := hide hd'
      have Hrd := hide (fun (x : InC (fun W => Below wr.heap.size wr W)) => hrd.below x.h)
      have Hrd' := hide (fun (x : InC (fun W => Below wr.heap.size wr W)) => hrd'.below x.h)
      have Hb := hide (show ∀ X, Below wr.heap.size wr X → Below w.heap.size w X from fun X hX => hB.trans (hX.mono hB.size))
      clear y0 y1 y2 y3 y0' y1' y2' y3' hq hq' hd hd' hrd hrd' htk hx hy hat hat'
      by_cases e1 : x1 = z1
      case neg =>
        have q1 : (x1 != z1) = true := by simpa using e1
        have hf := hide (hno.out (fun h => e1 (congrArg Prod.fst h)))
        clear e1
        go_wp2_with fail
        refine wp_region_in (fun W => Below wr.heap.size wr W) (Below.refl _ _).drew (by kernel_rfl) (by kernel_rfl) ?_
        repeat (go_big_quiet_step (fail))
        refine wpQuiet_nil ?_
        intro _ hw'
        obtain ⟨nq, hw''⟩ := hw'
        subst hw''
        have hbq := nq.h
        go_wp2
        go_ret
        exact ⟨by rw [hf.out]; rfl, Hb.out _ hbq⟩
      have q1 : (x1 != z1) = false := by simpa using e1
      by_cases e2 : x2 = z2
      case neg =>
        have q2 : (x2 != z2) = true := by simpa using e2
        have hf := hide (hno.out (fun h => e2 (congrArg (fun p => p.2.1) h)))
        clear e1 e2
        go_wp2_with fail
        refine wp_region_in (fun W => Below wr.heap.size wr W) (Below.refl _ _).drew (by kernel_rfl) (by kernel_rfl) ?_
        repeat (go_big_quiet_step (fail))
        refine wpQuiet_nil ?_
        intro _ hw'
        obtain ⟨nq, hw''⟩ := hw'
        subst hw''
        have hbq := nq.h
        go_wp2
        go_ret
        exact ⟨by rw [hf.out]; rfl, Hb.out _ hbq⟩
      have q2 : (x2 != z2) = false := by simpa using e2
      have HS := hide (fun (x : InC (fun W => Below wr.heap.size wr W)) => rsames_any x3 D d dc x4 z3 D' d' dc' z4 x.W Hd.out Hd'.out (Hrd.out x) (Hrd'.out x))
      cases e3 : eqR x3 x4 z3 z4 with
      | false =>
        have hf := hide (hno.out (fun h => by
          have h3 := congrArg (fun p => p.2.2) h
          simp only at h3
          injection h3 with h4 h5
          rw [eqR_iff.2 ⟨h4, h5⟩] at e3
          cases e3))
        have He3 := hide e3
        clear e1 e2 e3
        go_wp2_with fail
        refine wp_region_in (fun W => Below wr.heap.size wr W) (Below.refl _ _).drew (by kernel_rfl) (by kernel_rfl) ?_
        repeat (go_big_quiet_step (first
          | (go_at_call 24; have hh := HS.out; rw [He3.out] at hh; exact Calls.in_below (hh _))))
        refine wpQuiet_nil ?_
        intro _ hw'
        obtain ⟨nq, hw''⟩ := hw'
        subst hw''
        have hbq := nq.h
        go_wp2
        go_ret
        exact ⟨by rw [hf.out]; rfl, Hb.out _ hbq⟩
      | true =>
        have hf := hide (htk1.out (by rw [e1, e2, (eqR_iff.1 e3).1, (eqR_iff.1 e3).2]))
        have He3 := hide e3
        clear e1 e2 e3
        go_wp2_with fail
        refine wp_region_in (fun W => Below wr.heap.size wr W) (Below.refl _ _).drew (by kernel_rfl) (by kernel_rfl) ?_
        repeat (go_big_quiet_step (first
          | (go_at_call 24; have hh := HS.out; rw [He3.out] at hh; exact Calls.in_below (hh _))))
        refine wpQuiet_nil ?_
        intro _ hw'
        obtain ⟨nq, hw''⟩ := hw'
        subst hw''
        have hbq := nq.h
        go_wp2
        go_roundw
        case rel => exact ⟨k + 1, by omega, by go_num, hf.out, Hb.out _ hbq⟩
        case measure => simp [intOf]; omega
    · obtain rfl : k = n := by omega
      have hf := hide (show sameB es es' = true from decide_eq_true (by rwa [List.take_of_length_le (by rw [Hn.out]; omega), List.take_of_length_le (by rw [Hn'.out]; omega)] at htk))
      clear htk
      go_wp2
      go_ret
      exact ⟨by rw [hf.out]; rfl, hB⟩
end Go.Proofs.Ytlcbelmbonaooaa
namespace Go.Proofs.Ytlcbelmbonaooaa
set_option maxRecDepth 20000
open Go.RowKit Go.Px Go.Maps
set_option linter.unusedVariables false
abbrev rowv (x1 x2 : Int) (x3 : Nat) (D : Option Addr) (d dc : Nat) : Value := .agg #[.int .i64 x1, .int .i64 x2, .int .u8 x3, .slice D d dc]
end Go.Proofs.Ytlcbelmbonaooaa
namespace Go.Proofs.Ytlcbelmbonaooaa
set_option maxRecDepth 20000
open Go.RowKit Go.Px Go.Maps
set_option linter.unusedVariables false
/-- What a table knows, and its rows. -/
structure TbOf (m : TM) (es : List RowT) : Prop where
  mem : ∀ e : RowT, e ∈ es ↔ m e.1 = some e.2
  srt : es.Pairwise (fun x y => x.1 < y.1)
theorem srt_lt {es : List RowT} (h : es.Pairwise (fun x y => x.1 < y.1)) {i j : Nat} {a b : RowT} (hij : i < j) (ha : es[i]? = some a) (hb : es[j]? = some b) : a.1 < b.1 := by
  obtain ⟨hi, rfl⟩ := List.getElem?_eq_some_iff.1 ha
  obtain ⟨hj, rfl⟩ := List.getElem?_eq_some_iff.1 hb
  exact List.pairwise_iff_getElem.1 h i j hi hj hij
theorem TbOf.atS {m : TM} {es : List RowT} (h : TbOf m es) {c : Int} {y : Int × Nat × List UInt8} (hc : m c = some y) : ∃ j, es[j]? = some (c, y) ∧ ∀ (i : Nat) (e : RowT), i < j → es[i]? = some e → e.1 ≠ c := by
  obtain ⟨j, hj, he⟩ := List.mem_iff_getElem.1 ((h.mem (c, y)).2 hc)
  have hj' : es[j]? = some (c, y) := by rw [List.getElem?_eq_getElem hj, he]
  exact ⟨j, hj', fun i e hi hei => by have := srt_lt h.srt hi hei hj'; simp at this; omega⟩
section
variable {w : World} {r : Nat} {A : Option Addr} {n c : Nat} {cs : List Value} {es : List RowT}
end
end Go.Proofs.Ytlcbelmbonaooaa
namespace Go.Proofs.Ytlcbelmbonaooaa
set_option maxRecDepth 20000
open Go.RowKit Go.Px Go.Maps
set_option linter.unusedVariables false
section
variable {w : World} {r : Nat} {A : Option Addr} {n c : Nat} {cs : List Value} {es : List RowT}

/-- What Ask tells, of what a table knows. -/
def askV (m : TM) (S : Nat) (x s : Int) : Int × Int × Nat × List UInt8 :=
  if serB x = true ∧ serB s = true then
    match m x with
    | none => if 64 ≤ S then (4, 0, 0, []) else (1, 0, 0, [])
    | some (s0, k0, b0) => if s0 < s then (1, 0, 0, []) else if s < s0 then (3, 0, 0, []) else (2, 0, k0, b0)
  else (0, 5, 0, [])
end
end Go.Proofs.Ytlcbelmbonaooaa
namespace Go.Proofs.Ytlcbelmbonaooaa
set_option maxRecDepth 20000
open Go.RowKit Go.Px Go.Maps
set_option linter.unusedVariables false
/-- A row laid among rows, by client: what the loop still makes. -/
def insG (row : RowT) : Bool → List RowT → List RowT
  | b, [] => if b then [] else [row]
  | b, x :: xs => (if !b && decide (row.1 ≤ x.1) then [row] else []) ++ ((if x.1 = row.1 then [] else [x]) ++ insG row (b || decide (row.1 ≤ x.1)) xs)
/-- What Put tells. -/
def putV (m : TM) (S : Nat) (c s : Int) (k d : Nat) : Int :=
  if (askV m S c s).2.1 = 0 then
    if rsE k d = 0 then
      if (askV m S c s).1 = 4 then 3 else if (askV m S c s).1 = 1 then 0 else 1
    else 60
  else (askV m S c s).2.1
end Go.Proofs.Ytlcbelmbonaooaa
