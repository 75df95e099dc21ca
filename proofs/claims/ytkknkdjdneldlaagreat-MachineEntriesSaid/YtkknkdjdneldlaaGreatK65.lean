/- Texts joined (shake.py). -/
import Derived.Deep.QuietTactic
import Derived.BigQuiet
import Derived.WalkSpells
import Derived.Outline
import Derived.Deep.DeepFit
import Derived.Deep.RegionHeldLaw
import Derived.Maps.OwnSet
import Derived.Test.YtkknkdjdneldlaaGreatK61
import Derived.Test.YtkknkdjdneldlaaGreatK62
namespace Go.Proofs.YtkknkdjdneldlaaGreat
set_option maxRecDepth 20000
open Go.RowKit Go.Px Go.Maps
set_option linter.unusedVariables false
/-- An entry's value is what is read of it. -/
def rdV (v : Value) : Option (DataW Value × List MemPlace) := some (.held v, [])
theorem keyed_int : Keyed Tryz.prog 3 := int_keyed Tryz.underlying3
theorem key_ok {c : Int} (h1 : -9223372036854775808 ≤ c) (h2 : c ≤ 9223372036854775807) : keyOf Tryz.prog 3 (.int .i64 c) = some (.int .i64 c) :=
  keyOf_int_mk Tryz.underlying3 (by simpa [Lit.wf, IntKind.min, IntKind.max, IntKind.signed, IntKind.bits] using And.intro h1 h2)
/-- An entry: the last serial, how it ended. -/
abbrev entV (s : Int) (k : Nat) (A : Option Addr) (d dc : Nat) : Value := .agg #[.int .i64 s, .int .u8 k, .slice A d dc]
abbrev zeroE : Value := entV 0 0 none 0 0
theorem zero_ended (w : World) : (zeroValue 151).run Tryz.prog w = .ok zeroE w := by kernel_rfl
theorem keyLit (c : Int) : WideAt.IsKeyLit (Lit.int .i64 c) := by first | trivial | (unfold WideAt.IsKeyLit; trivial) | simp [WideAt.IsKeyLit]
abbrev TM := Int → Option (Int × Nat × List UInt8)
/-- What the map says of a client. -/
def EntIs (w : World) (B t bm : Nat) (D : DataW Value) (c : Int) : Option (Int × Nat × List UInt8) → Prop
  | none => Maps.has D (.int .i64 c) = false
  | some (s, k, bs) => Maps.has D (.int .i64 c) = true ∧ k < 256 ∧ ∃ A d dc, D.atKey (.int .i64 c) (.held zeroE) = .held (entV s k A d dc) ∧ bs.length = d ∧ d ≤ dc ∧ d ≤ 262144 ∧ dc ≤ 9223372036854775807 ∧ Rd w A (bys bs) ∧ ∀ a, A = some a → B ≤ a.block ∧ a.block ≠ t ∧ a.block ≠ bm
/-- A table at block t of memory, its map at block bm; nothing of it lies below B. -/
structure TabIs (w : World) (B t bm n : Nat) (D : DataW Value) (m : TM) : Prop where
  blk : Blk w t [.map (some bm)] 155
  own : w.ownsMap Tryz.prog 3 rdV bm n D
  at_ : ∀ c, EntIs w B t bm D c (m c)
  ne : t ≠ bm
  hB : B ≤ t ∧ B ≤ bm
section
variable {w w' : World} {B t bm n : Nat} {D : DataW Value} {m : TM}
theorem EntIs.keep {c : Int} {o : Option (Int × Nat × List UInt8)} (h : EntIs w B t bm D c o) (hk : ∀ A xs, Rd w A xs → (∀ a, A = some a → B ≤ a.block ∧ a.block ≠ t ∧ a.block ≠ bm) → Rd w' A xs) : EntIs w' B t bm D c o := by
  cases o with
  | none => exact h
  | some x =>
    obtain ⟨s, k, bs⟩ := x
    obtain ⟨h0, hk8, A, d, dc, h1, h2, h3, h4, h5, h6, h7⟩ := h
    exact ⟨h0, hk8, A, d, dc, h1, h2, h3, h4, h5, hk _ _ h6 h7, h7⟩
theorem TabIs.below (h : TabIs w B t bm n D m) (hb : Below w.heap.size w w') : TabIs w' B t bm n D m :=
  { blk := h.blk.below hb
    own := h.own.kept (grown_of_below hb none) (by simp)
    at_ := fun c => (h.at_ c).keep (fun A xs hr _ => hr.below hb)
    ne := h.ne
    hB := h.hB }
theorem TabIs.look_none (h : TabIs w B t bm n D m) {c : Int} (h1 : -9223372036854775808 ≤ c) (h2 : c ≤ 9223372036854775807) (hm : m c = none) :
    (Instr.lookup 153 (.map (some bm)) (.int .i64 c) true).run Tryz.prog w = .ok (.tuple #[zeroE, .bool false]) w := by
  have ha := h.at_ c
  rw [hm] at ha
  obtain ⟨v, ps, hr, hv⟩ := h.own.look_ok keyed_int Tryz.underlying153 (zero_ended w) (zd := .held zeroE) (zp := []) rfl (key_ok h1 h2)
  rw [ha] at hr
  rw [atKey_of_not_has ha] at hv
  injection hv with hv
  injection hv with hv _
  injection hv with hv
  rw [hv] at hr
  exact hr
theorem TabIs.look_some (h : TabIs w B t bm n D m) {c s : Int} {k : Nat} {bs : List UInt8} (h1 : -9223372036854775808 ≤ c) (h2 : c ≤ 9223372036854775807) (hm : m c = some (s, k, bs)) :
    k < 256 ∧ ∃ A d dc, (Instr.lookup 153 (.map (some bm)) (.int .i64 c) true).run Tryz.prog w = .ok (.tuple #[entV s k A d dc, .bool true]) w ∧ bs.length = d ∧ d ≤ dc ∧ d ≤ 262144 ∧ dc ≤ 9223372036854775807 ∧ Rd w A (bys bs) := by
  have ha := h.at_ c
  rw [hm] at ha
  obtain ⟨h0, hk8, A, d, dc, ha1, hrest⟩ := ha
  obtain ⟨v, ps, hr, hv⟩ := h.own.look_ok keyed_int Tryz.underlying153 (zero_ended w) (zd := .held zeroE) (zp := []) rfl (key_ok h1 h2)
  rw [h0] at hr
  rw [ha1] at hv
  injection hv with hv
  injection hv with hv _
  injection hv with hv
  rw [hv] at hr
  exact ⟨hk8, A, d, dc, hr, hrest.1, hrest.2.1, hrest.2.2.1, hrest.2.2.2.1, hrest.2.2.2.2.1⟩
theorem TabIs.len (h : TabIs w B t bm n D m) (ty : TypeId) : (Builtin.len_ #[153] ty #[.map (some bm)]).run Tryz.prog w = .ok (.int .i64 (Maps.size D)) w := h.own.len Tryz.underlying153 ty
/-- A store: the world behind it. -/
theorem TabIs.put (h : TabIs w B t bm n D m) {c s : Int} {k : Nat} {A : Option Addr} {d dc : Nat} {bs : List UInt8} (hk8 : k < 256) (hd : bs.length = d) (hdc : d ≤ dc) (hd8 : d ≤ 262144) (hdm : dc ≤ 9223372036854775807) (hr : Rd w A (bys bs)) (hA : ∀ a, A = some a → B ≤ a.block ∧ a.block ≠ t ∧ a.block ≠ bm)
    (hown : w'.ownsMap Tryz.prog 3 rdV bm (n + 1) (D.put (.int .i64 c) (.held (entV s k A d dc)))) (hg : w.grownBy w' (some bm)) :
    TabIs w' B t bm (n + 1) (D.put (.int .i64 c) (.held (entV s k A d dc))) (fun x => if x = c then some (s, k, bs) else m x) :=
  { blk := (hg.block t h.blk.lt (by intro e; injection e with e; exact h.ne e)).trans h.blk
    own := hown
    at_ := fun x => by
      have hrk : ∀ A xs, Rd w A xs → (∀ a, A = some a → B ≤ a.block ∧ a.block ≠ t ∧ a.block ≠ bm) → Rd w' A xs := fun A xs hr hA => hr.grown hg (fun a ha e => by injection e with e; exact (hA a ha).2.2 e)
      by_cases hx : x = c
      · subst hx
        simp only [if_pos]
        exact ⟨has_put_same h.own.isMap (keyLit x) _, hk8, A, d, dc, atKey_put_same h.own.isMap (keyLit x) _ _, hd, hdc, hd8, hdm, hrk _ _ hr hA, hA⟩
      · simp only [if_neg hx]
        have hne : (Lit.int .i64 x) ≠ (Lit.int .i64 c) := by intro e; injection e with _ e; exact hx e
        have := (h.at_ x).keep hrk
        cases hmx : m x with
        | none =>
          rw [hmx] at this
          show Maps.has _ _ = false
          rw [has_put_other hne]
          exact this
        | some y =>
          obtain ⟨s', k', bs'⟩ := y
          rw [hmx] at this
          obtain ⟨q0, q8, A', d', dc', q1, q2⟩ := this
          exact ⟨by rw [has_put_other hne]; exact q0, q8, A', d', dc', by rw [atKey_put_other hne]; exact q1, q2⟩
    ne := h.ne
    hB := h.hB }
theorem TabIs.size_put (h : TabIs w B t bm n D m) (c : Int) (v : Value) : Maps.size (D.put (.int .i64 c) (.held v)) = if (m c).isSome then Maps.size D else Maps.size D + 1 := by
  rw [Maps.size_put (h.own.tidy keyed_int)]
  have := h.at_ c
  cases hm : m c with
  | none => rw [hm] at this; rw [show Maps.has D (.int .i64 c) = false from this]; rfl
  | some x => obtain ⟨s, k, bs⟩ := x; rw [hm] at this; rw [this.1]; rfl
end
end Go.Proofs.YtkknkdjdneldlaaGreat
