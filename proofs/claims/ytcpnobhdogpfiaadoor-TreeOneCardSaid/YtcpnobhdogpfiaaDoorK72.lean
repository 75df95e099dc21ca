/- Texts joined (shake.py). -/
import Derived.Test.YtcpnobhdogpfiaaDoorTypes
import Derived.Test.YtcpnobhdogpfiaaDoorClone
import Derived.Deep.QuietTactic
import Derived.BigQuiet
import Derived.WalkSpells
import Derived.Outline
import Derived.Deep.DeepFit
import Derived.Test.YtcpnobhdogpfiaaDoorRes
import Derived.Deep.RegionHeldLaw
import Derived.Maps.OwnSet
import Derived.Test.YtcpnobhdogpfiaaDoorAgg
import Derived.Test.YtcpnobhdogpfiaaDoorArg
import Derived.Test.YtcpnobhdogpfiaaDoorGrp
import Derived.Test.YtcpnobhdogpfiaaDoorFrm
import Derived.Deep.Slices
import Derived.Test.YtcpnobhdogpfiaaDoorQui
import Derived.Test.YtcpnobhdogpfiaaDoorK71
namespace Go.Proofs.YtcpnobhdogpfiaaDoor
set_option maxRecDepth 20000
open Go.RowKit Go.Px
set_option linter.unusedVariables false
def serB (n : Int) : Bool := decide (1 ≤ n ∧ n ≤ 4611686018427387904)
theorem serial_any (n : Int) (w : World) : Calls Tryd.prog 81 #[.int .i64 n] w fun e w' => e = .returned (.bool (serB n)) ∧ w = w' := by
  by_cases h1 : 1 ≤ n
  · by_cases h2 : n ≤ 4611686018427387904
    · have H := hide (show serB n = true from decide_eq_true ⟨h1, h2⟩)
      go_enter Tryd.func81, Tryd.ntmps81
      go_wp2
      go_ret
      exact ⟨by rw [H.out]; rfl, rfl⟩
    · have H := hide (show serB n = false from decide_eq_false (by omega))
      go_enter Tryd.func81, Tryd.ntmps81
      go_wp2
      go_ret
      exact ⟨by rw [H.out]; rfl, rfl⟩
  · have H := hide (show serB n = false from decide_eq_false (by omega))
    go_enter Tryd.func81, Tryd.ntmps81
    go_wp2
    go_ret
    exact ⟨by rw [H.out]; rfl, rfl⟩
theorem serB_out {num : Int} (h : serB num = true) : 1 ≤ num ∧ num ≤ 4611686018427387904 := of_decide_eq_true h
end Go.Proofs.YtcpnobhdogpfiaaDoor
namespace Go.Proofs.YtcpnobhdogpfiaaDoor
set_option maxRecDepth 20000
open Go.RowKit Go.Px Go.Maps
set_option linter.unusedVariables false
/-- An entry: the last serial, how it ended. -/
abbrev entV (s : Int) (k : Nat) (A : Option Addr) (d dc : Nat) : Value := .agg #[.int .i64 s, .int .u8 k, .slice A d dc]
abbrev zeroE : Value := entV 0 0 none 0 0
abbrev TM := Int → Option (Int × Nat × List UInt8)
/-- What the map says of a client. -/
def EntIs (w : World) (B t bm : Nat) (D : DataW Value) (c : Int) : Option (Int × Nat × List UInt8) → Prop
  | none => Maps.has D (.int .i64 c) = false
  | some (s, k, bs) => Maps.has D (.int .i64 c) = true ∧ k < 256 ∧ ∃ A d dc, D.atKey (.int .i64 c) (.held zeroE) = .held (entV s k A d dc) ∧ bs.length = d ∧ d ≤ dc ∧ d ≤ 262144 ∧ dc ≤ 9223372036854775807 ∧ Rd w A (bys bs) ∧ ∀ a, A = some a → B ≤ a.block ∧ a.block ≠ t ∧ a.block ≠ bm
section
variable {w w' : World} {B t bm n : Nat} {D : DataW Value} {m : TM}
theorem EntIs.keep {c : Int} {o : Option (Int × Nat × List UInt8)} (h : EntIs w B t bm D c o) (hk : ∀ A xs, Rd w A xs → (∀ a, A = some a → B ≤ a.block ∧ a.block ≠ t ∧ a.block ≠ bm) → Rd w' A xs) : EntIs w' B t bm D c o := by
  cases o with
  | none => exact h
  | some x =>
    obtain ⟨s, k, bs⟩ := x
    obtain ⟨h0, hk8, A, d, dc, h1, h2, h3, h4, h5, h6, h7⟩ := h
    exact ⟨h0, hk8, A, d, dc, h1, h2, h3, h4, h5, hk _ _ h6 h7, h7⟩
end
end Go.Proofs.YtcpnobhdogpfiaaDoor
namespace Go.Proofs.YtcpnobhdogpfiaaDoor
set_option maxRecDepth 20000
open Go.RowKit Go.Px Go.Maps
set_option linter.unusedVariables false
abbrev Dne := List (Int × Int × Nat × List UInt8)
/-- Is there a later one of the same client? -/
def Later (L : Dne) (j : Nat) (c : Int) : Prop := ∃ j' e', j < j' ∧ L[j']? = some e' ∧ e'.1 = c
/-- What was done, and what the table knows of it. -/
def Dn (L : Dne) (m : TM) : Prop := ∀ (j : Nat) (e : Int × Int × Nat × List UInt8), L[j]? = some e → ∃ s k bs, m e.1 = some (s, k, bs) ∧ e.2.1 ≤ s ∧ (Later L j e.1 → e.2.1 < s) ∧ (¬ Later L j e.1 → (s, k, bs) = e.2)
theorem Dn.nil (m : TM) : Dn [] m := fun j e h => by simp at h
theorem rd_loB {w w' : World} {B : Nat} {A : Option Addr} {bs : List UInt8} (hr : Rd w A (bys bs)) (hb : Below B w w') (hA : bs ≠ [] → ∀ a, A = some a → a.block < B) : Rd w' A (bys bs) := by
  cases bs with
  | nil => exact Rd.nil
  | cons x xs => exact hr.lo (hA (by simp)) hb
/-- The cells of the calls that were done. -/
def ClAt (w : World) (B : Nat) (cs : List Value) (j : Nat) (e : Int × Int × Nat × List UInt8) : Prop :=
  ∃ dn A d dc, cs[5 * j]? = some (.bool dn) ∧ cs[5 * j + 1]? = some (.int .i64 e.1) ∧ cs[5 * j + 2]? = some (.int .i64 e.2.1) ∧ cs[5 * j + 3]? = some (.int .u8 e.2.2.1) ∧ cs[5 * j + 4]? = some (.slice A d dc) ∧
    e.2.2.1 < 256 ∧ e.2.2.2.length = d ∧ Rd w A (bys e.2.2.2) ∧ serB e.1 = true ∧ serB e.2.1 = true ∧ (e.2.2.2 ≠ [] → ∀ a, A = some a → a.block < B)
def ClRows (w : World) (B : Nat) (cs : List Value) (L : Dne) : Prop := cs.length = 5 * L.length ∧ ∀ j e, L[j]? = some e → ClAt w B cs j e
theorem ClRows.nil {w : World} {B : Nat} : ClRows w B [] [] := ⟨rfl, fun j e h => by simp at h⟩
theorem ClRows.keep {w w' : World} {B : Nat} {cs : List Value} {L : Dne} (h : ClRows w B cs L) (hb : Below B w w') : ClRows w' B cs L :=
  ⟨h.1, fun j e he => by
    obtain ⟨dn, A, d, dc, h1, h2, h3, h4, h5, h6, h7, h8, h9, h10, h11⟩ := h.2 j e he
    exact ⟨dn, A, d, dc, h1, h2, h3, h4, h5, h6, h7, rd_loB h8 hb h11, h9, h10, h11⟩⟩
end Go.Proofs.YtcpnobhdogpfiaaDoor
namespace Go.Proofs.YtcpnobhdogpfiaaDoor
set_option maxRecDepth 20000
open Go.RowKit Go.Px Go.Maps Go.ChangeShapes Go.WideShapes Go.ChangeAt Go.Joins Go.Deep
set_option linter.unusedVariables false
abbrev RowT := Int × Int × Nat × List UInt8
/-- The cells of a row at place j of a row of rows; Q: which blocks its data may lie in. -/
def RwAt (w : World) (Q : Nat → Prop) (cs : List Value) (j : Nat) (e : RowT) : Prop :=
  ∃ A d dc, cs[4 * j]? = some (.int .i64 e.1) ∧ cs[4 * j + 1]? = some (.int .i64 e.2.1) ∧ cs[4 * j + 2]? = some (.int .u8 e.2.2.1) ∧ cs[4 * j + 3]? = some (.slice A d dc) ∧
    e.2.2.1 < 256 ∧ e.2.2.2.length = d ∧ d ≤ dc ∧ dc ≤ 9223372036854775807 ∧ Rd w A (bys e.2.2.2) ∧ (e.2.2.2 ≠ [] → ∀ a, A = some a → Q a.block)
def RwRows (w : World) (Q : Nat → Prop) (cs : List Value) (es : List RowT) : Prop := cs.length = 4 * es.length ∧ ∀ j e, es[j]? = some e → RwAt w Q cs j e
theorem RwRows.nil {w : World} {Q : Nat → Prop} : RwRows w Q [] [] := ⟨rfl, fun j e h => by simp at h⟩
theorem RwAt.keep {w w' : World} {Q Q' : Nat → Prop} {cs : List Value} {j : Nat} {e : RowT} (h : RwAt w Q cs j e) (hk : ∀ A xs, Rd w A xs → (∀ a, A = some a → Q a.block) → Rd w' A xs) (hQ : ∀ B, Q B → Q' B) : RwAt w' Q' cs j e := by
  obtain ⟨A, d, dc, h1, h2, h3, h4, h5, h6, h7, h8, h9, h10⟩ := h
  refine ⟨A, d, dc, h1, h2, h3, h4, h5, h6, h7, h8, ?_, fun hne a ha => hQ _ (h10 hne a ha)⟩
  cases he : e.2.2.2 with
  | nil => exact Rd.nil
  | cons x xs => rw [← he]; exact hk _ _ h9 (h10 (by rw [he]; simp))
theorem RwRows.keep {w w' : World} {Q Q' : Nat → Prop} {cs : List Value} {es : List RowT} (h : RwRows w Q cs es) (hk : ∀ A xs, Rd w A xs → (∀ a, A = some a → Q a.block) → Rd w' A xs) (hQ : ∀ B, Q B → Q' B) : RwRows w' Q' cs es :=
  ⟨h.1, fun j e he => (h.2 j e he).keep hk hQ⟩
theorem RwRows.below {w w' : World} {Q : Nat → Prop} {cs : List Value} {es : List RowT} (h : RwRows w Q cs es) (hb : Below w.heap.size w w') : RwRows w' Q cs es := h.keep (fun A xs hr _ => hr.below hb) (fun _ h => h)
theorem rd4_0 {w : World} {a : Addr} {cs : List Value} (hat : ∀ j u, cs[j]? = some u → w.cell? (a.add j) = some u) {k : Nat} {u : Value} (h : cs[4 * k]? = some u) : w.cell? (a.add (k * 4)) = some u := by
  rw [Nat.mul_comm]; exact hat _ _ h
theorem rd4_S {w : World} {a : Addr} {cs : List Value} (hat : ∀ j u, cs[j]? = some u → w.cell? (a.add j) = some u) {k i : Nat} {u : Value} (h : cs[4 * k + (i + 1)]? = some u) : w.cell? ⟨(a.add (k * 4)).block, (a.add (k * 4)).off + (i + 1), none⟩ = some u := by
  have := hat _ _ h
  have e : a.add (4 * k + (i + 1)) = ⟨(a.add (k * 4)).block, (a.add (k * 4)).off + (i + 1), none⟩ := by
    unfold Addr.add
    rw [if_neg (by omega)]
    split
    · rename_i h0
      rw [show 4 * k + (i + 1) = i + 1 by omega]
    · show (⟨a.block, a.off + (4 * k + (i + 1)), none⟩ : Addr) = ⟨a.block, a.off + k * 4 + (i + 1), none⟩
      rw [show a.off + (4 * k + (i + 1)) = a.off + k * 4 + (i + 1) by omega]
  rw [← e]; exact this
/-- A row's four cells, where a slice of rows begins at a. -/
theorem RwAt.cells {w w' : World} {Q : Nat → Prop} {cs : List Value} {j : Nat} {e : RowT} (h : RwAt w Q cs j e) {a : Addr} (hat : ∀ j u, cs[j]? = some u → w'.cell? (a.add j) = some u) :
    ∃ A d dc, w'.cell? (a.add (j * 4)) = some (.int .i64 e.1) ∧ w'.cell? ⟨(a.add (j * 4)).block, (a.add (j * 4)).off + 1, none⟩ = some (.int .i64 e.2.1) ∧ w'.cell? ⟨(a.add (j * 4)).block, (a.add (j * 4)).off + 2, none⟩ = some (.int .u8 e.2.2.1) ∧ w'.cell? ⟨(a.add (j * 4)).block, (a.add (j * 4)).off + 3, none⟩ = some (.slice A d dc) ∧
      e.2.2.1 < 256 ∧ e.2.2.2.length = d ∧ d ≤ dc ∧ dc ≤ 9223372036854775807 ∧ Rd w A (bys e.2.2.2) ∧ (e.2.2.2 ≠ [] → ∀ a, A = some a → Q a.block) := by
  obtain ⟨A, d, dc, h1, h2, h3, h4, h5⟩ := h
  exact ⟨A, d, dc, rd4_0 hat h1, rd4_S (i := 0) hat h2, rd4_S (i := 1) hat h3, rd4_S (i := 2) hat h4, h5⟩
section
variable {H : Type} {enc : TypeId × Value → H}
end
/-! ### which rows may be a table's -/
/-- Is it right behind a client? -/
def okB (ahead : Int) (e : RowT) : Bool := decide (ahead < e.1) && (serB e.1 && (serB e.2.1 && (rsE e.2.2.1 e.2.2.2.length == 0)))
def okL : Int → List RowT → Bool
  | _, [] => true
  | a, e :: es => okB a e && okL e.1 es
def rowsB (es : List RowT) : Bool := decide (es.length ≤ 64) && okL 0 es
end Go.Proofs.YtcpnobhdogpfiaaDoor
namespace Go.Proofs.YtcpnobhdogpfiaaDoor
set_option maxRecDepth 20000
open Go.RowKit Go.Px Go.Maps
set_option linter.unusedVariables false
theorem okL_step {a : Int} {e : RowT} {es : List RowT} (h : okB a e = true) : okL a (e :: es) = okL e.1 es := by
  show (okB a e && okL e.1 es) = _
  rw [h, Bool.true_and]
theorem okL_no {a : Int} {e : RowT} {es : List RowT} (h : okB a e = false) : okL a (e :: es) = false := by
  show (okB a e && okL e.1 es) = _
  rw [h, Bool.false_and]
theorem drop_cons {α : Type} {l : List α} {k : Nat} {x : α} (h : l[k]? = some x) : l.drop k = x :: l.drop (k + 1) := by
  have hk : k < l.length := (List.getElem?_eq_some_iff.1 h).1
  rw [List.drop_eq_getElem_cons hk]
  rw [List.getElem?_eq_getElem hk] at h
  injection h with h
  rw [h]
theorem okB_mk {a c s : Int} {k : Nat} {bs : List UInt8} {d : Nat} (hd : bs.length = d) (h1 : ¬ c ≤ a) (h2 : serB c = true) (h3 : serB s = true) (h4 : rsE k d = 0) : okB a (c, s, k, bs) = true := by
  unfold okB
  simp only [h2, h3, hd, h4]
  simp; omega
theorem okB_no1 {a c s : Int} {k : Nat} {bs : List UInt8} (h1 : c ≤ a) : okB a (c, s, k, bs) = false := by
  unfold okB
  rw [decide_eq_false (by show ¬ a < c; omega)]; rfl
theorem okB_no2 {a c s : Int} {k : Nat} {bs : List UInt8} (h1 : serB c = false) : okB a (c, s, k, bs) = false := by
  unfold okB
  simp only [h1]; simp
theorem okB_no3 {a c s : Int} {k : Nat} {bs : List UInt8} (h1 : serB s = false) : okB a (c, s, k, bs) = false := by
  unfold okB
  simp only [h1]; simp
theorem okB_no4 {a c s : Int} {k : Nat} {bs : List UInt8} {d : Nat} (hd : bs.length = d) (h1 : rsE k d ≠ 0) : okB a (c, s, k, bs) = false := by
  unfold okB
  simp only [hd]
  rw [show (rsE k d == 0) = false by simpa using h1]; simp
set_option maxHeartbeats 3200000 in
theorem mayRows_any (A : Option Addr) (n c : Nat) (cs : List Value) (es : List RowT) (Q : Nat → Prop) (w : World) (hn : es.length = n) (hr : Rd w A cs) (hE : RwRows w Q cs es) :
    Calls Tryd.prog 71 #[.slice A n c] w fun e w' => e = .returned (.bool (rowsB es)) ∧ Below w.heap.size w w' := by
  by_cases h64 : n ≤ 64
  case neg =>
    have hf := hide (show rowsB es = false by unfold rowsB; rw [hn, decide_eq_false h64]; rfl)
    go_enter Tryd.func71, Tryd.ntmps71
    go_wp2
    go_ret
    exact ⟨by rw [hf.out]; rfl, Below.refl _ _⟩
  have hrb : rowsB es = okL 0 es := by unfold rowsB; rw [hn, decide_eq_true h64]; rfl
  have hl := hE.1
  go_enter Tryd.func71, Tryd.ntmps71
  go_wp2
  go_loopw [3, 11] (fun a i wr => ∃ (k : Nat) (ah : Int), k ≤ n ∧ i = .int .i64 k ∧ a = .int .i64 ah ∧ rowsB es = okL ah (es.drop k) ∧ Below w.heap.size w wr) (fun _ i _ => n - (intOf i).toNat)
  case atStart => exact ⟨0, 0, by omega, rfl, rfl, hrb, Below.refl _ _⟩
  case round =>
    obtain ⟨k, ah, hk, rfl, rfl, hm, hB⟩ := hrel
    by_cases hlt : k < n
    · obtain ⟨e, he⟩ : ∃ e, es[k]? = some e := ⟨_, List.getElem?_eq_getElem (by omega)⟩
      obtain ⟨a, rfl, hat⟩ := (hr.below hB).some_of (xs := cs) (by omega)
      obtain ⟨A', d, dc, y0, y1, y2, y3, hk8, hd, hdc, hdm, hrd, hq⟩ := ((hE.below hB).2 k e he).cells hat
      rw [drop_cons he] at hm
      obtain ⟨cl, s, kd, bs⟩ := e
      simp only at y0 y1 y2 hk8 hd hrd hq
      clear hq hat he hrd
      have Hd := hide hd
      clear hd
      have hb1 : ∀ X, Below wr.heap.size wr X → Below w.heap.size w X := fun X hX => hB.trans (hX.mono hB.size)
      have Hb := hide hb1
      clear hb1
      obtain ⟨wa, hwa⟩ : ∃ x, wr.alloc (.cells #[.int .i64 cl, .int .i64 s, .int .u8 kd, .slice A' d dc] 119) = x := ⟨_, rfl⟩
      obtain ⟨g, hg⟩ : ∃ x, wr.heap.size = x := ⟨_, rfl⟩
      have hS : Blk wa g [.int .i64 cl, .int .i64 s, .int .u8 kd, .slice A' d dc] 119 := by rw [← hwa, ← hg]; exact Blk.new wr [.int .i64 cl, .int .i64 s, .int .u8 kd, .slice A' d dc] _
      have hba : Below wr.heap.size wr wa := by rw [← hwa]; exact (Below.refl _ _).alloc (Nat.le_refl _) _
      have Hwa := hide hwa
      clear hwa
      by_cases c1 : cl ≤ ah
      · have hf := hide (hm.trans (okL_no (okB_no1 c1)))
        clear hm
        go_wp2
        go_ret
        exact ⟨by rw [hf.out]; rfl, Hb.out _ (by rw [Hwa.out]; exact hba)⟩
      · go_wp2_with fail
        rw [Hwa.out]
        go_fit (serial_any cl _)
        cases c2 : serB cl with
        | false =>
          have hf := hide (hm.trans (okL_no (okB_no2 c2)))
          clear hm c2
          rintro x w1 ⟨rfl, rfl⟩
          go_wp2
          go_ret
          exact ⟨by rw [hf.out]; rfl, Hb.out _ hba⟩
        | true =>
          rintro x w1 ⟨rfl, rfl⟩
          have s0 := hS.cell (j := 0) rfl
          have s1 := hS.cell (j := 1) rfl
          have s2 := hS.cell (j := 2) rfl
          have s3 := hS.cell (j := 3) rfl
          go_wp2_with fail
          go_fit (serial_any s _)
          cases c3 : serB s with
          | false =>
            have hf := hide (hm.trans (okL_no (okB_no3 c3)))
            clear hm c3
            rintro x w1 ⟨rfl, rfl⟩
            go_wp2
            go_ret
            exact ⟨by rw [hf.out]; rfl, Hb.out _ hba⟩
          | true =>
            rintro x w1 ⟨rfl, rfl⟩
            go_wp2_with fail
            go_fit (result_any kd A' d dc _ hk8)
            obtain ⟨R, hRR⟩ : ∃ R, rsE kd d = R := ⟨_, rfl⟩
            by_cases c4 : R = 0
            · have hf := hide (hm.trans (okL_step (okB_mk Hd.out (by omega) c2 c3 (hRR.trans c4))))
              rw [hRR]
              subst c4
              clear hm c2 c3 hRR
              rintro x w2 ⟨rfl, hb2⟩
              have hb02 := hba.trans (hb2.mono hba.size)
              have z0 := (hS.below hb2).cell (j := 0) rfl
              go_wp2
              go_roundw
              case rel => exact ⟨k + 1, cl, by omega, by go_num, rfl, hf.out, Hb.out _ hb02⟩
              case measure => simp [intOf]; omega
            · have hf := hide (hm.trans (okL_no (okB_no4 Hd.out (by rw [hRR]; exact c4))))
              rw [hRR]
              have q4 : (R != 0) = true := by simpa using c4
              clear hm c2 c3 hRR c4
              rintro x w2 ⟨rfl, hb2⟩
              have hb02 := hba.trans (hb2.mono hba.size)
              go_wp2
              go_ret
              exact ⟨by rw [hf.out]; rfl, Hb.out _ hb02⟩
    · obtain rfl : k = n := by omega
      have hf := hide (show rowsB es = true by rw [hm, List.drop_eq_nil_of_le (by omega)]; rfl)
      clear hm
      go_wp2
      go_ret
      exact ⟨by rw [hf.out]; rfl, hB⟩
theorem number6_any (n : Int) (w : World) : Calls Tryd.prog 75 #[.int .i64 n] w fun e w' => e = .returned (.bool (serB n)) ∧ w = w' := by
  by_cases h1 : 1 ≤ n
  · by_cases h2 : n ≤ 4611686018427387904
    · have H := hide (show serB n = true from decide_eq_true ⟨h1, h2⟩)
      go_enter Tryd.func75, Tryd.ntmps75
      go_wp2
      go_ret
      exact ⟨by rw [H.out]; rfl, rfl⟩
    · have H := hide (show serB n = false from decide_eq_false (by omega))
      go_enter Tryd.func75, Tryd.ntmps75
      go_wp2
      go_ret
      exact ⟨by rw [H.out]; rfl, rfl⟩
  · have H := hide (show serB n = false from decide_eq_false (by omega))
    go_enter Tryd.func75, Tryd.ntmps75
    go_wp2
    go_ret
    exact ⟨by rw [H.out]; rfl, rfl⟩
end Go.Proofs.YtcpnobhdogpfiaaDoor
namespace Go.Proofs.YtcpnobhdogpfiaaDoor
set_option maxRecDepth 20000
open Go.RowKit Go.Px Go.Maps
set_option linter.unusedVariables false
set_option maxRecDepth 20000 in
set_option maxHeartbeats 3200000 in
theorem right_any (A : Option Addr) (n c : Nat) (cs : List Value) (es : List RowT) (Q : Nat → Prop) (w : World) (hn : es.length = n) (hr : Rd w A cs) (hE : RwRows w Q cs es) :
    Calls Tryd.prog 62 #[.slice A n c] w fun e w' => e = .returned (.bool (rowsB es)) ∧ Below w.heap.size w w' := by
  by_cases h64 : n ≤ 64
  case neg =>
    have hf := hide (show rowsB es = false by unfold rowsB; rw [hn, decide_eq_false h64]; rfl)
    go_enter Tryd.func62, Tryd.ntmps62
    go_wp2
    go_ret
    exact ⟨by rw [hf.out]; rfl, Below.refl _ _⟩
  have hrb : rowsB es = okL 0 es := by unfold rowsB; rw [hn, decide_eq_true h64]; rfl
  have hl := hE.1
  go_enter Tryd.func62, Tryd.ntmps62
  go_wp2
  go_loopw [3] (fun i wr => ∃ (k : Nat) (ah : Int), k ≤ n ∧ i = .int .i64 k ∧ (∀ j e, k = j + 1 → es[j]? = some e → ah = e.1) ∧ (k = 0 → ah = 0) ∧ rowsB es = okL ah (es.drop k) ∧ Below w.heap.size w wr) (fun i _ => n - (intOf i).toNat)
  case atStart => exact ⟨0, 0, by omega, rfl, fun j e h => by omega, fun _ => rfl, hrb, Below.refl _ _⟩
  case round =>
    obtain ⟨k, ah, hk, rfl, hah, hah0, hm, hB⟩ := hrel
    by_cases hlt : k < n
    · obtain ⟨e, he⟩ : ∃ e, es[k]? = some e := ⟨_, List.getElem?_eq_getElem (by omega)⟩
      obtain ⟨a, rfl, hat⟩ := (hr.below hB).some_of (xs := cs) (by omega)
      obtain ⟨A', d, dc, y0, y1, y2, y3, hk8, hd, hdc, hdm, hrd, hq⟩ := ((hE.below hB).2 k e he).cells hat
      rw [drop_cons he] at hm
      have hnx : ∀ j e', k + 1 = j + 1 → es[j]? = some e' → e.1 = e'.1 := fun j e' hj he' => by
        obtain rfl : j = k := by omega
        rw [he] at he'; injection he' with he'; rw [he']
      have Hnx := hide hnx
      have hkI : (k : Int) < (n : Int) := by omega
      have z0 : ∀ x : InC (fun W => Below wr.heap.size wr W), x.W.cell? (a.add (k * 4)) = some (.int .i64 e.1) := fun x => below_cell x.h y0
      have z1 : ∀ x : InC (fun W => Below wr.heap.size wr W), x.W.cell? ⟨(a.add (k * 4)).block, (a.add (k * 4)).off + 1, none⟩ = some (.int .i64 e.2.1) := fun x => below_cell x.h y1
      have z2 : ∀ x : InC (fun W => Below wr.heap.size wr W), x.W.cell? ⟨(a.add (k * 4)).block, (a.add (k * 4)).off + 2, none⟩ = some (.int .u8 e.2.2.1) := fun x => below_cell x.h y2
      have z3 : ∀ x : InC (fun W => Below wr.heap.size wr W), x.W.cell? ⟨(a.add (k * 4)).block, (a.add (k * 4)).off + 3, none⟩ = some (.slice A' d dc) := fun x => below_cell x.h y3
      obtain ⟨cl, s, kd, bs⟩ := e
      simp only at z0 z1 z2 hk8 hd hrd hq
      clear hq hrd y0 y1 y2 y3 hnx
      have Hd := hide hd
      clear hd
      have hb1 : ∀ X, Below wr.heap.size wr X → Below w.heap.size w X := fun X hX => hB.trans (hX.mono hB.size)
      have Hb := hide hb1
      clear hb1
      have HN := hide number6_any
      cases c2 : serB cl with
      | false =>
        have hf := hide (hm.trans (okL_no (okB_no2 c2)))
        have Hc2 := hide c2
        clear hm hah hah0 c2 he
        go_wp2_with fail
        refine wp_region_in (fun W => Below wr.heap.size wr W) (Below.refl _ _).drew (by kernel_rfl) (by kernel_rfl) ?_
        repeat (go_big_quiet_step (first
          | (go_at_call_of 75 (Value.int .i64 cl); have hh := HN.out cl; rw [Hc2.out] at hh; exact Calls.in_same (hh _))))
        refine wpQuiet_nil ?_
        intro _ hw'
        obtain ⟨nq, hw''⟩ := hw'
        subst hw''
        have hbq := nq.h
        go_wp2
        go_ret
        exact ⟨by rw [hf.out]; rfl, Hb.out _ hbq⟩
      | true =>
        have Hc2 := hide c2
        cases c3 : serB s with
        | false =>
          have hf := hide (hm.trans (okL_no (okB_no3 c3)))
          have Hc3 := hide c3
          clear hm hah hah0 c2 c3 he
          go_wp2_with fail
          refine wp_region_in (fun W => Below wr.heap.size wr W) (Below.refl _ _).drew (by kernel_rfl) (by kernel_rfl) ?_
          repeat (go_big_quiet_step (first
            | (go_at_call_of 75 (Value.int .i64 cl); have hh := HN.out cl; rw [Hc2.out] at hh; exact Calls.in_same (hh _))
            | (go_at_call_of 75 (Value.int .i64 s); have hh := HN.out s; rw [Hc3.out] at hh; exact Calls.in_same (hh _))))
          refine wpQuiet_nil ?_
          intro _ hw'
          obtain ⟨nq, hw''⟩ := hw'
          subst hw''
          have hbq := nq.h
          go_wp2
          go_ret
          exact ⟨by rw [hf.out]; rfl, Hb.out _ hbq⟩
        | true =>
          have Hc3 := hide c3
          by_cases hk0 : k = 0
          · obtain rfl := hah0 hk0
            have g1 : decide (0 < k) = false := decide_eq_false (by omega)
            have hah1 : ¬ cl ≤ 0 := by have := serB_out c2; omega
            have Hk0 := hide hk0
            clear hah hah0 he hk0
            obtain ⟨R, hRR⟩ : ∃ R, rsE kd d = R := ⟨_, rfl⟩
            by_cases c4 : R = 0
            · have hf := hide (hm.trans (okL_step (okB_mk Hd.out hah1 c2 c3 (hRR.trans c4))))
              have Hc4 := hide (hRR.trans c4)
              subst c4
              clear hm c2 c3 hRR
              go_wp2_with fail
              refine wp_region_in (fun W => Below wr.heap.size wr W) (Below.refl _ _).drew (by kernel_rfl) (by kernel_rfl) ?_
              repeat (go_big_quiet_step (first
                | (go_at_call_of 75 (Value.int .i64 cl); have hh := HN.out cl; rw [Hc2.out] at hh; exact Calls.in_same (hh _))
                | (go_at_call_of 75 (Value.int .i64 s); have hh := HN.out s; rw [Hc3.out] at hh; exact Calls.in_same (hh _))
                | (go_at_call 76; have hh := fun W => rresult_any kd A' d dc W hk8; rw [Hc4.out] at hh; exact Calls.in_below (hh _))))
              refine wpQuiet_nil ?_
              intro _ hw'
              obtain ⟨nq, hw''⟩ := hw'
              subst hw''
              have hbq := nq.h
              go_wp2
              go_roundw
              case rel => exact ⟨k + 1, cl, by omega, by go_num, Hnx.out, fun h0 => by omega, hf.out, Hb.out _ hbq⟩
              case measure => simp [intOf]; omega
            · have hf := hide (hm.trans (okL_no (okB_no4 Hd.out (by rw [hRR]; exact c4))))
              have Hc4 := hide hRR
              have q4 : (R != 0) = true := by simpa using c4
              clear hm c2 c3 hRR c4
              go_wp2_with fail
              refine wp_region_in (fun W => Below wr.heap.size wr W) (Below.refl _ _).drew (by kernel_rfl) (by kernel_rfl) ?_
              repeat (go_big_quiet_step (first
                | (go_at_call_of 75 (Value.int .i64 cl); have hh := HN.out cl; rw [Hc2.out] at hh; exact Calls.in_same (hh _))
                | (go_at_call_of 75 (Value.int .i64 s); have hh := HN.out s; rw [Hc3.out] at hh; exact Calls.in_same (hh _))
                | (go_at_call 76; have hh := fun W => rresult_any kd A' d dc W hk8; rw [Hc4.out] at hh; exact Calls.in_below (hh _))))
              refine wpQuiet_nil ?_
              intro _ hw'
              obtain ⟨nq, hw''⟩ := hw'
              subst hw''
              have hbq := nq.h
              go_wp2
              go_ret
              exact ⟨by rw [hf.out]; rfl, Hb.out _ hbq⟩
          · obtain ⟨e1, he1⟩ : ∃ e, es[k - 1]? = some e := ⟨_, List.getElem?_eq_getElem (by omega)⟩
            have hae := hah (k - 1) e1 (by omega) he1
            subst hae
            have g1 : decide (0 < k) = true := decide_eq_true (by omega)
            have g2 : (0 : Int) < (k : Int) := by omega
            obtain ⟨_, _, _, y4, _⟩ := ((hE.below hB).2 (k - 1) e1 he1).cells hat
            have z4 : ∀ x : InC (fun W => Below wr.heap.size wr W), x.W.cell? (a.add ((k - 1) * 4)) = some (.int .i64 e1.1) := fun x => below_cell x.h y4
            have g3 : ((k : Int) - 1).toNat = k - 1 := by omega
            have g4 : IntKind.i64.wrap ((k : Int) - 1) = (k : Int) - 1 := IntWalk.i64_in _ (by omega)
            have g5 : (0 : Int) ≤ (k : Int) - 1 := by omega
            have g6 : (k : Int) - 1 < (n : Int) := by omega
            obtain ⟨ah, _⟩ := e1
            simp only at z4 hm
            clear hah hah0 he he1 y4 hk0
            by_cases c1 : cl ≤ ah
            · have hf := hide (hm.trans (okL_no (okB_no1 c1)))
              clear hm c2 c3
              go_wp2_with fail
              refine wp_region_in (fun W => Below wr.heap.size wr W) (Below.refl _ _).drew (by kernel_rfl) (by kernel_rfl) ?_
              repeat (go_big_quiet_step (first
                | (go_at_call_of 75 (Value.int .i64 cl); have hh := HN.out cl; rw [Hc2.out] at hh; exact Calls.in_same (hh _))
                | (go_at_call_of 75 (Value.int .i64 s); have hh := HN.out s; rw [Hc3.out] at hh; exact Calls.in_same (hh _))))
              refine wpQuiet_nil ?_
              intro _ hw'
              obtain ⟨nq, hw''⟩ := hw'
              subst hw''
              have hbq := nq.h
              go_wp2
              go_ret
              exact ⟨by rw [hf.out]; rfl, Hb.out _ hbq⟩
            · have g7 : decide (cl ≤ ah) = false := decide_eq_false c1
              have hah1 := c1
              clear c1
              obtain ⟨R, hRR⟩ : ∃ R, rsE kd d = R := ⟨_, rfl⟩
              by_cases c4 : R = 0
              · have hf := hide (hm.trans (okL_step (okB_mk Hd.out hah1 c2 c3 (hRR.trans c4))))
                have Hc4 := hide (hRR.trans c4)
                subst c4
                clear hm c2 c3 hRR hah1
                go_wp2_with fail
                refine wp_region_in (fun W => Below wr.heap.size wr W) (Below.refl _ _).drew (by kernel_rfl) (by kernel_rfl) ?_
                repeat (go_big_quiet_step (first
                  | (go_at_call_of 75 (Value.int .i64 cl); have hh := HN.out cl; rw [Hc2.out] at hh; exact Calls.in_same (hh _))
                  | (go_at_call_of 75 (Value.int .i64 s); have hh := HN.out s; rw [Hc3.out] at hh; exact Calls.in_same (hh _))
                  | (go_at_call 76; have hh := fun W => rresult_any kd A' d dc W hk8; rw [Hc4.out] at hh; exact Calls.in_below (hh _))))
                refine wpQuiet_nil ?_
                intro _ hw'
                obtain ⟨nq, hw''⟩ := hw'
                subst hw''
                have hbq := nq.h
                go_wp2
                go_roundw
                case rel => exact ⟨k + 1, cl, by omega, by go_num, Hnx.out, fun h0 => by omega, hf.out, Hb.out _ hbq⟩
                case measure => simp [intOf]; omega
              · have hf := hide (hm.trans (okL_no (okB_no4 Hd.out (by rw [hRR]; exact c4))))
                have Hc4 := hide hRR
                have q4 : (R != 0) = true := by simpa using c4
                clear hm c2 c3 hRR hah1 c4
                go_wp2_with fail
                refine wp_region_in (fun W => Below wr.heap.size wr W) (Below.refl _ _).drew (by kernel_rfl) (by kernel_rfl) ?_
                repeat (go_big_quiet_step (first
                  | (go_at_call_of 75 (Value.int .i64 cl); have hh := HN.out cl; rw [Hc2.out] at hh; exact Calls.in_same (hh _))
                  | (go_at_call_of 75 (Value.int .i64 s); have hh := HN.out s; rw [Hc3.out] at hh; exact Calls.in_same (hh _))
                  | (go_at_call 76; have hh := fun W => rresult_any kd A' d dc W hk8; rw [Hc4.out] at hh; exact Calls.in_below (hh _))))
                refine wpQuiet_nil ?_
                intro _ hw'
                obtain ⟨nq, hw''⟩ := hw'
                subst hw''
                have hbq := nq.h
                go_wp2
                go_ret
                exact ⟨by rw [hf.out]; rfl, Hb.out _ hbq⟩
    · obtain rfl : k = n := by omega
      have hf := hide (show rowsB es = true by rw [hm, List.drop_eq_nil_of_le (by omega)]; rfl)
      clear hm
      go_wp2
      go_ret
      exact ⟨by rw [hf.out]; rfl, hB⟩
end Go.Proofs.YtcpnobhdogpfiaaDoor
