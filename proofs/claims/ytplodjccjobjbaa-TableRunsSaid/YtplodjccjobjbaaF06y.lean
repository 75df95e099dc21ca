/- plinthref06: a table that is rows, by client: find. -/
import Derived.Test.YtplodjccjobjbaaF06x
namespace Go.Proofs.Ytplodjccjobjbaa
open Go.RowKit Go.Px Go.Maps
set_option linter.unusedVariables false
/-- What a table knows, and its rows. -/
structure TbOf (m : TM) (es : List RowT) : Prop where
  mem : ∀ e : RowT, e ∈ es ↔ m e.1 = some e.2
  srt : es.Pairwise (fun x y => x.1 < y.1)
/-- The document's table at block r of memory. -/
structure RfIs (w : World) (r : Nat) (A : Option Addr) (n c : Nat) (cs : List Value) (es : List RowT) : Prop where
  blk : Blk w r [.slice A n c] 38
  len : es.length = n
  nc : n ≤ c
  cm : c ≤ 9223372036854775807
  rd : Rd w A cs
  rows : RwRows w (fun _ => True) cs es
theorem RfIs.below {w w' : World} {r : Nat} {A : Option Addr} {n c : Nat} {cs : List Value} {es : List RowT} (h : RfIs w r A n c cs es) (hb : Below w.heap.size w w') : RfIs w' r A n c cs es :=
  ⟨h.blk.below hb, h.len, h.nc, h.cm, h.rd.below hb, h.rows.below hb⟩
theorem srt_lt {es : List RowT} (h : es.Pairwise (fun x y => x.1 < y.1)) {i j : Nat} {a b : RowT} (hij : i < j) (ha : es[i]? = some a) (hb : es[j]? = some b) : a.1 < b.1 := by
  obtain ⟨hi, rfl⟩ := List.getElem?_eq_some_iff.1 ha
  obtain ⟨hj, rfl⟩ := List.getElem?_eq_some_iff.1 hb
  exact List.pairwise_iff_getElem.1 h i j hi hj hij
theorem TbOf.atN {m : TM} {es : List RowT} (h : TbOf m es) {c : Int} (hc : m c = none) {e : RowT} (he : e ∈ es) : e.1 ≠ c := by
  rintro rfl
  rw [(h.mem e).1 he] at hc
  cases hc
theorem TbOf.atS {m : TM} {es : List RowT} (h : TbOf m es) {c : Int} {y : Int × Nat × List UInt8} (hc : m c = some y) : ∃ j, es[j]? = some (c, y) ∧ ∀ (i : Nat) (e : RowT), i < j → es[i]? = some e → e.1 ≠ c := by
  obtain ⟨j, hj, he⟩ := List.mem_iff_getElem.1 ((h.mem (c, y)).2 hc)
  have hj' : es[j]? = some (c, y) := by rw [List.getElem?_eq_getElem hj, he]
  exact ⟨j, hj', fun i e hi hei => by have := srt_lt h.srt hi hei hj'; simp at this; omega⟩
section
variable {w : World} {r : Nat} {A : Option Addr} {n c : Nat} {cs : List Value} {es : List RowT}
set_option maxHeartbeats 800000 in
theorem rfind_no (h : RfIs w r A n c cs es) (x : Int) (hx : ∀ e ∈ es, e.1 ≠ x) : Calls Try.prog 27 #[.pointer (some ⟨r, 0, none⟩), .int .i64 x] w fun e w' => e = .returned (.int .i64 (-1)) ∧ w = w' := by
  have x0 := h.blk.cell (j := 0) rfl
  have hnc := h.nc
  have hcm := h.cm
  go_enter Try.func27, Try.ntmps27
  go_wp2
  go_loop [5] (fun i => ∃ k : Nat, k ≤ n ∧ i = .int .i64 k) (fun i => n - (intOf i).toNat)
  case atStart => exact ⟨0, Nat.zero_le _, rfl⟩
  case round =>
    obtain ⟨k, hk, rfl⟩ := hrel
    by_cases hlt : k < n
    · obtain ⟨e, he⟩ : ∃ e, es[k]? = some e := ⟨_, List.getElem?_eq_getElem (by rw [h.len]; exact hlt)⟩
      have hl := h.rows.1
      obtain ⟨a, rfl, hat⟩ := h.rd.some_of (xs := cs) (by rw [hl, h.len]; omega)
      obtain ⟨_, _, _, y0, _⟩ := (h.rows.2 k e he).cells hat
      have q : (e.1 == x) = false := by simpa using hx e (List.mem_of_getElem? he)
      clear hat he hl hx
      go_wp2
      go_round
      case rel => exact ⟨k + 1, by omega, by go_num⟩
      case measure => simp [intOf]; omega
    · obtain rfl : k = n := by omega
      go_wp2
      go_ret
      exact ⟨rfl, rfl⟩
set_option maxHeartbeats 800000 in
theorem rfind_at (h : RfIs w r A n c cs es) (x : Int) (j : Nat) (y : Int × Nat × List UInt8) (hj : es[j]? = some (x, y)) (hx : ∀ (i : Nat) (e : RowT), i < j → es[i]? = some e → e.1 ≠ x) : Calls Try.prog 27 #[.pointer (some ⟨r, 0, none⟩), .int .i64 x] w fun e w' => e = .returned (.int .i64 j) ∧ w = w' := by
  have x0 := h.blk.cell (j := 0) rfl
  have hnc := h.nc
  have hcm := h.cm
  have hjn : j < n := by rw [← h.len]; exact (List.getElem?_eq_some_iff.1 hj).1
  go_enter Try.func27, Try.ntmps27
  go_wp2
  go_loop [5] (fun i => ∃ k : Nat, k ≤ j ∧ i = .int .i64 k) (fun i => n - (intOf i).toNat)
  case atStart => exact ⟨0, Nat.zero_le _, rfl⟩
  case round =>
    obtain ⟨k, hk, rfl⟩ := hrel
    have hl := h.rows.1
    obtain ⟨a, rfl, hat⟩ := h.rd.some_of (xs := cs) (by rw [hl, h.len]; omega)
    by_cases hlt : k < j
    · obtain ⟨e, he⟩ : ∃ e, es[k]? = some e := ⟨_, List.getElem?_eq_getElem (by rw [h.len]; omega)⟩
      obtain ⟨_, _, _, y0, _⟩ := (h.rows.2 k e he).cells hat
      have q : (e.1 == x) = false := by simpa using hx k e hlt he
      clear hat he hl hx hj
      go_wp2
      go_round
      case rel => exact ⟨k + 1, by omega, by go_num⟩
      case measure => simp [intOf]; omega
    · obtain rfl : k = j := by omega
      obtain ⟨_, _, _, y0, _⟩ := (h.rows.2 k _ hj).cells hat
      clear hat hl hx hj
      go_wp2
      go_ret
      exact ⟨rfl, rfl⟩
end
end Go.Proofs.Ytplodjccjobjbaa
