/- How long the rows within an argument may be that lies within the form's reach. -/
import Derived.Test.YtlcbelmbonaooaaSup18
import Derived.Test.YtlcbelmbonaooaaChecked
import Derived.Deep.Slices
import Derived.SizedLaws
namespace Go.Px
set_option maxRecDepth 20000
open Go.RowKit Go.ChangeShapes Go.WideShapes Go.ChangeAt Go.Joins Go.Deep
set_option linter.unusedVariables false
variable {H : Type} {enc : TypeId × Value → H} {P : Program}
/-- A place whose data is read, all of it within B. -/
def TrodZ (B : Nat) (enc : TypeId × Value → H) (P : Program) (w : World) (base : Nat) (spare : Nat → Bool) (held : Bool) (cs : List Value) (T : TypeId) (o : Nat) : Prop :=
  ∃ fuel x, DataW.trod enc P w base spare held fuel T ((cs.drop o).take (P.cellsOf T)) = some x ∧ ∀ n ∈ x.1.weights P T, n ≤ B
theorem noslice_of {p : Value → Prop} {cs : List Value} (h : one1 p cs) (hp : ∀ v, p v → ∀ A n c, v ≠ .slice A n c) : ∀ v ∈ cs, ∀ A n c, v = .slice A n c → False := by
  obtain ⟨c, rfl, hc⟩ := one1_out h
  intro v hv A n k he
  rw [List.mem_singleton] at hv
  subst hv
  exact hp _ hc A n k he
theorem slice_light {B : Nat} {w : World} {base : Nat} {spare : Nat → Bool} {held : Bool} {T E : TypeId} (hu : P.underlying T = some (.slice E)) (hp : 1 ≤ P.bytesOf E) {fuel : Nat} {cs : List Value} {x : DataW H × List MemPlace}
    (hx : DataW.trod enc P w base spare held fuel T cs = some x) (hw : ∀ n ∈ x.1.weights P T, n ≤ B) : ∀ v ∈ cs, ∀ A n c, v = .slice A n c → n ≤ B := by
  intro v hv A n c he
  rcases open_slice hu hx with ⟨hcs, _⟩ | ⟨a, len, cap, m, k, D, Pl, hcs, _, hl, hm, hmm, hxx, _⟩
  · rw [hcs, List.mem_singleton] at hv
    rw [hv] at he
    cases he
    exact Nat.zero_le _
  · rw [hcs, List.mem_singleton] at hv
    rw [hv] at he
    cases he
    have := hw (_ * P.bytesOf E) (by rw [hxx]; simp [DataW.weights, hu]; exact Or.inl rfl)
    refine Nat.le_trans ?_ this
    refine Nat.le_trans ?_ (Nat.le_mul_of_pos_right _ hp)
    simp
/-- The elements of each row have bytes. -/
def Ty.bits (P : Program) : Ty → List (TypeId × Nat) → Bool
  | .bytes, [(T, _)] => match P.underlying T with | some (.slice E) => decide (1 ≤ P.bytesOf E) | _ => false
  | .row _, [(T, _)] => match P.underlying T with | some (.slice E) => decide (1 ≤ P.bytesOf E) | _ => false
  | .pr a b, (T, o) :: (T2, o2) :: L => a.bits P [(T, o)] && b.bits P ((T2, o2) :: L)
  | .st t, [(T, _)] => match P.underlying T with | some (.struct fs) => t.bits P (fs.toList.map fun f => (f.type, f.offset)) | _ => false
  | _, _ => true
theorem light_uni {B : Nat} {w : World} {base : Nat} {spare : Nat → Bool} {held : Bool} : ∀ (t : Ty) (L : List (TypeId × Nat)) (cs : List Value), t.fits P L = true → t.bits P L = true → (∀ T o, (T, o) ∈ L → TrodZ B enc P w base spare held cs T o) →
    ∀ v ∈ ((cs.drop ((L.head?.map (·.2)).getD 0)).take t.n), ∀ A n c, v = .slice A n c → n ≤ B
  | .i64, [(T, o)], cs, hf, hz, h => by
    obtain ⟨x, hx⟩ := open_uni (enc := enc) (w := w) (base := base) (spare := spare) (held := held) .i64 [(T, o)] cs hf (fun T' o' hm => by obtain ⟨f, y, hy, _⟩ := h T' o' hm; exact ⟨f, y, hy⟩)
    intro v hv A n c he
    exact (noslice_of (p := fun v => v = .int .i64 x ∧ _) hx (fun v hv A n c he => by rw [hv.1] at he; cases he) v hv A n c he).elim
  | .u8, [(T, o)], cs, hf, hz, h => by
    obtain ⟨x, hx⟩ := open_uni (enc := enc) (w := w) (base := base) (spare := spare) (held := held) .u8 [(T, o)] cs hf (fun T' o' hm => by obtain ⟨f, y, hy, _⟩ := h T' o' hm; exact ⟨f, y, hy⟩)
    intro v hv A n c he
    exact (noslice_of (p := fun v => v = .int .u8 ((x : Nat) : Int) ∧ _) hx (fun v hv A n c he => by rw [hv.1] at he; cases he) v hv A n c he).elim
  | .u32, [(T, o)], cs, hf, hz, h => by
    obtain ⟨x, hx⟩ := open_uni (enc := enc) (w := w) (base := base) (spare := spare) (held := held) .u32 [(T, o)] cs hf (fun T' o' hm => by obtain ⟨f, y, hy, _⟩ := h T' o' hm; exact ⟨f, y, hy⟩)
    intro v hv A n c he
    exact (noslice_of (p := fun v => v = .int .u32 ((x : Nat) : Int) ∧ _) hx (fun v hv A n c he => by rw [hv.1] at he; cases he) v hv A n c he).elim
  | .u64, [(T, o)], cs, hf, hz, h => by
    obtain ⟨x, hx⟩ := open_uni (enc := enc) (w := w) (base := base) (spare := spare) (held := held) .u64 [(T, o)] cs hf (fun T' o' hm => by obtain ⟨f, y, hy, _⟩ := h T' o' hm; exact ⟨f, y, hy⟩)
    intro v hv A n c he
    exact (noslice_of (p := fun v => v = .int .u64 ((x : Nat) : Int) ∧ _) hx (fun v hv A n c he => by rw [hv.1] at he; cases he) v hv A n c he).elim
  | .bool, [(T, o)], cs, hf, hz, h => by
    obtain ⟨x, hx⟩ := open_uni (enc := enc) (w := w) (base := base) (spare := spare) (held := held) .bool [(T, o)] cs hf (fun T' o' hm => by obtain ⟨f, y, hy, _⟩ := h T' o' hm; exact ⟨f, y, hy⟩)
    intro v hv A n c he
    exact (noslice_of (p := fun v => v = .bool x) hx (fun v hv A n c he => by rw [hv] at he; cases he) v hv A n c he).elim
  | .bytes, [(T, o)], cs, hf, hz, h => by
    obtain ⟨fuel, x, hx, hw⟩ := h T o (by simp)
    have hc := fits_cells hf
    simp only [Ty.fits] at hf
    split at hf
    · rename_i E hu
      rw [hc] at hx
      simp only [List.head?_cons, Option.map_some, Option.getD_some]
      simp only [Ty.bits, hu, decide_eq_true_eq] at hz
      exact slice_light hu hz hx hw
    · cases hf
  | .row t, [(T, o)], cs, hf, hz, h => by
    obtain ⟨fuel, x, hx, hw⟩ := h T o (by simp)
    have hc := fits_cells hf
    simp only [Ty.fits] at hf
    split at hf
    · rename_i E hu
      rw [hc] at hx
      simp only [List.head?_cons, Option.map_some, Option.getD_some]
      simp only [Ty.bits, hu, decide_eq_true_eq] at hz
      exact slice_light hu hz hx hw
    · cases hf
  | .pr a b, (T, o) :: (T2, o2) :: L, cs, hf, hz, h => by
    simp only [Ty.bits, Bool.and_eq_true] at hz
    simp only [Ty.fits, Bool.and_eq_true, beq_iff_eq] at hf
    obtain ⟨⟨ho, h1⟩, h2⟩ := hf
    have hx := light_uni a [(T, o)] cs h1 hz.1 (fun T' o' hm => h T' o' (by simp at hm; simp [hm]))
    have hy := light_uni b ((T2, o2) :: L) cs h2 hz.2 (fun T' o' hm => h T' o' (List.mem_cons_of_mem _ hm))
    intro v hv A n c he
    simp only [List.head?_cons, Option.map_some, Option.getD_some] at hx hy hv
    rw [show (Ty.pr a b).n = a.n + b.n from rfl, List.take_add, List.mem_append, List.drop_drop, ← ho] at hv
    rcases hv with hv | hv
    · exact hx v hv A n c he
    · exact hy v hv A n c he
  | .st t, [(T, o)], cs, hf, hz, h => by
    obtain ⟨fuel, x, hx, hw⟩ := h T o (by simp)
    simp only [Ty.fits] at hf
    simp only [Ty.bits] at hz
    split at hf <;> simp_all
    rename_i fs hu
    obtain ⟨⟨h1, h3⟩, h2⟩ := hf
    obtain ⟨ys, n', _, hxx, hlen, hyl, hg⟩ := DataW.trod_struct hu hx
    have hy := light_uni (B := B) t (fs.toList.map fun f => (f.type, f.offset)) ((cs.drop o).take (P.cellsOf T)) h2 hz (fun T' o' hm => by
      obtain ⟨f, hf, he⟩ := List.mem_map.1 hm
      injection he with he1 he2
      subst he1 he2
      obtain ⟨i, hi, hie⟩ := List.mem_iff_getElem.1 hf
      have hi' : i < fs.size := by simpa using hi
      have hgi := hg i f (by rw [Array.getElem?_eq_getElem hi']; simp at hie; rw [hie])
      have hyi : ys[i]? = some ys[i] := List.getElem?_eq_getElem (by rw [hyl]; exact hi')
      rw [hyi] at hgi
      refine ⟨n', ys[i], by rw [h1]; exact hgi, fun n hn => ?_⟩
      have hw2 : ∀ n ∈ DataW.weightsEach P (fs.toList.map (·.type)) (ys.map (·.1)), n ≤ B := fun n hn => hw n (by
        rw [hxx]; simp only [DataW.weights, hu]; exact hn)
      refine hw2 n (DataW.weights_mem_each (j := i) (t := f.type) (d := ys[i].1) ?_ ?_ n hn)
      · rw [List.getElem?_map, List.getElem?_eq_getElem hi, hie]; rfl
      · rw [List.getElem?_map, hyi]; rfl)
    obtain ⟨hd, hh1, hh2⟩ := h3
    simp only [List.head?_map, hh1, Option.map_some, Option.getD_some, hh2, List.drop_zero, h1, List.take_take, Nat.min_self] at hy
    exact hy
/-- The rows of an argument within the form's reach. -/
theorem light_any {B : Nat} {w : World} {base : Nat} {spare : Nat → Bool} {held : Bool} {t : Ty} {T : TypeId} (hf : t.fits P [(T, 0)] = true) (hz : t.bits P [(T, 0)] = true) {v : Value} {d : DataW H} {ps : List MemPlace} (h : DataW.Trod enc P w base spare held T v d ps) (hw : ∀ n ∈ d.weights P T, n ≤ B) :
    ∀ u ∈ v.cells.toList, ∀ A n c, u = .slice A n c → n ≤ B := by
  obtain ⟨fuel, h⟩ := h
  have hl := trod_len hf h
  have := light_uni (enc := enc) (w := w) (base := base) (spare := spare) (held := held) t [(T, 0)] v.cells.toList hf hz (fun T' o' hm => by
    simp at hm
    obtain ⟨rfl, rfl⟩ := hm
    exact ⟨fuel, _, by rw [List.drop_zero, List.take_of_length_le (by omega)]; exact h, hw⟩)
  simp only [List.head?_cons, Option.map_some, Option.getD_some, List.drop_zero] at this
  rw [List.take_of_length_le (by rw [hl, fits_cells hf]; exact Nat.le_refl _)] at this
  exact this
end Go.Px
