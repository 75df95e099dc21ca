/- How long the rows within the elements of a row may be that lies within the form's reach. -/
import Derived.Test.YtlcbelmbonaooaaRea
namespace Go.Px
set_option maxRecDepth 20000
open Go.RowKit Go.ChangeShapes Go.WideShapes Go.ChangeAt Go.Joins Go.Deep
set_option linter.unusedVariables false
variable {H : Type} {enc : TypeId × Value → H} {P : Program}
theorem weights_mem_all {e : TypeId} : ∀ {ds : List (DataW H)} {d : DataW H}, d ∈ ds → ∀ n ∈ d.weights P e, n ∈ DataW.weightsAll P e ds
  | x :: r, d, hd, n, hn => by
    simp only [DataW.weightsAll, List.mem_append]
    rcases List.mem_cons.1 hd with rfl | hd
    · exact .inl hn
    · exact .inr (weights_mem_all hd n hn)
/-- The rows within each element of a row that came in. -/
theorem light_row {B : Nat} {w : World} {base : Nat} {spare : Nat → Bool} {held : Bool} {t : Ty} {T E : TypeId} (hu : P.underlying T = some (.slice E)) (hf : t.fits P [(E, 0)] = true) (hz : t.bits P [(E, 0)] = true) {A : Option Addr} {n c : Nat} {d : DataW H} {ps : List MemPlace}
    (h : DataW.Trod enc P w base spare held T (.slice A n c) d ps) (hw : ∀ x ∈ d.weights P T, x ≤ B) {vs : List Value} (hr : Rd w A vs) :
    ∀ k, k < n → ∀ i, i < t.n → ∀ u, vs[t.n * k + i]? = some u → ∀ A' n' c', u = .slice A' n' c' → n' ≤ B := by
  obtain ⟨fuel, h⟩ := h
  rcases open_slice hu h with ⟨hcs, _⟩ | ⟨a, len, cap, m, n', D, Pl, hcs, _, hl, hm, hmm, hxx, hel⟩
  · intro k hk
    simp [Value.cells] at hcs
    omega
  · simp [Value.cells] at hcs
    obtain ⟨rfl, rfl, rfl⟩ := hcs
    intro k hk i hi u hv A' n2 c' he
    obtain ⟨cs', hc, ht⟩ := hel k (by rw [hmm]; split <;> omega)
    have h1 := fits_cells hf
    rw [h1] at hc
    obtain ⟨_, hcl, hat⟩ := World.cells?_some hc
    have hlu := light_uni (enc := enc) (B := B) (w := w) (base := base) (spare := spare) (held := held) t [(E, 0)] cs' hf hz (fun T' o' hm => by
      simp at hm
      obtain ⟨rfl, rfl⟩ := hm
      refine ⟨n', _, by rw [List.drop_zero, h1, List.take_of_length_le (by omega)]; exact ht, fun x hx => hw x ?_⟩
      have hd : d = (.slice ((List.range n).map D) ((List.range (m - n)).map fun j => D (n + j))) := (Prod.mk.inj hxx).1
      rw [hd]
      simp only [DataW.weights, hu, List.mem_cons, List.mem_append]
      exact .inr (.inl (weights_mem_all (List.mem_map.2 ⟨k, List.mem_range.2 hk, rfl⟩) x hx)))
    simp only [List.head?_cons, Option.map_some, Option.getD_some, List.drop_zero] at hlu
    rw [List.take_of_length_le (by omega)] at hlu
    refine hlu u ?_ A' n2 c' he
    have hcu := hr.at_ (j := t.n * k + i) hv
    have hri := hat i (by omega)
    rw [Px.add_add, Nat.mul_comm] at hri
    rw [hri] at hcu
    exact List.mem_of_getElem? hcu
end Go.Px
