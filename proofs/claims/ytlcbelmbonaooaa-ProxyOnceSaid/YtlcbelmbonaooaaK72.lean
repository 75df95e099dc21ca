/- Texts joined (shake.py). -/
import Derived.Deep.Slices
import Derived.Lib.SmallJoins
import Derived.Deep.Fields
import Derived.SizedLaws
import Derived.Deep.Quiet
import Derived.Deep.QuietTactic
import Derived.BigQuiet
import Derived.Test.YtlcbelmbonaooaaK71
namespace Go.Px
open Go.RowKit Go.ChangeShapes Go.WideShapes Go.ChangeAt Go.Deep
/-- A shape of data. -/
inductive Ty where
  | i64 | u8 | u32 | u64 | bool | bytes
  | row (t : Ty)
  | pr (a b : Ty)
  | st (t : Ty)
abbrev Ty.Den : Ty → Type
  | .i64 => Int
  | .u8 | .u32 | .u64 => Nat
  | .bool => Bool
  | .bytes => List UInt8
  | .row t => List t.Den
  | .pr a b => a.Den × b.Den
  | .st t => t.Den
def Ty.n : Ty → Nat
  | .pr a b => a.n + b.n
  | .st t => t.n
  | _ => 1
theorem Ty.n_pos : ∀ t : Ty, 0 < t.n
  | .i64 | .u8 | .u32 | .u64 | .bool | .bytes | .row _ => Nat.zero_lt_one
  | .pr a _ => Nat.lt_of_lt_of_le a.n_pos (Nat.le_add_right _ _)
  | .st t => t.n_pos
/-- One cell. -/
def one1 (p : Value → Prop) : List Value → Prop
  | [c] => p c
  | _ => False
theorem one1_len {p : Value → Prop} : ∀ {cs : List Value}, one1 p cs → cs.length = 1
  | [_], _ => rfl
theorem one1_out {p : Value → Prop} : ∀ {cs : List Value}, one1 p cs → ∃ c, cs = [c] ∧ p c
  | [c], h => ⟨c, rfl, h⟩
/-- Cells hold data; Q: which blocks what they point at lies in. -/
def Ty.Is (w : World) (Q : Nat → Prop) : (t : Ty) → t.Den → List Value → Prop
  | .i64, x, cs => one1 (fun v => v = .int .i64 x ∧ -9223372036854775808 ≤ x ∧ x ≤ 9223372036854775807) cs
  | .u8, x, cs => one1 (fun v => v = .int .u8 ((x : Nat) : Int) ∧ x < 256) cs
  | .u32, x, cs => one1 (fun v => v = .int .u32 ((x : Nat) : Int) ∧ x < 4294967296) cs
  | .u64, x, cs => one1 (fun v => v = .int .u64 ((x : Nat) : Int) ∧ x < 18446744073709551616) cs
  | .bool, x, cs => one1 (fun v => v = .bool x) cs
  | .bytes, bs, cs => one1 (fun v => ∃ (A : Option Addr) (n c : Nat), v = .slice A n c ∧ bs.length = n ∧ n ≤ c ∧ c ≤ 9223372036854775807 ∧ Rd w A (bys bs) ∧ (bs ≠ [] → ∀ a, A = some a → Q a.block)) cs
  | .row t, xs, cs => one1 (fun v => ∃ (A : Option Addr) (n c : Nat) (vs : List Value), v = .slice A n c ∧ xs.length = n ∧ n ≤ c ∧ c ≤ 9223372036854775807 ∧ Rd w A vs ∧ (xs ≠ [] → ∀ a, A = some a → Q a.block) ∧
      (vs.length = t.n * xs.length ∧ ∀ (j : Nat) (x : t.Den), xs[j]? = some x → t.Is w Q x ((vs.drop (t.n * j)).take t.n))) cs
  | .pr a b, x, cs => a.Is w Q x.1 (cs.take a.n) ∧ b.Is w Q x.2 (cs.drop a.n)
  | .st t, x, cs => t.Is w Q x cs
/-- The cells of a row, laid one behind the other. -/
def Ty.Rows (w : World) (Q : Nat → Prop) (t : Ty) (xs : List t.Den) (vs : List Value) : Prop := vs.length = t.n * xs.length ∧ ∀ (j : Nat) (x : t.Den), xs[j]? = some x → t.Is w Q x ((vs.drop (t.n * j)).take t.n)
theorem one1_imp {p q : Value → Prop} (h : ∀ v, p v → q v) : ∀ {cs : List Value}, one1 p cs → one1 q cs
  | [c], hc => h c hc
theorem Ty.Is.len {w : World} {Q : Nat → Prop} : ∀ {t : Ty} {x : t.Den} {cs : List Value}, t.Is w Q x cs → cs.length = t.n
  | .i64, _, _, h => one1_len h
  | .u8, _, _, h => one1_len h
  | .u32, _, _, h => one1_len h
  | .u64, _, _, h => one1_len h
  | .bool, _, _, h => one1_len h
  | .bytes, _, _, h => one1_len h
  | .row _, _, _, h => one1_len h
  | .pr a b, x, cs, ⟨h1, h2⟩ => by
    have e1 := Ty.Is.len h1
    have e2 := Ty.Is.len h2
    have := b.n_pos
    simp only [List.length_take, List.length_drop] at e1 e2
    show cs.length = a.n + b.n
    omega
  | .st t, x, cs, h => Ty.Is.len (t := t) h
theorem Ty.Is.keep {w w' : World} {Q Q' : Nat → Prop} (hk : ∀ (A : Option Addr) (xs : List Value), Rd w A xs → (xs ≠ [] → ∀ a, A = some a → Q a.block) → Rd w' A xs) (hQ : ∀ b, Q b → Q' b) :
    ∀ (t : Ty) (x : t.Den) (cs : List Value), t.Is w Q x cs → t.Is w' Q' x cs
  | .i64, _, _, h => h
  | .u8, _, _, h => h
  | .u32, _, _, h => h
  | .u64, _, _, h => h
  | .bool, _, _, h => h
  | .bytes, bs, cs, h => one1_imp (fun v ⟨A, n, c, h1, h2, h3, h4, h5, h6⟩ => ⟨A, n, c, h1, h2, h3, h4, hk _ _ h5 (fun hne a ha => h6 (fun e => hne (by rw [e]; rfl)) a ha), fun hne a ha => hQ _ (h6 hne a ha)⟩) h
  | .row t, xs, cs, h => one1_imp (fun v ⟨A, n, c, vs, h1, h2, h3, h4, h5, h6, h7, h8⟩ =>
    ⟨A, n, c, vs, h1, h2, h3, h4, hk _ _ h5 (fun hne a ha => h6 (fun e => hne (List.eq_nil_of_length_eq_zero (by rw [h7, e]; simp))) a ha), fun hne a ha => hQ _ (h6 hne a ha), h7, fun j x hx => Ty.Is.keep hk hQ t x _ (h8 j x hx)⟩) h
  | .pr a b, x, cs, ⟨h2, h3⟩ => ⟨Ty.Is.keep hk hQ a _ _ h2, Ty.Is.keep hk hQ b _ _ h3⟩
  | .st t, x, cs, h => Ty.Is.keep hk hQ t x cs h
theorem rd_empty {w : World} {A : Option Addr} {xs : List Value} (h : xs = []) : Rd w A xs := by rw [h]; exact Rd.nil
theorem rd_block {w : World} {A : Option Addr} {xs : List Value} (h : Rd w A xs) (hne : xs ≠ []) : ∀ a, A = some a → a.block < w.heap.size := by
  rintro a rfl
  obtain ⟨u, us, rfl⟩ := List.exists_cons_of_ne_nil hne
  have := World.block_lt_of_cell? w _ (h.at_ (j := 0) (u := u) rfl)
  rwa [add_block] at this
/-- What reads at all lies below the heap's end. -/
theorem Ty.Is.here {w : World} {Q : Nat → Prop} : ∀ {t : Ty} {x : t.Den} {cs : List Value}, t.Is w Q x cs → t.Is w (fun b => Q b ∧ b < w.heap.size) x cs
  | .i64, _, _, h => h
  | .u8, _, _, h => h
  | .u32, _, _, h => h
  | .u64, _, _, h => h
  | .bool, _, _, h => h
  | .bytes, bs, cs, h => one1_imp (fun v ⟨A, n, c, h1, h2, h3, h4, h5, h6⟩ => ⟨A, n, c, h1, h2, h3, h4, h5, fun hne a ha => ⟨h6 hne a ha, rd_block h5 (fun e => hne (List.map_eq_nil_iff.1 e)) a ha⟩⟩) h
  | .row t, xs, cs, h => one1_imp (fun v ⟨A, n, c, vs, h1, h2, h3, h4, h5, h6, h7, h8⟩ => by
    refine ⟨A, n, c, vs, h1, h2, h3, h4, h5, fun hne a ha => ⟨h6 hne a ha, rd_block h5 (fun e => ?_) a ha⟩, h7, fun j x hx => Ty.Is.here (t := t) (h8 j x hx)⟩
    have h0 := t.n_pos
    have hl : 0 < xs.length := List.length_pos_iff.2 hne
    have := Nat.mul_pos h0 hl
    rw [e] at h7
    simp at h7
    omega) h
  | .pr a b, x, cs, ⟨h2, h3⟩ => ⟨Ty.Is.here h2, Ty.Is.here h3⟩
  | .st t, x, cs, h => Ty.Is.here (t := t) h
section
variable {w w' : World} {Q Q' : Nat → Prop} {t : Ty} {x : t.Den} {cs : List Value}
theorem Ty.Is.below (h : t.Is w Q x cs) (hb : Below w.heap.size w w') : t.Is w' Q x cs := Ty.Is.keep (fun _ _ hr _ => hr.below hb) (fun _ h => h) t x cs h
theorem Ty.Is.mono (h : t.Is w Q x cs) (hQ : ∀ b, Q b → Q' b) : t.Is w Q' x cs := Ty.Is.keep (fun _ _ hr _ => hr) hQ t x cs h
theorem Ty.Is.any (h : t.Is w Q x cs) : t.Is w (fun _ => True) x cs := h.mono fun _ _ => trivial
theorem Ty.Is.low (h : t.Is w Q x cs) : t.Is w (fun b => b < w.heap.size) x cs := h.here.mono fun _ h => h.2
theorem Ty.Is.grown (h : t.Is w Q x cs) {r : Option Nat} (hg : w.grownBy w' r) (hr : ∀ b, Q b → some b ≠ r) : t.Is w' Q x cs :=
  Ty.Is.keep (fun A xs h hq => by
    by_cases he : xs = []
    · exact rd_empty he
    · exact h.grown hg (fun a ha => hr _ (hq he a ha))) (fun _ h => h) t x cs h
theorem Ty.Is.lo {B : Nat} (h : t.Is w (fun b => b < B) x cs) (hb : Below B w w') : t.Is w' (fun b => b < B) x cs :=
  Ty.Is.keep (fun A xs h hq => by
    by_cases he : xs = []
    · exact rd_empty he
    · exact h.lo (fun a ha => hq he a ha) hb) (fun _ h => h) t x cs h
variable {xs : List t.Den} {vs : List Value}
theorem Ty.Rows.len (h : t.Rows w Q xs vs) : vs.length = t.n * xs.length := h.1
theorem Ty.Rows.nil : t.Rows w Q [] [] := ⟨by simp, fun j x h => by simp at h⟩
theorem Ty.Rows.keep (h : t.Rows w Q xs vs) (hk : ∀ (A : Option Addr) (xs : List Value), Rd w A xs → (xs ≠ [] → ∀ a, A = some a → Q a.block) → Rd w' A xs) (hQ : ∀ b, Q b → Q' b) : t.Rows w' Q' xs vs := ⟨h.1, fun j x hx => (h.2 j x hx).keep hk hQ⟩
theorem Ty.Rows.below (h : t.Rows w Q xs vs) (hb : Below w.heap.size w w') : t.Rows w' Q xs vs := ⟨h.1, fun j x hx => (h.2 j x hx).below hb⟩
theorem Ty.Rows.mono (h : t.Rows w Q xs vs) (hQ : ∀ b, Q b → Q' b) : t.Rows w Q' xs vs := ⟨h.1, fun j x hx => (h.2 j x hx).mono hQ⟩
theorem Ty.Rows.any (h : t.Rows w Q xs vs) : t.Rows w (fun _ => True) xs vs := h.mono fun _ _ => trivial
theorem Ty.Rows.low (h : t.Rows w Q xs vs) : t.Rows w (fun b => b < w.heap.size) xs vs := ⟨h.1, fun j x hx => (h.2 j x hx).low⟩
theorem Ty.Rows.grown (h : t.Rows w Q xs vs) {r : Option Nat} (hg : w.grownBy w' r) (hr : ∀ b, Q b → some b ≠ r) : t.Rows w' Q xs vs := ⟨h.1, fun j x hx => (h.2 j x hx).grown hg hr⟩
theorem Ty.Rows.lo {B : Nat} (h : t.Rows w (fun b => b < B) xs vs) (hb : Below B w w') : t.Rows w' (fun b => b < B) xs vs := ⟨h.1, fun j x hx => (h.2 j x hx).lo hb⟩
theorem Ty.Rows.append (h : t.Rows w Q xs vs) {ys : List t.Den} {us : List Value} (h2 : t.Rows w Q ys us) : t.Rows w Q (xs ++ ys) (vs ++ us) := by
  refine ⟨by simp [h.1, h2.1, Nat.mul_add], fun j x hx => ?_⟩
  have h0 := t.n_pos
  by_cases hj : j < xs.length
  · rw [List.getElem?_append_left hj] at hx
    have := h.2 j x hx
    have hm : t.n * j + t.n ≤ vs.length := by
      rw [h.1, ← Nat.mul_succ]; exact Nat.mul_le_mul_left _ hj
    rw [List.drop_append_of_le_length (by omega), List.take_append_of_le_length (by simp; omega)]
    exact this
  · rw [List.getElem?_append_right (by omega)] at hx
    have := h2.2 (j - xs.length) x hx
    have e : t.n * j = vs.length + t.n * (j - xs.length) := by
      rw [h.1, ← Nat.mul_add]; congr 1; omega
    rw [e, List.drop_append]
    rw [List.drop_eq_nil_of_le (by omega), List.nil_append, show vs.length + t.n * (j - xs.length) - vs.length = t.n * (j - xs.length) by omega]
    exact this
theorem Ty.Rows.one (h : t.Is w Q x cs) : t.Rows w Q [x] cs := by
  refine ⟨by rw [h.len]; simp, fun j y hy => ?_⟩
  obtain ⟨hj, he⟩ := List.getElem?_eq_some_iff.1 hy
  have hj : j = 0 := by simpa using hj
  subst hj
  simp at he
  subst he
  rw [Nat.mul_zero, List.drop_zero, List.take_of_length_le (by rw [h.len]; exact Nat.le_refl _)]
  exact h
theorem Ty.Rows.snoc (h : t.Rows w Q xs vs) (hx : t.Is w Q x cs) : t.Rows w Q (xs ++ [x]) (vs ++ cs) := h.append (Ty.Rows.one hx)
theorem Ty.Rows.take (h : t.Rows w Q xs vs) (k : Nat) : t.Rows w Q (xs.take k) (vs.take (t.n * k)) := by
  refine ⟨by simp [h.1, ← Nat.mul_min_mul_left], fun j x hx => ?_⟩
  rw [List.getElem?_take] at hx
  split at hx
  · rename_i hj
    have := h.2 j x hx
    rw [List.drop_take, List.take_take]
    have hm : t.n * j + t.n ≤ t.n * k := by rw [← Nat.mul_succ]; exact Nat.mul_le_mul_left _ hj
    rw [Nat.min_eq_left (by omega)]
    exact this
  · cases hx
theorem Ty.Rows.drop (h : t.Rows w Q xs vs) (k : Nat) : t.Rows w Q (xs.drop k) (vs.drop (t.n * k)) := by
  refine ⟨by simp [h.1, Nat.mul_sub], fun j x hx => ?_⟩
  rw [List.getElem?_drop] at hx
  have := h.2 _ x hx
  rw [List.drop_drop, ← Nat.mul_add]
  exact this
/-- The cells of the element at a place. -/
theorem Ty.Rows.get (h : t.Rows w Q xs vs) {k : Nat} (hx : xs[k]? = some x) : ∃ cs, t.Is w Q x cs ∧ ∀ (i : Nat) (u : Value), cs[i]? = some u → vs[t.n * k + i]? = some u := by
  have hI := h.2 k x hx
  refine ⟨_, hI, fun i u hu => ?_⟩
  rw [List.getElem?_take] at hu
  split at hu
  · rwa [List.getElem?_drop] at hu
  · cases hu
/-- .. where they lie, in a slice that begins at a: the walk writes the first one's address so, and the others' .. -/
theorem el_0 {a : Addr} (hat : ∀ (j : Nat) (u : Value), vs[j]? = some u → w'.cell? (a.add j) = some u) {n k : Nat} {u : Value} (h : vs[n * k + 0]? = some u) : w'.cell? (a.add (k * n)) = some u := by
  rw [Nat.mul_comm]; exact hat _ _ h
theorem el_S {a : Addr} (hat : ∀ (j : Nat) (u : Value), vs[j]? = some u → w'.cell? (a.add j) = some u) {n k i : Nat} {u : Value} (h : vs[n * k + (i + 1)]? = some u) : w'.cell? ⟨(a.add (k * n)).block, (a.add (k * n)).off + (i + 1), none⟩ = some u := by
  have := hat _ _ h
  have e : a.add (n * k + (i + 1)) = ⟨(a.add (k * n)).block, (a.add (k * n)).off + (i + 1), none⟩ := by
    unfold Addr.add
    rw [if_neg (by omega)]
    split
    · rename_i h0
      rw [Nat.mul_comm] at h0
      rw [h0, Nat.zero_add]
    · show (⟨a.block, a.off + (n * k + (i + 1)), none⟩ : Addr) = ⟨a.block, a.off + k * n + (i + 1), none⟩
      rw [Nat.mul_comm, Nat.add_assoc]
  rw [← e]; exact this
/-- .. and at the first element. -/
theorem el_00 {a : Addr} (hat : ∀ (j : Nat) (u : Value), vs[j]? = some u → w'.cell? (a.add j) = some u) {n : Nat} {u : Value} (h : vs[n * 0 + 0]? = some u) : w'.cell? a = some u := by
  have := hat _ _ h
  rwa [Nat.mul_zero] at this
theorem el_0S {a : Addr} (hat : ∀ (j : Nat) (u : Value), vs[j]? = some u → w'.cell? (a.add j) = some u) {n i : Nat} {u : Value} (h : vs[n * 0 + (i + 1)]? = some u) : w'.cell? ⟨a.block, a.off + (i + 1), none⟩ = some u := by
  have := hat _ _ h
  rw [Nat.mul_zero, Nat.zero_add] at this
  unfold Addr.add at this
  rwa [if_neg (by omega)] at this
end
/-- Each is one cell. -/
theorem Ty.Is.ones {w : World} {Q : Nat → Prop} : ∀ {t : Ty} {x : t.Den} {cs : List Value}, t.Is w Q x cs → ∀ u ∈ cs, u.oneCell' = true
  | .i64, _, _, h => by obtain ⟨c, rfl, rfl, _⟩ := one1_out h; intro u hu; simp at hu; subst hu; rfl
  | .u8, _, _, h => by obtain ⟨c, rfl, rfl, _⟩ := one1_out h; intro u hu; simp at hu; subst hu; rfl
  | .u32, _, _, h => by obtain ⟨c, rfl, rfl, _⟩ := one1_out h; intro u hu; simp at hu; subst hu; rfl
  | .u64, _, _, h => by obtain ⟨c, rfl, rfl, _⟩ := one1_out h; intro u hu; simp at hu; subst hu; rfl
  | .bool, _, _, h => by obtain ⟨c, rfl, rfl⟩ := one1_out h; intro u hu; simp at hu; subst hu; rfl
  | .bytes, _, _, h => by obtain ⟨c, rfl, _, _, _, rfl, _⟩ := one1_out h; intro u hu; simp at hu; subst hu; rfl
  | .row _, _, _, h => by obtain ⟨c, rfl, _, _, _, _, rfl, _⟩ := one1_out h; intro u hu; simp at hu; subst hu; rfl
  | .pr a b, x, cs, ⟨h1, h2⟩ => fun u hu => by
    rw [← List.take_append_drop a.n cs] at hu
    rcases List.mem_append.1 hu with hu | hu
    · exact Ty.Is.ones h1 u hu
    · exact Ty.Is.ones h2 u hu
  | .st t, x, cs, h => Ty.Is.ones (t := t) h
theorem Ty.Rows.ones {w : World} {Q : Nat → Prop} {t : Ty} : ∀ {xs : List t.Den} {vs : List Value}, t.Rows w Q xs vs → ∀ u ∈ vs, u.oneCell' = true := by
  intro xs vs h u hu
  obtain ⟨m, hm, rfl⟩ := List.mem_iff_getElem.1 hu
  have h0 := t.n_pos
  have hk : m / t.n < xs.length := by
    rw [Nat.div_lt_iff_lt_mul h0, Nat.mul_comm, ← h.1]; exact hm
  have hI := h.2 (m / t.n) _ (List.getElem?_eq_getElem hk)
  refine hI.ones _ ?_
  rw [List.mem_iff_getElem?]
  refine ⟨m % t.n, ?_⟩
  rw [List.getElem?_take, if_pos (Nat.mod_lt _ h0), List.getElem?_drop, Nat.div_add_mod, List.getElem?_eq_getElem hm]

theorem list_1 {cs : List Value} (h : cs.length = 1) : ∃ c0, cs = [c0] := by
  match cs, h with
  | [c0], _ => exact ⟨c0, rfl⟩
theorem list_2 {cs : List Value} (h : cs.length = 2) : ∃ c0 c1, cs = [c0, c1] := by
  match cs, h with
  | [c0, c1], _ => exact ⟨c0, c1, rfl⟩
theorem list_3 {cs : List Value} (h : cs.length = 3) : ∃ c0 c1 c2, cs = [c0, c1, c2] := by
  match cs, h with
  | [c0, c1, c2], _ => exact ⟨c0, c1, c2, rfl⟩
theorem list_4 {cs : List Value} (h : cs.length = 4) : ∃ c0 c1 c2 c3, cs = [c0, c1, c2, c3] := by
  match cs, h with
  | [c0, c1, c2, c3], _ => exact ⟨c0, c1, c2, c3, rfl⟩
theorem list_5 {cs : List Value} (h : cs.length = 5) : ∃ c0 c1 c2 c3 c4, cs = [c0, c1, c2, c3, c4] := by
  match cs, h with
  | [c0, c1, c2, c3, c4], _ => exact ⟨c0, c1, c2, c3, c4, rfl⟩
theorem list_6 {cs : List Value} (h : cs.length = 6) : ∃ c0 c1 c2 c3 c4 c5, cs = [c0, c1, c2, c3, c4, c5] := by
  match cs, h with
  | [c0, c1, c2, c3, c4, c5], _ => exact ⟨c0, c1, c2, c3, c4, c5, rfl⟩
theorem list_7 {cs : List Value} (h : cs.length = 7) : ∃ c0 c1 c2 c3 c4 c5 c6, cs = [c0, c1, c2, c3, c4, c5, c6] := by
  match cs, h with
  | [c0, c1, c2, c3, c4, c5, c6], _ => exact ⟨c0, c1, c2, c3, c4, c5, c6, rfl⟩
theorem list_8 {cs : List Value} (h : cs.length = 8) : ∃ c0 c1 c2 c3 c4 c5 c6 c7, cs = [c0, c1, c2, c3, c4, c5, c6, c7] := by
  match cs, h with
  | [c0, c1, c2, c3, c4, c5, c6, c7], _ => exact ⟨c0, c1, c2, c3, c4, c5, c6, c7, rfl⟩
theorem list_9 {cs : List Value} (h : cs.length = 9) : ∃ c0 c1 c2 c3 c4 c5 c6 c7 c8, cs = [c0, c1, c2, c3, c4, c5, c6, c7, c8] := by
  match cs, h with
  | [c0, c1, c2, c3, c4, c5, c6, c7, c8], _ => exact ⟨c0, c1, c2, c3, c4, c5, c6, c7, c8, rfl⟩
theorem list_10 {cs : List Value} (h : cs.length = 10) : ∃ c0 c1 c2 c3 c4 c5 c6 c7 c8 c9, cs = [c0, c1, c2, c3, c4, c5, c6, c7, c8, c9] := by
  match cs, h with
  | [c0, c1, c2, c3, c4, c5, c6, c7, c8, c9], _ => exact ⟨c0, c1, c2, c3, c4, c5, c6, c7, c8, c9, rfl⟩
theorem list_11 {cs : List Value} (h : cs.length = 11) : ∃ c0 c1 c2 c3 c4 c5 c6 c7 c8 c9 c10, cs = [c0, c1, c2, c3, c4, c5, c6, c7, c8, c9, c10] := by
  match cs, h with
  | [c0, c1, c2, c3, c4, c5, c6, c7, c8, c9, c10], _ => exact ⟨c0, c1, c2, c3, c4, c5, c6, c7, c8, c9, c10, rfl⟩
theorem list_12 {cs : List Value} (h : cs.length = 12) : ∃ c0 c1 c2 c3 c4 c5 c6 c7 c8 c9 c10 c11, cs = [c0, c1, c2, c3, c4, c5, c6, c7, c8, c9, c10, c11] := by
  match cs, h with
  | [c0, c1, c2, c3, c4, c5, c6, c7, c8, c9, c10, c11], _ => exact ⟨c0, c1, c2, c3, c4, c5, c6, c7, c8, c9, c10, c11, rfl⟩
theorem list_13 {cs : List Value} (h : cs.length = 13) : ∃ c0 c1 c2 c3 c4 c5 c6 c7 c8 c9 c10 c11 c12, cs = [c0, c1, c2, c3, c4, c5, c6, c7, c8, c9, c10, c11, c12] := by
  match cs, h with
  | [c0, c1, c2, c3, c4, c5, c6, c7, c8, c9, c10, c11, c12], _ => exact ⟨c0, c1, c2, c3, c4, c5, c6, c7, c8, c9, c10, c11, c12, rfl⟩
theorem list_14 {cs : List Value} (h : cs.length = 14) : ∃ c0 c1 c2 c3 c4 c5 c6 c7 c8 c9 c10 c11 c12 c13, cs = [c0, c1, c2, c3, c4, c5, c6, c7, c8, c9, c10, c11, c12, c13] := by
  match cs, h with
  | [c0, c1, c2, c3, c4, c5, c6, c7, c8, c9, c10, c11, c12, c13], _ => exact ⟨c0, c1, c2, c3, c4, c5, c6, c7, c8, c9, c10, c11, c12, c13, rfl⟩
theorem list_15 {cs : List Value} (h : cs.length = 15) : ∃ c0 c1 c2 c3 c4 c5 c6 c7 c8 c9 c10 c11 c12 c13 c14, cs = [c0, c1, c2, c3, c4, c5, c6, c7, c8, c9, c10, c11, c12, c13, c14] := by
  match cs, h with
  | [c0, c1, c2, c3, c4, c5, c6, c7, c8, c9, c10, c11, c12, c13, c14], _ => exact ⟨c0, c1, c2, c3, c4, c5, c6, c7, c8, c9, c10, c11, c12, c13, c14, rfl⟩
theorem list_16 {cs : List Value} (h : cs.length = 16) : ∃ c0 c1 c2 c3 c4 c5 c6 c7 c8 c9 c10 c11 c12 c13 c14 c15, cs = [c0, c1, c2, c3, c4, c5, c6, c7, c8, c9, c10, c11, c12, c13, c14, c15] := by
  match cs, h with
  | [c0, c1, c2, c3, c4, c5, c6, c7, c8, c9, c10, c11, c12, c13, c14, c15], _ => exact ⟨c0, c1, c2, c3, c4, c5, c6, c7, c8, c9, c10, c11, c12, c13, c14, c15, rfl⟩
theorem list_17 {cs : List Value} (h : cs.length = 17) : ∃ c0 c1 c2 c3 c4 c5 c6 c7 c8 c9 c10 c11 c12 c13 c14 c15 c16, cs = [c0, c1, c2, c3, c4, c5, c6, c7, c8, c9, c10, c11, c12, c13, c14, c15, c16] := by
  match cs, h with
  | [c0, c1, c2, c3, c4, c5, c6, c7, c8, c9, c10, c11, c12, c13, c14, c15, c16], _ => exact ⟨c0, c1, c2, c3, c4, c5, c6, c7, c8, c9, c10, c11, c12, c13, c14, c15, c16, rfl⟩
theorem list_18 {cs : List Value} (h : cs.length = 18) : ∃ c0 c1 c2 c3 c4 c5 c6 c7 c8 c9 c10 c11 c12 c13 c14 c15 c16 c17, cs = [c0, c1, c2, c3, c4, c5, c6, c7, c8, c9, c10, c11, c12, c13, c14, c15, c16, c17] := by
  match cs, h with
  | [c0, c1, c2, c3, c4, c5, c6, c7, c8, c9, c10, c11, c12, c13, c14, c15, c16, c17], _ => exact ⟨c0, c1, c2, c3, c4, c5, c6, c7, c8, c9, c10, c11, c12, c13, c14, c15, c16, c17, rfl⟩
theorem list_19 {cs : List Value} (h : cs.length = 19) : ∃ c0 c1 c2 c3 c4 c5 c6 c7 c8 c9 c10 c11 c12 c13 c14 c15 c16 c17 c18, cs = [c0, c1, c2, c3, c4, c5, c6, c7, c8, c9, c10, c11, c12, c13, c14, c15, c16, c17, c18] := by
  match cs, h with
  | [c0, c1, c2, c3, c4, c5, c6, c7, c8, c9, c10, c11, c12, c13, c14, c15, c16, c17, c18], _ => exact ⟨c0, c1, c2, c3, c4, c5, c6, c7, c8, c9, c10, c11, c12, c13, c14, c15, c16, c17, c18, rfl⟩
theorem list_20 {cs : List Value} (h : cs.length = 20) : ∃ c0 c1 c2 c3 c4 c5 c6 c7 c8 c9 c10 c11 c12 c13 c14 c15 c16 c17 c18 c19, cs = [c0, c1, c2, c3, c4, c5, c6, c7, c8, c9, c10, c11, c12, c13, c14, c15, c16, c17, c18, c19] := by
  match cs, h with
  | [c0, c1, c2, c3, c4, c5, c6, c7, c8, c9, c10, c11, c12, c13, c14, c15, c16, c17, c18, c19], _ => exact ⟨c0, c1, c2, c3, c4, c5, c6, c7, c8, c9, c10, c11, c12, c13, c14, c15, c16, c17, c18, c19, rfl⟩
theorem list_21 {cs : List Value} (h : cs.length = 21) : ∃ c0 c1 c2 c3 c4 c5 c6 c7 c8 c9 c10 c11 c12 c13 c14 c15 c16 c17 c18 c19 c20, cs = [c0, c1, c2, c3, c4, c5, c6, c7, c8, c9, c10, c11, c12, c13, c14, c15, c16, c17, c18, c19, c20] := by
  match cs, h with
  | [c0, c1, c2, c3, c4, c5, c6, c7, c8, c9, c10, c11, c12, c13, c14, c15, c16, c17, c18, c19, c20], _ => exact ⟨c0, c1, c2, c3, c4, c5, c6, c7, c8, c9, c10, c11, c12, c13, c14, c15, c16, c17, c18, c19, c20, rfl⟩
theorem list_22 {cs : List Value} (h : cs.length = 22) : ∃ c0 c1 c2 c3 c4 c5 c6 c7 c8 c9 c10 c11 c12 c13 c14 c15 c16 c17 c18 c19 c20 c21, cs = [c0, c1, c2, c3, c4, c5, c6, c7, c8, c9, c10, c11, c12, c13, c14, c15, c16, c17, c18, c19, c20, c21] := by
  match cs, h with
  | [c0, c1, c2, c3, c4, c5, c6, c7, c8, c9, c10, c11, c12, c13, c14, c15, c16, c17, c18, c19, c20, c21], _ => exact ⟨c0, c1, c2, c3, c4, c5, c6, c7, c8, c9, c10, c11, c12, c13, c14, c15, c16, c17, c18, c19, c20, c21, rfl⟩
theorem list_23 {cs : List Value} (h : cs.length = 23) : ∃ c0 c1 c2 c3 c4 c5 c6 c7 c8 c9 c10 c11 c12 c13 c14 c15 c16 c17 c18 c19 c20 c21 c22, cs = [c0, c1, c2, c3, c4, c5, c6, c7, c8, c9, c10, c11, c12, c13, c14, c15, c16, c17, c18, c19, c20, c21, c22] := by
  match cs, h with
  | [c0, c1, c2, c3, c4, c5, c6, c7, c8, c9, c10, c11, c12, c13, c14, c15, c16, c17, c18, c19, c20, c21, c22], _ => exact ⟨c0, c1, c2, c3, c4, c5, c6, c7, c8, c9, c10, c11, c12, c13, c14, c15, c16, c17, c18, c19, c20, c21, c22, rfl⟩
theorem list_24 {cs : List Value} (h : cs.length = 24) : ∃ c0 c1 c2 c3 c4 c5 c6 c7 c8 c9 c10 c11 c12 c13 c14 c15 c16 c17 c18 c19 c20 c21 c22 c23, cs = [c0, c1, c2, c3, c4, c5, c6, c7, c8, c9, c10, c11, c12, c13, c14, c15, c16, c17, c18, c19, c20, c21, c22, c23] := by
  match cs, h with
  | [c0, c1, c2, c3, c4, c5, c6, c7, c8, c9, c10, c11, c12, c13, c14, c15, c16, c17, c18, c19, c20, c21, c22, c23], _ => exact ⟨c0, c1, c2, c3, c4, c5, c6, c7, c8, c9, c10, c11, c12, c13, c14, c15, c16, c17, c18, c19, c20, c21, c22, c23, rfl⟩
/-! ### those that came in -/
/-- Does a type have a shape? (A list of fields, each with the place of its first cell.) -/
def Ty.fits (P : Program) : Ty → List (TypeId × Nat) → Bool
  | .i64, [(T, _)] => match P.underlying T with | some (.int .i64) => P.cellsOf T == 1 | _ => false
  | .u8, [(T, _)] => match P.underlying T with | some (.int .u8) => P.cellsOf T == 1 | _ => false
  | .u32, [(T, _)] => match P.underlying T with | some (.int .u32) => P.cellsOf T == 1 | _ => false
  | .u64, [(T, _)] => match P.underlying T with | some (.int .u64) => P.cellsOf T == 1 | _ => false
  | .bool, [(T, _)] => match P.underlying T with | some .bool => P.cellsOf T == 1 | _ => false
  | .bytes, [(T, _)] => match P.underlying T with | some (.slice E) => (match P.underlying E with | some (.int .u8) => P.cellsOf E == 1 | _ => false) && P.cellsOf T == 1 | _ => false
  | .row t, [(T, _)] => match P.underlying T with | some (.slice E) => (P.cellsOf E == t.n && t.fits P [(E, 0)]) && P.cellsOf T == 1 | _ => false
  | .pr a b, (T, o) :: (T2, o2) :: L => (o2 == o + a.n && a.fits P [(T, o)]) && b.fits P ((T2, o2) :: L)
  | .st t, [(T, _)] => match P.underlying T with | some (.struct fs) => (P.cellsOf T == t.n && ((fs.toList.map fun f => (f.type, f.offset)).head?.map (·.2) == some 0)) && t.fits P (fs.toList.map fun f => (f.type, f.offset)) | _ => false
  | _, _ => false
variable {H : Type} {enc : TypeId × Value → H} {P : Program}
theorem wf_u32' {z : Int} (h : (Lit.int .u32 z).wf = true) : ∃ n : Nat, z = n ∧ n < 4294967296 := by
  have : 0 ≤ z ∧ z ≤ 4294967295 := by simpa [Lit.wf, IntKind.min, IntKind.max, IntKind.signed, IntKind.bits] using h
  exact ⟨z.toNat, by omega, by omega⟩
theorem fits_cells {P : Program} : ∀ {t : Ty} {T : TypeId} {o : Nat}, t.fits P [(T, o)] = true → P.cellsOf T = t.n := by
  intro t T o h
  cases t <;> simp only [Ty.fits] at h <;> (try split at h) <;> simp_all [Ty.n]
def TrodAt (enc : TypeId × Value → H) (P : Program) (w : World) (base : Nat) (spare : Nat → Bool) (held : Bool) (cs : List Value) (T : TypeId) (o : Nat) : Prop := ∃ fuel x, DataW.trod enc P w base spare held fuel T ((cs.drop o).take (P.cellsOf T)) = some x
theorem one1_of {p : Value → Prop} {cs : List Value} {c : Value} (h : cs = [c]) (hp : p c) : one1 p cs := by subst h; exact hp
def Ty.dft : (t : Ty) → t.Den
  | .i64 => (0 : Int)
  | .u8 | .u32 | .u64 => (0 : Nat)
  | .bool => false
  | .bytes => []
  | .row _ => []
  | .pr a b => (a.dft, b.dft)
  | .st t => t.dft
theorem rows_build {w : World} {Q : Nat → Prop} {t : Ty} (g : Nat → t.Den) (gs : Nat → List Value) : ∀ (n : Nat), (∀ i, i < n → t.Is w Q (g i) (gs i)) → t.Rows w Q ((List.range n).map g) ((List.range n).flatMap gs)
  | 0, _ => Ty.Rows.nil
  | n + 1, h => by
    rw [List.range_succ, List.map_append, List.flatMap_append]
    refine (rows_build g gs n (fun i hi => h i (by omega))).append ?_
    have := Ty.Rows.one (h n (by omega))
    simpa using this
theorem rd_build {w : World} {a : Addr} {m : Nat} {gs : Nat → List Value} : ∀ (n : Nat), (∀ i, i < n → (gs i).length = m) → (∀ i, i < n → ∀ r (u : Value), (gs i)[r]? = some u → w.cell? (a.add (m * i + r)) = some u) → Rd w (some a) ((List.range n).flatMap gs)
  | 0, _, _ => Rd.nil
  | n + 1, hl, h => by
    have ih := rd_build (w := w) (a := a) n (fun i hi => hl i (by omega)) (fun i hi => h i (by omega))
    have hlen : ((List.range n).flatMap gs).length = m * n := by
      clear ih
      induction n with
      | zero => simp
      | succ n ih =>
        rw [List.range_succ, List.flatMap_append, List.length_append, ih (fun i hi => hl i (by omega)) (fun i hi => h i (by omega))]
        simp [hl n (by omega), Nat.mul_succ]
    rw [List.range_succ, List.flatMap_append]
    refine Rd.of_some fun j u hu => ?_
    by_cases hj : j < ((List.range n).flatMap gs).length
    · rw [List.getElem?_append_left hj] at hu
      exact ih.at_ hu
    · rw [List.getElem?_append_right (by omega)] at hu
      simp only [List.flatMap_cons, List.flatMap_nil, List.append_nil] at hu
      have := h n (by omega) _ u hu
      rw [hlen] at this hj
      rwa [show m * n + (j - m * n) = j by omega] at this
theorem open_uni {w : World} {base : Nat} {spare : Nat → Bool} {held : Bool} : ∀ (t : Ty) (L : List (TypeId × Nat)) (cs : List Value), t.fits P L = true → (∀ T o, (T, o) ∈ L → TrodAt enc P w base spare held cs T o) →
    ∃ x : t.Den, t.Is w (fun _ => True) x ((cs.drop ((L.head?.map (·.2)).getD 0)).take t.n)
  | .i64, [(T, o)], cs, hf, h => by
    simp only [Ty.fits] at hf
    split at hf <;> simp_all
    rename_i hu
    obtain ⟨fuel, x, hx⟩ := h
    rw [hf] at hx
    obtain ⟨z, hz, _, hw⟩ := DataW.trod_int hu hx
    have := wf_i64 hw
    exact ⟨z, one1_of hz ⟨rfl, this.1, this.2⟩⟩
  | .u8, [(T, o)], cs, hf, h => by
    simp only [Ty.fits] at hf
    split at hf <;> simp_all
    rename_i hu
    obtain ⟨fuel, x, hx⟩ := h
    rw [hf] at hx
    obtain ⟨z, hz, _, hw⟩ := DataW.trod_int hu hx
    obtain ⟨n, rfl, hn⟩ := wf_u8 hw
    exact ⟨n, one1_of hz ⟨rfl, hn⟩⟩
  | .u32, [(T, o)], cs, hf, h => by
    simp only [Ty.fits] at hf
    split at hf <;> simp_all
    rename_i hu
    obtain ⟨fuel, x, hx⟩ := h
    rw [hf] at hx
    obtain ⟨z, hz, _, hw⟩ := DataW.trod_int hu hx
    obtain ⟨n, rfl, hn⟩ := wf_u32' hw
    exact ⟨n, one1_of hz ⟨rfl, hn⟩⟩
  | .u64, [(T, o)], cs, hf, h => by
    simp only [Ty.fits] at hf
    split at hf <;> simp_all
    rename_i hu
    obtain ⟨fuel, x, hx⟩ := h
    rw [hf] at hx
    obtain ⟨z, hz, _, hw⟩ := DataW.trod_int hu hx
    obtain ⟨n, rfl, hn⟩ := wf_u64 hw
    exact ⟨n, one1_of hz ⟨rfl, hn⟩⟩
  | .bool, [(T, o)], cs, hf, h => by
    simp only [Ty.fits] at hf
    split at hf <;> simp_all
    rename_i hu
    obtain ⟨fuel, x, hx⟩ := h
    rw [hf] at hx
    obtain ⟨z, hz, _⟩ := DataW.trod_bool hu hx
    have hzz : Ty.Is w (fun _ => True) .bool z (List.take (Ty.n .bool) (List.drop o cs)) := one1_of hz rfl
    cases z
    · exact .inl hzz
    · exact .inr hzz
  | .bytes, [(T, o)], cs, hf, h => by
    simp only [Ty.fits] at hf
    split at hf <;> simp_all
    rename_i E hu
    obtain ⟨h1, h2⟩ := hf
    split at h1 <;> simp_all
    rename_i he
    obtain ⟨fuel, x, hx⟩ := h
    rw [h2] at hx
    have hx' := hx
    rcases Go.ChangeShapes.open_ints hu he h1 hx with ⟨hcs, _⟩ | ⟨a, len, cap, zs, hcs, _⟩
    · rw [hcs] at hx'
      obtain ⟨A, n, c, bs, hv, q1, q2, q3, q4⟩ := open_bytesF hu he h1 hx'
      exact ⟨bs, one1_of hcs ⟨A, n, c, hv, q1, q2, q3, q4, fun _ _ _ => trivial⟩⟩
    · rw [hcs] at hx'
      obtain ⟨A, n, c, bs, hv, q1, q2, q3, q4⟩ := open_bytesF hu he h1 hx'
      exact ⟨bs, one1_of hcs ⟨A, n, c, hv, q1, q2, q3, q4, fun _ _ _ => trivial⟩⟩
  | .row t, [(T, o)], cs, hf, h => by
    simp only [Ty.fits] at hf
    split at hf <;> simp_all
    rename_i E hu
    obtain ⟨⟨h1, h3⟩, h2⟩ := hf
    obtain ⟨fuel, x, hx⟩ := h
    rw [h2] at hx
    rcases open_slice hu hx with ⟨hcs, _⟩ | ⟨a, n, c, m, n', D, Pl, hcs, _, hlc, hcm, hm, _, hel⟩
    · exact ⟨[], one1_of hcs ⟨none, 0, 0, [], rfl, rfl, by omega, by omega, Rd.nil, fun _ _ _ => trivial, by simp, fun j y hy => by simp at hy⟩⟩
    · have hall : ∀ i, ∃ (e : t.Den) (es : List Value), i < n → es.length = t.n ∧ t.Is w (fun _ => True) e es ∧ ∀ r (u : Value), es[r]? = some u → w.cell? (a.add (t.n * i + r)) = some u := by
        intro i
        by_cases hi : i < n
        · obtain ⟨cs', hc, ht⟩ := hel i (by rw [hm]; split <;> omega)
          rw [h1] at hc
          obtain ⟨_, hcl, hat⟩ := World.cells?_some hc
          obtain ⟨e, he⟩ := open_uni t [(E, 0)] cs' h3 (fun T o hTo => by
            simp at hTo
            obtain ⟨rfl, rfl⟩ := hTo
            exact ⟨n', _, by rw [List.drop_zero, h1, List.take_of_length_le (by omega)]; exact ht⟩)
          simp only [List.head?_cons, Option.map_some, Option.getD_some, List.drop_zero] at he
          rw [List.take_of_length_le (by omega)] at he
          refine ⟨e, cs', fun _ => ⟨hcl, he, fun r u hu => ?_⟩⟩
          obtain ⟨hr, rfl⟩ := List.getElem?_eq_some_iff.1 hu
          have := hat r (by omega)
          rw [Px.add_add, Nat.mul_comm] at this
          rw [this, List.getElem?_eq_getElem hr]
        · exact ⟨t.dft, [], fun h => absurd h hi⟩
      obtain ⟨g, hg⟩ := Classical.axiomOfChoice hall
      obtain ⟨gs, hg⟩ := Classical.axiomOfChoice hg
      have hR := rows_build (w := w) (Q := fun _ => True) g gs n (fun i hi => (hg i hi).2.1)
      refine ⟨(List.range n).map g, one1_of hcs ⟨some a, n, c, (List.range n).flatMap gs, rfl, by simp, hlc, by unfold maxLen at hcm; omega, ?_, fun _ _ _ => trivial, hR⟩⟩
      exact rd_build n (fun i hi => (hg i hi).1) (fun i hi => (hg i hi).2.2)
  | .pr a b, (T, o) :: (T2, o2) :: L, cs, hf, h => by
    simp only [Ty.fits, Bool.and_eq_true, beq_iff_eq] at hf
    obtain ⟨⟨ho, h1⟩, h2⟩ := hf
    obtain ⟨x, hx⟩ := open_uni a [(T, o)] cs h1 (fun T' o' hm => h T' o' (by simp at hm; simp [hm]))
    obtain ⟨y, hy⟩ := open_uni b ((T2, o2) :: L) cs h2 (fun T' o' hm => h T' o' (List.mem_cons_of_mem _ hm))
    refine ⟨(x, y), ?_, ?_⟩
    · show a.Is w _ x _
      simp only [List.head?_cons, Option.map_some, Option.getD_some] at hx ⊢
      rw [List.take_take, Nat.min_eq_left (by show a.n ≤ a.n + b.n; omega)]
      exact hx
    · show b.Is w _ y _
      simp only [List.head?_cons, Option.map_some, Option.getD_some] at hy ⊢
      rw [List.drop_take, List.drop_drop, show (Ty.pr a b).n - a.n = b.n from by show a.n + b.n - a.n = b.n; omega, ← ho]
      exact hy
  | .st t, [(T, o)], cs, hf, h => by
    simp only [Ty.fits] at hf
    split at hf <;> simp_all
    rename_i fs hu
    obtain ⟨⟨h1, h3⟩, h2⟩ := hf
    obtain ⟨fuel, x, hx⟩ := h
    obtain ⟨ys, n', _, _, hlen, hyl, hg⟩ := DataW.trod_struct hu hx
    obtain ⟨y, hy⟩ := open_uni t (fs.toList.map fun f => (f.type, f.offset)) ((cs.drop o).take (P.cellsOf T)) h2 (fun T' o' hm => by
      obtain ⟨f, hf, he⟩ := List.mem_map.1 hm
      injection he with he1 he2
      subst he1 he2
      obtain ⟨i, hi, hie⟩ := List.mem_iff_getElem.1 hf
      have hi' : i < fs.size := by simpa using hi
      have hgi := hg i f (by rw [Array.getElem?_eq_getElem hi']; simp at hie; rw [hie])
      rw [List.getElem?_eq_getElem (by rw [hyl]; exact hi')] at hgi
      exact ⟨n', _, hgi⟩)
    refine ⟨y, ?_⟩
    obtain ⟨hd, hh1, hh2⟩ := h3
    simp only [List.head?_map, hh1, Option.map_some, Option.getD_some, hh2, List.drop_zero, h1, List.take_take, Nat.min_self] at hy
    exact hy
theorem trod_len {w : World} {base : Nat} {spare : Nat → Bool} {held : Bool} {t : Ty} {T : TypeId} {o fuel : Nat} {cs : List Value} {x : DataW H × List MemPlace} (hf : t.fits P [(T, o)] = true) (h : DataW.trod enc P w base spare held fuel T cs = some x) : cs.length = P.cellsOf T := by
  rw [fits_cells hf]
  cases t <;> simp only [Ty.fits] at hf <;> (try split at hf) <;> simp_all
  all_goals first
    | (rename_i hu; obtain ⟨z, hz, _⟩ := DataW.trod_int hu h; rw [hz]; rfl)
    | (rename_i hu; obtain ⟨z, hz, _⟩ := DataW.trod_bool hu h; rw [hz]; rfl)
    | (rename_i hu; rcases open_slice hu h with ⟨hcs, _⟩ | ⟨a, n, c, m, n', D, Pl, hcs, _⟩ <;> (rw [hcs]; rfl))
    | (rename_i hu; obtain ⟨_, _, _, _, hl, _⟩ := DataW.trod_struct hu h; rw [hl]; exact hf.1.1)
/-- An argument that came in, of any shape. -/
theorem open_any {w : World} {base : Nat} {spare : Nat → Bool} {held : Bool} {t : Ty} {T : TypeId} (hf : t.fits P [(T, 0)] = true) {v : Value} {d : DataW H} {ps : List MemPlace} (h : DataW.Trod enc P w base spare held T v d ps) :
    ∃ x : t.Den, t.Is w (fun b => b < w.heap.size) x v.cells.toList := by
  obtain ⟨fuel, h⟩ := h
  have hl := trod_len hf h
  obtain ⟨x, hx⟩ := open_uni (enc := enc) (w := w) (base := base) (spare := spare) (held := held) t [(T, 0)] v.cells.toList hf (fun T' o' hm => by
    simp at hm
    obtain ⟨rfl, rfl⟩ := hm
    exact ⟨fuel, _, by rw [List.drop_zero, List.take_of_length_le (by omega)]; exact h⟩)
  refine ⟨x, ?_⟩
  simp only [List.head?_cons, Option.map_some, Option.getD_some, List.drop_zero] at hx
  rw [List.take_of_length_le (by rw [hl, fits_cells hf]; exact Nat.le_refl _)] at hx
  exact hx.low
end Go.Px
namespace Go.Px
set_option maxRecDepth 20000
open Go.RowKit
theorem Blk.lo {w w' : World} {g B : Nat} {vs : List Value} {T : TypeId} (h : Blk w g vs T) (hb : Below B w w') (hg : g < B) : Blk w' g vs T := (hb.block g hg).trans h
theorem Rd.upset {w : World} {A : Option Addr} {xs : List Value} {B g j : Nat} {u : Value} (h : Rd w A xs) (hu : ∀ a, A = some a → B ≤ a.block) (hg : g < B) : Rd (w.setCell ⟨g, j, none⟩ u) A xs := fun k v hk => by
  obtain ⟨a, rfl, hc⟩ := h k v hk
  have := hu a rfl
  refine ⟨a, rfl, ?_⟩
  rw [World.cell?_setCell_far w ⟨g, j, none⟩ _ u (by rw [add_block]; show g ≠ a.block; omega)]
  exact hc
section
variable {P : Program} {w : World}
theorem results_cell2 {fn : Func} {t t2 : Tmp} {T : TypeId} (h : fn.results = #[.cell t T, .tmp t2]) {tmps : Array Value} {b : Nat} (hx : tmps.getD t undef = .pointer (some ⟨b, 0, none⟩)) {vs : List Value} {B : TypeId} {d : TypeDesc} (hc : Blk w b vs B)
    (hu : P.underlying T = some d) (hd : d.isRow = true) (hi : (P.info? T).map (·.size) = some vs.length) : (results fn tmps).run P w = .ok (.tuple #[.agg vs.toArray, tmps.getD t2 undef]) w := by
  have := run_loadVar_mid (P := P) w b 0 T vs d hc.range hu hd hi
  have hx' : (tmps[t]?).getD undef = .pointer (some ⟨b, 0, none⟩) := by rw [← hx]; simp [Array.getD_eq_getD_getElem?]
  simp [results, h, hx', asAddr, this]
theorem results_cie {fn : Func} {t t2 t3 : Tmp} {T T3 : TypeId} (h : fn.results = #[.cell t T, .tmp t2, .cell t3 T3]) {tmps : Array Value} {b e : Nat} (hx : tmps.getD t undef = .pointer (some ⟨b, 0, none⟩)) (hy : tmps.getD t3 undef = .pointer (some ⟨e, 0, none⟩)) {vs : List Value} {B : TypeId} {d : TypeDesc} (hc : Blk w b vs B)
    (hu : P.underlying T = some d) (hd : d.isRow = true) (hi : (P.info? T).map (·.size) = some vs.length) {k : IntKind} {u : Int} (he : w.cell? ⟨e, 0, none⟩ = some (.int k u)) (hT : P.underlying T3 = some (.int k)) : (results fn tmps).run P w = .ok (.tuple #[.agg vs.toArray, tmps.getD t2 undef, .int k u]) w := by
  have := run_loadVar_mid (P := P) w b 0 T vs d hc.range hu hd hi
  have hx' : (tmps[t]?).getD undef = .pointer (some ⟨b, 0, none⟩) := by rw [← hx]; simp [Array.getD_eq_getD_getElem?]
  have hy' : (tmps[t3]?).getD undef = .pointer (some ⟨e, 0, none⟩) := by rw [← hy]; simp [Array.getD_eq_getD_getElem?]
  have hl : (loadVar T3 ⟨e, 0, none⟩).run P w = .ok (.int k u) w := by simp [loadVar, run_underlying hT, isAgg, go_sem, he]
  simp [results, h, hx', hy', asAddr, this, hl]
end
end Go.Px
namespace Go.Px
set_option maxRecDepth 20000
open Go.RowKit Go.ChangeShapes Go.WideShapes Go.ChangeAt Go.Joins Go.Deep
variable {H : Type} {enc : TypeId × Value → H} {P : Program}
theorem open_byfields {w : World} {base : Nat} {spare : Nat → Bool} {held : Bool} {r : Reach} {b0 : Nat} {t : TypeId} {fs : Array Field} {v : Value} {d : DataW H} {p : List MemPlace}
    (hs : P.underlying t = some (.struct fs)) (hone : oneCellFields P fs = true) (hC : P.cellsOf t = fs.size) (hv : Value.okWide P w r b0 t v) (h : DataW.Trod enc P w base spare held t v d p) :
    ∃ cs : Array Value, v = .agg cs ∧ cs.size = fs.size ∧ ∃ n, ∀ (j : Nat) (f : Field), fs[j]? = some f → ∃ (c : Value) (y : DataW H × List MemPlace), cs[j]? = some c ∧ DataW.trod enc P w base spare held n f.type [c] = some y := by
  obtain ⟨cs, rfl, hsz⟩ := okWide_struct hs hv
  rw [hC] at hsz
  obtain ⟨fuel, hf⟩ := h
  obtain ⟨ys, n, _, _, _, hl, hg⟩ := DataW.trod_struct hs hf
  refine ⟨cs, rfl, hsz, n, fun j f hj => ?_⟩
  obtain ⟨hat, h1⟩ := hone_of hone j f hj
  have hjl : j < fs.size := (Array.getElem?_eq_some_iff.1 hj).1
  have hc : cs[j]? = some (cs[j]'(by omega)) := Array.getElem?_eq_getElem (by omega)
  have hy : ys[j]? = some (ys[j]'(by omega)) := List.getElem?_eq_getElem (by omega)
  have hk := hg j f hj
  rw [hat, h1] at hk
  have e : (((Value.agg cs).cells.toList.drop j).take 1) = [cs[j]'(by omega)] := by
    rw [List.drop_eq_getElem_cons (by simpa [Value.cells] using (show j < cs.size by omega))]
    simp [Value.cells]
  rw [e] at hk
  exact ⟨_, _, hc, hk.trans hy⟩
theorem arr1 {cs : Array Value} {a : Value} (h : cs.size = 1) (h0 : cs[0]? = some a) : cs = #[a] := by
  obtain ⟨l⟩ := cs
  match l, h with
  | [x0], _ => simp_all
theorem arr2 {cs : Array Value} {a b : Value} (h : cs.size = 2) (h0 : cs[0]? = some a) (h1 : cs[1]? = some b) : cs = #[a, b] := by
  obtain ⟨l⟩ := cs
  match l, h with
  | [x0, x1], _ => simp_all
theorem arr3 {cs : Array Value} {a b c : Value} (h : cs.size = 3) (h0 : cs[0]? = some a) (h1 : cs[1]? = some b) (h2 : cs[2]? = some c) : cs = #[a, b, c] := by
  obtain ⟨l⟩ := cs
  match l, h with
  | [x0, x1, x2], _ => simp_all
theorem arr4 {cs : Array Value} {a b c d : Value} (h : cs.size = 4) (h0 : cs[0]? = some a) (h1 : cs[1]? = some b) (h2 : cs[2]? = some c) (h3 : cs[3]? = some d) : cs = #[a, b, c, d] := by
  obtain ⟨l⟩ := cs
  match l, h with
  | [x0, x1, x2, x3], _ => simp_all
theorem arr5 {cs : Array Value} {a b c d e : Value} (h : cs.size = 5) (h0 : cs[0]? = some a) (h1 : cs[1]? = some b) (h2 : cs[2]? = some c) (h3 : cs[3]? = some d) (h4 : cs[4]? = some e) : cs = #[a, b, c, d, e] := by
  obtain ⟨l⟩ := cs
  match l, h with
  | [x0, x1, x2, x3, x4], _ => simp_all
theorem arr6 {cs : Array Value} {a b c d e f : Value} (h : cs.size = 6) (h0 : cs[0]? = some a) (h1 : cs[1]? = some b) (h2 : cs[2]? = some c) (h3 : cs[3]? = some d) (h4 : cs[4]? = some e) (h5 : cs[5]? = some f) : cs = #[a, b, c, d, e, f] := by
  obtain ⟨l⟩ := cs
  match l, h with
  | [x0, x1, x2, x3, x4, x5], _ => simp_all
theorem arr7 {cs : Array Value} {a b c d e f g : Value} (h : cs.size = 7) (h0 : cs[0]? = some a) (h1 : cs[1]? = some b) (h2 : cs[2]? = some c) (h3 : cs[3]? = some d) (h4 : cs[4]? = some e) (h5 : cs[5]? = some f) (h6 : cs[6]? = some g) : cs = #[a, b, c, d, e, f, g] := by
  obtain ⟨l⟩ := cs
  match l, h with
  | [x0, x1, x2, x3, x4, x5, x6], _ => simp_all
theorem arr8 {cs : Array Value} {a b c d e f g i : Value} (h : cs.size = 8) (h0 : cs[0]? = some a) (h1 : cs[1]? = some b) (h2 : cs[2]? = some c) (h3 : cs[3]? = some d) (h4 : cs[4]? = some e) (h5 : cs[5]? = some f) (h6 : cs[6]? = some g) (h7 : cs[7]? = some i) : cs = #[a, b, c, d, e, f, g, i] := by
  obtain ⟨l⟩ := cs
  match l, h with
  | [x0, x1, x2, x3, x4, x5, x6, x7], _ => simp_all
theorem arr9 {cs : Array Value} {a b c d e f g i j : Value} (h : cs.size = 9) (h0 : cs[0]? = some a) (h1 : cs[1]? = some b) (h2 : cs[2]? = some c) (h3 : cs[3]? = some d) (h4 : cs[4]? = some e) (h5 : cs[5]? = some f) (h6 : cs[6]? = some g) (h7 : cs[7]? = some i) (h8 : cs[8]? = some j) : cs = #[a, b, c, d, e, f, g, i, j] := by
  obtain ⟨l⟩ := cs
  match l, h with
  | [x0, x1, x2, x3, x4, x5, x6, x7, x8], _ => simp_all
theorem arr10 {cs : Array Value} {a b c d e f g i j k : Value} (h : cs.size = 10) (h0 : cs[0]? = some a) (h1 : cs[1]? = some b) (h2 : cs[2]? = some c) (h3 : cs[3]? = some d) (h4 : cs[4]? = some e) (h5 : cs[5]? = some f) (h6 : cs[6]? = some g) (h7 : cs[7]? = some i) (h8 : cs[8]? = some j) (h9 : cs[9]? = some k) : cs = #[a, b, c, d, e, f, g, i, j, k] := by
  obtain ⟨l⟩ := cs
  match l, h with
  | [x0, x1, x2, x3, x4, x5, x6, x7, x8, x9], _ => simp_all
theorem arr11 {cs : Array Value} {a b c d e f g i j k l : Value} (h : cs.size = 11) (h0 : cs[0]? = some a) (h1 : cs[1]? = some b) (h2 : cs[2]? = some c) (h3 : cs[3]? = some d) (h4 : cs[4]? = some e) (h5 : cs[5]? = some f) (h6 : cs[6]? = some g) (h7 : cs[7]? = some i) (h8 : cs[8]? = some j) (h9 : cs[9]? = some k) (h10 : cs[10]? = some l) : cs = #[a, b, c, d, e, f, g, i, j, k, l] := by
  obtain ⟨l⟩ := cs
  match l, h with
  | [x0, x1, x2, x3, x4, x5, x6, x7, x8, x9, x10], _ => simp_all
theorem arr12 {cs : Array Value} {a b c d e f g i j k l m : Value} (h : cs.size = 12) (h0 : cs[0]? = some a) (h1 : cs[1]? = some b) (h2 : cs[2]? = some c) (h3 : cs[3]? = some d) (h4 : cs[4]? = some e) (h5 : cs[5]? = some f) (h6 : cs[6]? = some g) (h7 : cs[7]? = some i) (h8 : cs[8]? = some j) (h9 : cs[9]? = some k) (h10 : cs[10]? = some l) (h11 : cs[11]? = some m) : cs = #[a, b, c, d, e, f, g, i, j, k, l, m] := by
  obtain ⟨l⟩ := cs
  match l, h with
  | [x0, x1, x2, x3, x4, x5, x6, x7, x8, x9, x10, x11], _ => simp_all
end Go.Px
namespace Go.Px
set_option maxRecDepth 20000
open Go.RowKit Go.ChangeShapes Go.WideShapes Go.ChangeAt Go.Joins Go.Deep
variable {H : Type} {enc : TypeId × Value → H} {P : Program}
theorem lo_of_has {w : World} {r : Reach} {b0 : Nat} {a : Addr} {e : TypeId} {n : Nat} (h : w.has P r b0 a e n) : a.block < w.heap.size := by
  obtain ⟨_, _, row, cells, hs, _⟩ := h
  unfold World.shape? at hs
  split at hs
  · rename_i hh; exact (Array.getElem?_eq_some_iff.1 hh).1
  · cases hs
theorem lo_of_ok {w : World} {r : Reach} {b0 : Nat} {t e : TypeId} {A : Option Addr} {n c : Nat} (ht : P.underlying t = some (.slice e)) (h : Value.okWide P w r b0 t (.slice A n c)) : Lo w.heap.size A := by
  intro a ha
  subst ha
  simp only [Value.okWide, ht, Cell.okWide, Cell.ok] at h
  exact lo_of_has h.2.2
theorem bytes_reach {w : World} {base : Nat} {spare : Nat → Bool} {held : Bool} {t e : TypeId} (ht : P.underlying t = some (.slice e)) (he : P.underlying e = some (.int .u8)) (hc : P.cellsOf e = 1) (hb : P.bytesOf e = 1)
    {A : Option Addr} {n c : Nat} {d : DataW H} {ps : List MemPlace} (h : DataW.Trod enc P w base spare held t (.slice A n c) d ps) (hw : ∀ x ∈ d.weights P t, x ≤ reachBytes) : n ≤ 140737488351232 := by
  obtain ⟨fuel, hf⟩ := h
  rcases Go.ChangeShapes.open_ints ht he hc hf with ⟨hcs, _⟩ | ⟨a, len, cap, zs, hcs, _, hlc, _, hlen, hx, _⟩
  · simp [Value.cells] at hcs
    omega
  · simp [Value.cells] at hcs
    obtain ⟨rfl, rfl, rfl⟩ := hcs
    obtain ⟨rfl, _⟩ := Prod.mk.injEq .. ▸ hx
    have := hw ((List.length (ChangeShapes.lits (H := H) .u8 (List.take n zs)) + List.length (ChangeShapes.lits (H := H) .u8 (List.drop n zs))) * P.bytesOf e) (by simp [DataW.weights, ht])
    rw [hb] at this
    have hle : n ≤ zs.length := by rw [hlen]; split <;> omega
    simp [ChangeShapes.lits, List.length_take, List.length_drop, Nat.min_eq_left hle] at this
    have e : reachBytes = 140737488351232 := rfl
    omega
theorem weights_at {ts : List TypeId} {ds : List (DataW H)} (h : (DataW.weightsEach P ts ds).all (· ≤ reachBytes) = true) {j : Nat} {t : TypeId} {d : DataW H} (ht : ts[j]? = some t) (hd : ds[j]? = some d) : ∀ x ∈ d.weights P t, x ≤ reachBytes := fun x hx => by
  have := List.all_eq_true.1 h x (DataW.weights_mem_each ht hd x hx)
  simpa using this
end Go.Px
namespace Go.Px
set_option maxRecDepth 20000
open Go.RowKit
/-- A world of a class. -/
structure InC (C : World → Prop) where
  W : World
  h : C W
instance inC_below (w : World) : Nonempty (InC fun W => Below w.heap.size w W) := ⟨⟨w, Below.refl _ _⟩⟩
theorem wp_region_in {P : Program} {id : Nat} {Q : Exit → Act → World → Prop} {a : Act} {w : World} {l : List Oper} (C : World → Prop) (hC : C w.drew) (hm : P.follows .mixedOrders = true) (hB : Region.lexB .any l.toArray = true)
    (h : wpQuiet P l.toArray (fun w' => ∃ x : InC C, w' = x.W) (fun a' => ∀ w', (∃ x : InC C, w' = x.W) → Q .normal a' w') l a) : (Code.region id l.toArray true).wp P Q a w :=
  wp_region_quiet (C := fun w' => ∃ x : InC C, w' = x.W) hm hB ⟨⟨_, hC⟩, rfl⟩ (by simpa using h)
theorem Calls.in_of {P : Program} {f : FuncId} {args : Array Value} {C : World → Prop} {x : InC C} {v : Value} (h : Calls P f args x.W fun e w' => e = .returned v ∧ C w') : Calls P f args x.W fun e w' => e = .returned v ∧ ∃ y : InC C, w' = y.W :=
  h.mono fun _ w' ⟨he, hb⟩ => ⟨he, ⟨⟨w', hb⟩, rfl⟩⟩
theorem Calls.in_same {P : Program} {f : FuncId} {args : Array Value} {C : World → Prop} {x : InC C} {v : Value} (h : Calls P f args x.W fun e w' => e = .returned v ∧ x.W = w') : Calls P f args x.W fun e w' => e = .returned v ∧ ∃ y : InC C, w' = y.W :=
  h.mono fun _ _ ⟨he, hb⟩ => ⟨he, x, hb.symm⟩
theorem Calls.in_below {P : Program} {f : FuncId} {args : Array Value} {w : World} {x : InC (fun W => Below w.heap.size w W)} {v : Value} (h : Calls P f args x.W fun e w' => e = .returned v ∧ Below x.W.heap.size x.W w') : Calls P f args x.W fun e w' => e = .returned v ∧ ∃ y : InC (fun W => Below w.heap.size w W), w' = y.W :=
  h.mono fun _ w' ⟨he, hb⟩ => ⟨he, ⟨w', x.h.trans (hb.mono x.h.size)⟩, rfl⟩
theorem below_cell {w w' : World} (hb : Below w.heap.size w w') {a : Addr} {u : Value} (h : w.cell? a = some u) : w'.cell? a = some u := (hb.cell (p := a) (World.block_lt_of_cell? w _ h)).trans h
end Go.Px
namespace Go.Px
set_option maxRecDepth 20000
/-- Members ascend, from behind a on, and are below 64. -/
def nodesOk : Int → List Int → Bool
  | _, [] => true
  | a, m :: l => decide (a < m) && (decide (m < 64) && nodesOk m l)
def numB (v : Int) : Bool := decide (0 ≤ v ∧ v ≤ 4611686018427387904)
def nodeB (v : Int) : Bool := decide (0 ≤ v ∧ v < 64)
def grpOk (e : Int) (ms : List Int) : Bool := decide (0 ≤ e ∧ e ≤ 4611686018427387904) && (decide (1 ≤ ms.length ∧ ms.length ≤ 9) && nodesOk (-1) ms)
theorem nodesOk_step {a : Int} {ms : List Int} {k : Nat} (h : k < ms.length) : nodesOk a (ms.drop k) = (decide (a < ms[k]) && (decide (ms[k] < 64) && nodesOk ms[k] (ms.drop (k + 1)))) := by
  rw [List.drop_eq_getElem_cons h]; rfl
theorem nodesOk_bad {a : Int} {ms : List Int} {k : Nat} (h : k < ms.length) (hb : ms[k] ≤ a ∨ 64 ≤ ms[k]) : nodesOk a (ms.drop k) = false := by
  rw [nodesOk_step h]
  rcases hb with hb | hb
  · rw [decide_eq_false (by omega)]; rfl
  · rw [decide_eq_false (show ¬ ms[k] < 64 by omega)]; simp
theorem nodesOk_good {a : Int} {ms : List Int} {k : Nat} (h : k < ms.length) (h1 : a < ms[k]) (h2 : ms[k] < 64) : nodesOk a (ms.drop k) = nodesOk ms[k] (ms.drop (k + 1)) := by
  rw [nodesOk_step h, decide_eq_true h1, decide_eq_true h2]; rfl
theorem nodesOk_end {a : Int} {ms : List Int} {k : Nat} (h : ms.length ≤ k) : nodesOk a (ms.drop k) = true := by
  rw [List.drop_eq_nil_of_le h]; rfl
/-- The one ahead of place k. -/
def prevI (ms : List Int) (k : Nat) : Int := if k = 0 then -1 else ms.getD (k - 1) 0
def chkE (e : Int) (ms : List Int) : Int := if grpOk e ms = true then 0 else 130
theorem chk_ok {e : Int} {ms : List Int} (h : grpOk e ms = true) : chkE e ms = 0 := if_pos h
theorem chk_bad {e : Int} {ms : List Int} (h : grpOk e ms = false) : chkE e ms = 130 := if_neg (by rw [h]; decide)
theorem grpOk_len {e : Int} {ms : List Int} (h : grpOk e ms = true) : 1 ≤ ms.length ∧ ms.length ≤ 9 := by
  unfold grpOk at h
  simp only [Bool.and_eq_true, decide_eq_true_eq] at h
  exact h.2.1
def primE (e : Int) (ms : List Int) (v : Int) : Int := if grpOk e ms = true then (if 0 ≤ v ∧ v ≤ 4611686018427387904 then 0 else 1) else 130
def primN (e : Int) (ms : List Int) (v : Int) : Int := if primE e ms v = 0 then ms.getD (v.toNat % ms.length) 0 else 0
theorem primN_bad {e : Int} {ms : List Int} {v : Int} (h : primE e ms v ≠ 0) : primN e ms v = 0 := if_neg h
end Go.Px
