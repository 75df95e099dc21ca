/- For every input the law MachineNew returns true, and each argument reads afterwards as it read before. No condition. -/
import Derived.Test.YtkknkdjdneldlaaRows
import Derived.Test.YtkknkdjdneldlaaK71
import Derived.Test.YtkknkdjdneldlaaK72
import Derived.Test.YtkknkdjdneldlaaK73
import Derived.Test.YtkknkdjdneldlaaK74
import Derived.Test.YtkknkdjdneldlaaK75
import Derived.Test.YtkknkdjdneldlaaK76
import Derived.Test.YtkknkdjdneldlaaK77
import Derived.Test.YtkknkdjdneldlaaK78
import Derived.Test.YtkknkdjdneldlaaK79
import Derived.Test.YtkknkdjdneldlaaK710
import Derived.Test.YtkknkdjdneldlaaK711
namespace Go.Px
open Go.RowKit

/-! ### hide -/
/-! ### addresses -/
/-! ### what a slice reads as: nil let in -/
section
variable {w w' : World} {A : Option Addr} {xs : List Value}
end

/-! ### rows that a call owns -/
section
variable {w w' : World} {base : Nat} {e : TypeId} {size n : Nat} {v : Value} {xs : List Value}
end

/-! ### bytes and integers -/
/-! ### facts of a slice's type -/
/-! ### append onto a row of the call's own -/
section
variable {P : Program} {w : World}
end

/-! ### places at which a walk stands still, to be led on by hand -/
section
variable {P : Program} {w : World} {ops : Array Oper} {rest : List Oper} {o : Oper} {a : Act} {Q : Exit → Act → World → Prop}
end

/-! ### a row that grows, round by round -/
section
variable {P : Program} {w wr : World} {v0 v : Value} {base e size n : Nat} {xs : List Value}
variable {ops : Array Oper} {rest : List Oper} {o : Oper} {a : Act} {Q : Exit → Act → World → Prop}
end

/-! ### a law's row from its walk -/
section
open Go.ChangeShapes Go.WideShapes Go.ChangeAt
variable {H : Type} {enc : TypeId × Value → H} {P : Program}
theorem trodAll_below (hl : laidOutB P = true) {W W' : World} (hb : Below W.heap.size W W') : ∀ {ts : List TypeId} {vs : List Value} {ds : List (DataW H)} {ps : List MemPlace},
    (∀ t ∈ ts, P.readableRec t = true ∧ t < P.types.size) → DataW.TrodAll enc P W 0 (fun _ => true) true ts vs ds ps → (∀ x ∈ ps, x.block < W.heap.size) →
    ∀ sp : Nat → Bool, (∀ p ∈ ps, sp p.block = true) → DataW.TrodAll enc P W' 0 sp true ts vs ds ps
  | [], vs, ds, ps, _, h, _, _, _ => by
    obtain ⟨rfl, rfl, rfl⟩ := trodAll_nil h
    exact trodAll_mk0
  | t :: ts, vs, ds, ps, hr, h, hlt, sp, hsp => by
    obtain ⟨v, vs', d, ds', p, q, rfl, rfl, rfl, h1, h2⟩ := trodAll_cons h
    have ht := hr t List.mem_cons_self
    refine trodAll_cons_mk ?_ (trodAll_below hl hb (fun t' ht' => hr t' (List.mem_cons_of_mem _ ht')) h2 (fun x hx => hlt x (List.mem_append_right _ hx)) sp (fun x hx => hsp x (List.mem_append_right _ hx)))
    exact WideElems.Trod_stays hl ht.1 ht.2 h1 (fun x hx => hb.same (hlt x (List.mem_append_left _ hx))) (fun x hx => hsp x (List.mem_append_left _ hx))
theorem wf_u64 {v : Int} (h : (Lit.int .u64 v).wf = true) : ∃ n : Nat, v = n ∧ n < 18446744073709551616 := by
  have hz : 0 ≤ v ∧ v ≤ 18446744073709551615 := by simpa [Lit.wf, IntKind.min, IntKind.max, IntKind.signed, IntKind.bits] using h
  exact ⟨v.toNat, by omega, by omega⟩
theorem wf_i64 {v : Int} (h : (Lit.int .i64 v).wf = true) : -9223372036854775808 ≤ v ∧ v ≤ 9223372036854775807 := by
  simpa [Lit.wf, IntKind.min, IntKind.max, IntKind.signed, IntKind.bits] using h
/-- WHAT A LAW OWES: 'it returns true, and nothing that was there has turned'. The rest of its row is the same for all laws that name no variable. -/
theorem law_post {f : Func} {s : ChangeSpec} {W W' : World} {args : Array Value} {ds gs : List (DataW H)} {before : List MemPlace} {tb : TypeId}
    (hl : laidOutB P = true) (hvars : s.vars = []) (hres : f.resultTypes = #[tb]) (htb : P.underlying tb = some .bool)
    (hr : ∀ t ∈ f.params.toList, P.readableRec t = true ∧ t < P.types.size)
    (hW : DataW.Whole enc P f.params.toList s.vars false W args.toList ds gs before)
    (hs : s.fn H (ds ++ gs) = { results := [.lit (.bool true)], args := ds, vars := [] })
    (hb : Below W.heap.size W W') : s.post enc P f false true false false W args (.bool true) W' := by
  have hW0 := hW
  obtain ⟨p, q, hA, hV, rfl, hfz, hnd⟩ := hW
  rw [hvars] at hV
  obtain ⟨rfl, rfl⟩ := trodVars_none hV
  have hlt : ∀ x ∈ p ++ [], x.block < W.heap.size := fun x hx => hW0.lt x hx
  have hold : ∀ p' ∈ p ++ [], (fun b => decide (b < W.heap.size)) p'.block = true := fun p' hp => by simpa using hlt p' hp
  refine ⟨ds, [], p ++ [], [], p, [], hW0, ?_, ?_, ?_, ?_, fun h => by cases h⟩
  · rw [hs, hres]
    exact trodAll_mk1 (shut_bool htb true)
  · rw [hs]
    exact trodAll_below hl hb hr hA (fun x hx => hlt x (List.mem_append_left _ hx)) _ (fun x hx => hold x (List.mem_append_left _ hx))
  · rw [hs, hvars]
    rfl
  · exact World.keptBut_mono (fun x hx => ⟨hx, .inr (.inl (by simpa using hx))⟩) (hb.frame (· ∈ p ++ []))
end
end Go.Px
namespace Go.Px
set_option maxRecDepth 20000
theorem wf_u8 {v : Int} (h : (Lit.int .u8 v).wf = true) : ∃ n : Nat, v = n ∧ n < 256 := by
  have hz : 0 ≤ v ∧ v ≤ 255 := by simpa [Lit.wf, IntKind.min, IntKind.max, IntKind.signed, IntKind.bits] using h
  exact ⟨v.toNat, by omega, by omega⟩
end Go.Px
namespace Go.Px
set_option maxRecDepth 20000
open Go.RowKit Go.ChangeShapes
variable {H : Type} {enc : TypeId × Value → H} {P : Program}
theorem open_bytesF {w : World} {base : Nat} {spare : Nat → Bool} {held : Bool} {t e : TypeId} (ht : P.underlying t = some (.slice e)) (he : P.underlying e = some (.int .u8)) (hc : P.cellsOf e = 1)
    {v : Value} {fuel : Nat} {x : DataW H × List MemPlace} (hf : DataW.trod enc P w base spare held fuel t [v] = some x) :
    ∃ (A : Option Addr) (n c : Nat) (bs : List UInt8), v = .slice A n c ∧ bs.length = n ∧ n ≤ c ∧ c ≤ 9223372036854775807 ∧ Rd w A (bys bs) := by
  rcases Go.ChangeShapes.open_ints ht he hc hf with ⟨hcs, _⟩ | ⟨a, len, cap, zs, hcs, _, hlc, hcm, hlen, _, hcell, hwf⟩
  · obtain rfl : v = .slice none 0 0 := by simpa using hcs
    exact ⟨none, 0, 0, [], rfl, rfl, by omega, by omega, Rd.nil⟩
  · obtain rfl : v = .slice (some a) len cap := by simpa using hcs
    have hle : len ≤ zs.length := by rw [hlen]; split <;> omega
    refine ⟨some a, len, cap, (zs.take len).map fun z => UInt8.ofNat z.toNat, rfl, by simp [Nat.min_eq_left hle], hlc, by unfold maxLen at hcm; omega, Rd.of_some fun j u hu => ?_⟩
    have hj : j < len := by
      have := (List.getElem?_eq_some_iff.1 hu).1
      simp [bys] at this; omega
    have hjz : j < zs.length := by omega
    have hw := hwf zs[j] (List.getElem_mem hjz)
    have hz : 0 ≤ zs[j] ∧ zs[j] ≤ 255 := by simpa [Lit.wf, IntKind.min, IntKind.max, IntKind.signed, IntKind.bits] using hw
    rw [hcell j hjz]
    simp only [bys, List.map_map, List.getElem?_map, List.getElem?_take, if_pos hj, List.getElem?_eq_getElem hjz, Option.map_some, Function.comp] at hu
    rw [← hu]
    simp only [List.getD, List.getElem?_eq_getElem hjz, Option.getD_some]
    congr 2
    have : (UInt8.ofNat (zs[j]).toNat).toNat = (zs[j]).toNat := by
      simp; omega
    rw [this]; omega
end Go.Px
namespace Go.Px
set_option maxRecDepth 20000
open Go.RowKit Go.ChangeShapes Go.WideShapes Go.ChangeAt
variable {H : Type} {enc : TypeId × Value → H} {P : Program}
theorem open_i64F {w : World} {base : Nat} {spare : Nat → Bool} {held : Bool} {t : TypeId} (ht : P.underlying t = some (.int .i64)) {v : Value} {fuel : Nat} {x : DataW H × List MemPlace} (hf : DataW.trod enc P w base spare held fuel t [v] = some x) :
    ∃ z : Int, v = .int .i64 z ∧ -9223372036854775808 ≤ z ∧ z ≤ 9223372036854775807 := by
  obtain ⟨z, hz, _, hw⟩ := DataW.trod_int ht hf
  have := wf_i64 hw
  exact ⟨z, by simpa using hz, this.1, this.2⟩
end Go.Px
namespace Go.Px
open Go.RowKit Go.ChangeShapes Go.WideShapes Go.ChangeAt Go.Deep
section
variable {w w' : World} {Q Q' : Nat → Prop} {t : Ty} {x : t.Den} {cs : List Value}
variable {xs : List t.Den} {vs : List Value}
end
theorem list_2 {cs : List Value} (h : cs.length = 2) : ∃ c0 c1, cs = [c0, c1] := by
  match cs, h with
  | [c0, c1], _ => exact ⟨c0, c1, rfl⟩
/-! ### those that came in -/
/-- Does a type have a shape? (A list of fields, each with the place of its first cell.) -/
def Ty.fits (P : Program) : Ty → List (TypeId × Nat) → Bool
  | .i64, [(T, _)] => match P.underlying T with | some (.int .i64) => P.cellsOf T == 1 | _ => false
  | .u8, [(T, _)] => match P.underlying T with | some (.int .u8) => P.cellsOf T == 1 | _ => false
  | .u32, [(T, _)] => match P.underlying T with | some (.int .u32) => P.cellsOf T == 1 | _ => false
  | .u64, [(T, _)] => match P.underlying T with | some (.int .u64) => P.cellsOf T == 1 | _ => false
  | .bool, [(T, _)] => match P.underlying T with | some .bool => P.cellsOf T == 1 | _ => false
  | .bytes, [(T, _)] => match P.underlying T with | some (.slice E) => (match P.underlying E with | some (.int .u8) => P.cellsOf E == 1 | _ => false) && P.cellsOf T == 1 | _ => false
  | .row t, [(T, _)] => match P.underlying T with | some (.slice E) => (P.cellsOf E == t.n && t.fits P [(E, 0)]) && P.cellsOf T == 1 | _ => false
  | .pr a b, (T, o) :: (T2, o2) :: L => (o2 == o + a.n && a.fits P [(T, o)]) && b.fits P ((T2, o2) :: L)
  | .st t, [(T, _)] => match P.underlying T with | some (.struct fs) => (P.cellsOf T == t.n && ((fs.toList.map fun f => (f.type, f.offset)).head?.map (·.2) == some 0)) && t.fits P (fs.toList.map fun f => (f.type, f.offset)) | _ => false
  | _, _ => false
variable {H : Type} {enc : TypeId × Value → H} {P : Program}
theorem wf_u32' {z : Int} (h : (Lit.int .u32 z).wf = true) : ∃ n : Nat, z = n ∧ n < 4294967296 := by
  have : 0 ≤ z ∧ z ≤ 4294967295 := by simpa [Lit.wf, IntKind.min, IntKind.max, IntKind.signed, IntKind.bits] using h
  exact ⟨z.toNat, by omega, by omega⟩
theorem fits_cells {P : Program} : ∀ {t : Ty} {T : TypeId} {o : Nat}, t.fits P [(T, o)] = true → P.cellsOf T = t.n := by
  intro t T o h
  cases t <;> simp only [Ty.fits] at h <;> (try split at h) <;> simp_all [Ty.n]
def TrodAt (enc : TypeId × Value → H) (P : Program) (w : World) (base : Nat) (spare : Nat → Bool) (held : Bool) (cs : List Value) (T : TypeId) (o : Nat) : Prop := ∃ fuel x, DataW.trod enc P w base spare held fuel T ((cs.drop o).take (P.cellsOf T)) = some x
theorem one1_of {p : Value → Prop} {cs : List Value} {c : Value} (h : cs = [c]) (hp : p c) : one1 p cs := by subst h; exact hp
def Ty.dft : (t : Ty) → t.Den
  | .i64 => (0 : Int)
  | .u8 | .u32 | .u64 => (0 : Nat)
  | .bool => false
  | .bytes => []
  | .row _ => []
  | .pr a b => (a.dft, b.dft)
  | .st t => t.dft
theorem rows_build {w : World} {Q : Nat → Prop} {t : Ty} (g : Nat → t.Den) (gs : Nat → List Value) : ∀ (n : Nat), (∀ i, i < n → t.Is w Q (g i) (gs i)) → t.Rows w Q ((List.range n).map g) ((List.range n).flatMap gs)
  | 0, _ => Ty.Rows.nil
  | n + 1, h => by
    rw [List.range_succ, List.map_append, List.flatMap_append]
    refine (rows_build g gs n (fun i hi => h i (by omega))).append ?_
    have := Ty.Rows.one (h n (by omega))
    simpa using this
theorem rd_build {w : World} {a : Addr} {m : Nat} {gs : Nat → List Value} : ∀ (n : Nat), (∀ i, i < n → (gs i).length = m) → (∀ i, i < n → ∀ r (u : Value), (gs i)[r]? = some u → w.cell? (a.add (m * i + r)) = some u) → Rd w (some a) ((List.range n).flatMap gs)
  | 0, _, _ => Rd.nil
  | n + 1, hl, h => by
    have ih := rd_build (w := w) (a := a) n (fun i hi => hl i (by omega)) (fun i hi => h i (by omega))
    have hlen : ((List.range n).flatMap gs).length = m * n := by
      clear ih
      induction n with
      | zero => simp
      | succ n ih =>
        rw [List.range_succ, List.flatMap_append, List.length_append, ih (fun i hi => hl i (by omega)) (fun i hi => h i (by omega))]
        simp [hl n (by omega), Nat.mul_succ]
    rw [List.range_succ, List.flatMap_append]
    refine Rd.of_some fun j u hu => ?_
    by_cases hj : j < ((List.range n).flatMap gs).length
    · rw [List.getElem?_append_left hj] at hu
      exact ih.at_ hu
    · rw [List.getElem?_append_right (by omega)] at hu
      simp only [List.flatMap_cons, List.flatMap_nil, List.append_nil] at hu
      have := h n (by omega) _ u hu
      rw [hlen] at this hj
      rwa [show m * n + (j - m * n) = j by omega] at this
theorem open_uni {w : World} {base : Nat} {spare : Nat → Bool} {held : Bool} : ∀ (t : Ty) (L : List (TypeId × Nat)) (cs : List Value), t.fits P L = true → (∀ T o, (T, o) ∈ L → TrodAt enc P w base spare held cs T o) →
    ∃ x : t.Den, t.Is w (fun _ => True) x ((cs.drop ((L.head?.map (·.2)).getD 0)).take t.n)
  | .i64, [(T, o)], cs, hf, h => by
    simp only [Ty.fits] at hf
    split at hf <;> simp_all
    rename_i hu
    obtain ⟨fuel, x, hx⟩ := h
    rw [hf] at hx
    obtain ⟨z, hz, _, hw⟩ := DataW.trod_int hu hx
    have := wf_i64 hw
    exact ⟨z, one1_of hz ⟨rfl, this.1, this.2⟩⟩
  | .u8, [(T, o)], cs, hf, h => by
    simp only [Ty.fits] at hf
    split at hf <;> simp_all
    rename_i hu
    obtain ⟨fuel, x, hx⟩ := h
    rw [hf] at hx
    obtain ⟨z, hz, _, hw⟩ := DataW.trod_int hu hx
    obtain ⟨n, rfl, hn⟩ := wf_u8 hw
    exact ⟨n, one1_of hz ⟨rfl, hn⟩⟩
  | .u32, [(T, o)], cs, hf, h => by
    simp only [Ty.fits] at hf
    split at hf <;> simp_all
    rename_i hu
    obtain ⟨fuel, x, hx⟩ := h
    rw [hf] at hx
    obtain ⟨z, hz, _, hw⟩ := DataW.trod_int hu hx
    obtain ⟨n, rfl, hn⟩ := wf_u32' hw
    exact ⟨n, one1_of hz ⟨rfl, hn⟩⟩
  | .u64, [(T, o)], cs, hf, h => by
    simp only [Ty.fits] at hf
    split at hf <;> simp_all
    rename_i hu
    obtain ⟨fuel, x, hx⟩ := h
    rw [hf] at hx
    obtain ⟨z, hz, _, hw⟩ := DataW.trod_int hu hx
    obtain ⟨n, rfl, hn⟩ := wf_u64 hw
    exact ⟨n, one1_of hz ⟨rfl, hn⟩⟩
  | .bool, [(T, o)], cs, hf, h => by
    simp only [Ty.fits] at hf
    split at hf <;> simp_all
    rename_i hu
    obtain ⟨fuel, x, hx⟩ := h
    rw [hf] at hx
    obtain ⟨z, hz, _⟩ := DataW.trod_bool hu hx
    have hzz : Ty.Is w (fun _ => True) .bool z (List.take (Ty.n .bool) (List.drop o cs)) := one1_of hz rfl
    cases z
    · exact .inl hzz
    · exact .inr hzz
  | .bytes, [(T, o)], cs, hf, h => by
    simp only [Ty.fits] at hf
    split at hf <;> simp_all
    rename_i E hu
    obtain ⟨h1, h2⟩ := hf
    split at h1 <;> simp_all
    rename_i he
    obtain ⟨fuel, x, hx⟩ := h
    rw [h2] at hx
    have hx' := hx
    rcases Go.ChangeShapes.open_ints hu he h1 hx with ⟨hcs, _⟩ | ⟨a, len, cap, zs, hcs, _⟩
    · rw [hcs] at hx'
      obtain ⟨A, n, c, bs, hv, q1, q2, q3, q4⟩ := open_bytesF hu he h1 hx'
      exact ⟨bs, one1_of hcs ⟨A, n, c, hv, q1, q2, q3, q4, fun _ _ _ => trivial⟩⟩
    · rw [hcs] at hx'
      obtain ⟨A, n, c, bs, hv, q1, q2, q3, q4⟩ := open_bytesF hu he h1 hx'
      exact ⟨bs, one1_of hcs ⟨A, n, c, hv, q1, q2, q3, q4, fun _ _ _ => trivial⟩⟩
  | .row t, [(T, o)], cs, hf, h => by
    simp only [Ty.fits] at hf
    split at hf <;> simp_all
    rename_i E hu
    obtain ⟨⟨h1, h3⟩, h2⟩ := hf
    obtain ⟨fuel, x, hx⟩ := h
    rw [h2] at hx
    rcases open_slice hu hx with ⟨hcs, _⟩ | ⟨a, n, c, m, n', D, Pl, hcs, _, hlc, hcm, hm, _, hel⟩
    · exact ⟨[], one1_of hcs ⟨none, 0, 0, [], rfl, rfl, by omega, by omega, Rd.nil, fun _ _ _ => trivial, by simp, fun j y hy => by simp at hy⟩⟩
    · have hall : ∀ i, ∃ (e : t.Den) (es : List Value), i < n → es.length = t.n ∧ t.Is w (fun _ => True) e es ∧ ∀ r (u : Value), es[r]? = some u → w.cell? (a.add (t.n * i + r)) = some u := by
        intro i
        by_cases hi : i < n
        · obtain ⟨cs', hc, ht⟩ := hel i (by rw [hm]; split <;> omega)
          rw [h1] at hc
          obtain ⟨_, hcl, hat⟩ := World.cells?_some hc
          obtain ⟨e, he⟩ := open_uni t [(E, 0)] cs' h3 (fun T o hTo => by
            simp at hTo
            obtain ⟨rfl, rfl⟩ := hTo
            exact ⟨n', _, by rw [List.drop_zero, h1, List.take_of_length_le (by omega)]; exact ht⟩)
          simp only [List.head?_cons, Option.map_some, Option.getD_some, List.drop_zero] at he
          rw [List.take_of_length_le (by omega)] at he
          refine ⟨e, cs', fun _ => ⟨hcl, he, fun r u hu => ?_⟩⟩
          obtain ⟨hr, rfl⟩ := List.getElem?_eq_some_iff.1 hu
          have := hat r (by omega)
          rw [Px.add_add, Nat.mul_comm] at this
          rw [this, List.getElem?_eq_getElem hr]
        · exact ⟨t.dft, [], fun h => absurd h hi⟩
      obtain ⟨g, hg⟩ := Classical.axiomOfChoice hall
      obtain ⟨gs, hg⟩ := Classical.axiomOfChoice hg
      have hR := rows_build (w := w) (Q := fun _ => True) g gs n (fun i hi => (hg i hi).2.1)
      refine ⟨(List.range n).map g, one1_of hcs ⟨some a, n, c, (List.range n).flatMap gs, rfl, by simp, hlc, by unfold maxLen at hcm; omega, ?_, fun _ _ _ => trivial, hR⟩⟩
      exact rd_build n (fun i hi => (hg i hi).1) (fun i hi => (hg i hi).2.2)
  | .pr a b, (T, o) :: (T2, o2) :: L, cs, hf, h => by
    simp only [Ty.fits, Bool.and_eq_true, beq_iff_eq] at hf
    obtain ⟨⟨ho, h1⟩, h2⟩ := hf
    obtain ⟨x, hx⟩ := open_uni a [(T, o)] cs h1 (fun T' o' hm => h T' o' (by simp at hm; simp [hm]))
    obtain ⟨y, hy⟩ := open_uni b ((T2, o2) :: L) cs h2 (fun T' o' hm => h T' o' (List.mem_cons_of_mem _ hm))
    refine ⟨(x, y), ?_, ?_⟩
    · show a.Is w _ x _
      simp only [List.head?_cons, Option.map_some, Option.getD_some] at hx ⊢
      rw [List.take_take, Nat.min_eq_left (by show a.n ≤ a.n + b.n; omega)]
      exact hx
    · show b.Is w _ y _
      simp only [List.head?_cons, Option.map_some, Option.getD_some] at hy ⊢
      rw [List.drop_take, List.drop_drop, show (Ty.pr a b).n - a.n = b.n from by show a.n + b.n - a.n = b.n; omega, ← ho]
      exact hy
  | .st t, [(T, o)], cs, hf, h => by
    simp only [Ty.fits] at hf
    split at hf <;> simp_all
    rename_i fs hu
    obtain ⟨⟨h1, h3⟩, h2⟩ := hf
    obtain ⟨fuel, x, hx⟩ := h
    obtain ⟨ys, n', _, _, hlen, hyl, hg⟩ := DataW.trod_struct hu hx
    obtain ⟨y, hy⟩ := open_uni t (fs.toList.map fun f => (f.type, f.offset)) ((cs.drop o).take (P.cellsOf T)) h2 (fun T' o' hm => by
      obtain ⟨f, hf, he⟩ := List.mem_map.1 hm
      injection he with he1 he2
      subst he1 he2
      obtain ⟨i, hi, hie⟩ := List.mem_iff_getElem.1 hf
      have hi' : i < fs.size := by simpa using hi
      have hgi := hg i f (by rw [Array.getElem?_eq_getElem hi']; simp at hie; rw [hie])
      rw [List.getElem?_eq_getElem (by rw [hyl]; exact hi')] at hgi
      exact ⟨n', _, hgi⟩)
    refine ⟨y, ?_⟩
    obtain ⟨hd, hh1, hh2⟩ := h3
    simp only [List.head?_map, hh1, Option.map_some, Option.getD_some, hh2, List.drop_zero, h1, List.take_take, Nat.min_self] at hy
    exact hy
theorem trod_len {w : World} {base : Nat} {spare : Nat → Bool} {held : Bool} {t : Ty} {T : TypeId} {o fuel : Nat} {cs : List Value} {x : DataW H × List MemPlace} (hf : t.fits P [(T, o)] = true) (h : DataW.trod enc P w base spare held fuel T cs = some x) : cs.length = P.cellsOf T := by
  rw [fits_cells hf]
  cases t <;> simp only [Ty.fits] at hf <;> (try split at hf) <;> simp_all
  all_goals first
    | (rename_i hu; obtain ⟨z, hz, _⟩ := DataW.trod_int hu h; rw [hz]; rfl)
    | (rename_i hu; obtain ⟨z, hz, _⟩ := DataW.trod_bool hu h; rw [hz]; rfl)
    | (rename_i hu; rcases open_slice hu h with ⟨hcs, _⟩ | ⟨a, n, c, m, n', D, Pl, hcs, _⟩ <;> (rw [hcs]; rfl))
    | (rename_i hu; obtain ⟨_, _, _, _, hl, _⟩ := DataW.trod_struct hu h; rw [hl]; exact hf.1.1)
/-- An argument that came in, of any shape. -/
theorem open_any {w : World} {base : Nat} {spare : Nat → Bool} {held : Bool} {t : Ty} {T : TypeId} (hf : t.fits P [(T, 0)] = true) {v : Value} {d : DataW H} {ps : List MemPlace} (h : DataW.Trod enc P w base spare held T v d ps) :
    ∃ x : t.Den, t.Is w (fun b => b < w.heap.size) x v.cells.toList := by
  obtain ⟨fuel, h⟩ := h
  have hl := trod_len hf h
  obtain ⟨x, hx⟩ := open_uni (enc := enc) (w := w) (base := base) (spare := spare) (held := held) t [(T, 0)] v.cells.toList hf (fun T' o' hm => by
    simp at hm
    obtain ⟨rfl, rfl⟩ := hm
    exact ⟨fuel, _, by rw [List.drop_zero, List.take_of_length_le (by omega)]; exact h⟩)
  refine ⟨x, ?_⟩
  simp only [List.head?_cons, Option.map_some, Option.getD_some, List.drop_zero] at hx
  rw [List.take_of_length_le (by rw [hl, fits_cells hf]; exact Nat.le_refl _)] at hx
  exact hx.low
end Go.Px
namespace Go.Px
set_option maxRecDepth 20000
open Go.RowKit
set_option linter.unusedVariables false
section
variable {w : World} {Q : Nat → Prop}
theorem Group_out {x : GroupD} {cs : List Value} (h : tyGroup.Is w Q x cs) : ∃ (pEpoch : Int) (pMembers : List (Int)) (pMembersA : Option Addr) (pMembersn pMembersc : Nat) (pMembersv : List Value), x = (pEpoch, pMembers) ∧ cs = [.int .i64 pEpoch, .slice pMembersA pMembersn pMembersc] ∧ -9223372036854775808 ≤ pEpoch ∧ pEpoch ≤ 9223372036854775807 ∧ pMembers.length = pMembersn ∧ pMembersn ≤ pMembersc ∧ pMembersc ≤ 9223372036854775807 ∧ Rd w pMembersA pMembersv ∧ (pMembers ≠ [] → ∀ a, pMembersA = some a → Q a.block) ∧ Ty.Rows w Q .i64 pMembers pMembersv := by
  obtain ⟨c0, c1, rfl⟩ := list_2 (h.len : cs.length = 2)
  obtain ⟨pEpoch, pMembers⟩ := x
  obtain ⟨⟨rfl, h1_pEpoch, h2_pEpoch⟩, ⟨pMembersA, pMembersn, pMembersc, pMembersv, rfl, hl_pMembers, hc_pMembers, hm_pMembers, hr_pMembers, hq_pMembers, he_pMembers⟩⟩ := h
  exact ⟨pEpoch, pMembers, pMembersA, pMembersn, pMembersc, pMembersv, rfl, rfl, h1_pEpoch, h2_pEpoch, hl_pMembers, hc_pMembers, hm_pMembers, hr_pMembers, hq_pMembers, he_pMembers⟩
end
end Go.Px
namespace Go.Proofs.Ytkknkdjdneldlaa
set_option maxRecDepth 20000
open Go.RowKit Go.Px
theorem laidOut : laidOutB Try.prog = true := by kernel_rfl
end Go.Proofs.Ytkknkdjdneldlaa
namespace Go.Px
set_option maxRecDepth 20000
open Go.RowKit Go.ChangeShapes Go.WideShapes Go.ChangeAt Go.Joins Go.Deep
variable {H : Type} {enc : TypeId × Value → H} {P : Program}
theorem open_byfields {w : World} {base : Nat} {spare : Nat → Bool} {held : Bool} {r : Reach} {b0 : Nat} {t : TypeId} {fs : Array Field} {v : Value} {d : DataW H} {p : List MemPlace}
    (hs : P.underlying t = some (.struct fs)) (hone : oneCellFields P fs = true) (hC : P.cellsOf t = fs.size) (hv : Value.okWide P w r b0 t v) (h : DataW.Trod enc P w base spare held t v d p) :
    ∃ cs : Array Value, v = .agg cs ∧ cs.size = fs.size ∧ ∃ n, ∀ (j : Nat) (f : Field), fs[j]? = some f → ∃ (c : Value) (y : DataW H × List MemPlace), cs[j]? = some c ∧ DataW.trod enc P w base spare held n f.type [c] = some y := by
  obtain ⟨cs, rfl, hsz⟩ := okWide_struct hs hv
  rw [hC] at hsz
  obtain ⟨fuel, hf⟩ := h
  obtain ⟨ys, n, _, _, _, hl, hg⟩ := DataW.trod_struct hs hf
  refine ⟨cs, rfl, hsz, n, fun j f hj => ?_⟩
  obtain ⟨hat, h1⟩ := hone_of hone j f hj
  have hjl : j < fs.size := (Array.getElem?_eq_some_iff.1 hj).1
  have hc : cs[j]? = some (cs[j]'(by omega)) := Array.getElem?_eq_getElem (by omega)
  have hy : ys[j]? = some (ys[j]'(by omega)) := List.getElem?_eq_getElem (by omega)
  have hk := hg j f hj
  rw [hat, h1] at hk
  have e : (((Value.agg cs).cells.toList.drop j).take 1) = [cs[j]'(by omega)] := by
    rw [List.drop_eq_getElem_cons (by simpa [Value.cells] using (show j < cs.size by omega))]
    simp [Value.cells]
  rw [e] at hk
  exact ⟨_, _, hc, hk.trans hy⟩
theorem arr2 {cs : Array Value} {a b : Value} (h : cs.size = 2) (h0 : cs[0]? = some a) (h1 : cs[1]? = some b) : cs = #[a, b] := by
  obtain ⟨l⟩ := cs
  match l, h with
  | [x0, x1], _ => simp_all
end Go.Px
namespace Go.Proofs.Ytkknkdjdneldlaa
set_option maxRecDepth 20000
open Go.RowKit Go.Px Go.Maps
set_option linter.unusedVariables false
set_option maxRecDepth 20000 in
set_option maxHeartbeats 6400000 in
theorem machineNew_w1 (b z e : Int) (A : Option Addr) (n c : Nat) (ms : List Int) (w : World) (he : -9223372036854775808 ≤ e ∧ e ≤ 9223372036854775807) (hn : ms.length = n) (hnc : n ≤ c) (hcm : c ≤ 9223372036854775807) (hr : Rd w A (ints ms)) (hi : ∀ x ∈ ms, -9223372036854775808 ≤ x ∧ x ≤ 9223372036854775807) (q1 : b ≤ 64) (q2 : z ≤ 64) :
    Calls Try.prog 3 #[shp b z, grp e A n c] w fun x w' => x = .returned (.bool true) ∧ Below w.heap.size w w' := by
  have Hn := hide hn
  go_enter Try.func3, Try.ntmps3
  go_wp2_with fail
  obtain ⟨W0, hW0⟩ : ∃ x, (w.alloc (.cells #[.int .i64 b, .int .i64 z] 23)).alloc (.cells #[.int .i64 e, .slice A n c] 26) = x := ⟨_, rfl⟩
  have hP : Blk W0 w.heap.size [.int .i64 b, .int .i64 z] 23 := by rw [← hW0]; exact (Blk.new w [.int .i64 b, .int .i64 z] _).alloc _
  have hZ : Blk W0 (w.heap.size + 1) [.int .i64 e, .slice A n c] 26 := by
    rw [← hW0]
    have := Blk.new (w.alloc (.cells #[.int .i64 b, .int .i64 z] 23)) [.int .i64 e, .slice A n c] 26
    rwa [World.size_alloc] at this
  have hb0 : Below w.heap.size w W0 := by rw [← hW0]; exact ((Below.refl _ _).alloc (Nat.le_refl _) _).alloc (by simp) _
  rw [hW0]
  clear hW0
  have hr0 := hr.below hb0
  have x0 := hP.cell (j := 0) rfl
  have x1 := hP.cell (j := 1) rfl
  have z0 := hZ.cell (j := 0) rfl
  have z1 := hZ.cell (j := 1) rfl
  by_cases hE : newE b z e ms = 0
  · have HE := hide hE
    have hs0 : shE b z = 0 := by
      by_cases hs : shE b z = 0
      · exact hs
      · exact absurd (hE.symm.trans (if_neg hs)).symm hs
    have hg0 : grpOk e ms = true := by
      have hg : newE b z e ms = gE e ms := if_pos hs0
      cases hq : grpOk e ms with
      | true => rfl
      | false => rw [hg, gE_bad hq] at hE; cases hE
    have hfit := fit_of (newSt_ok hs0 hg0)
    have gl := grp_len hg0
    have hAl : ∀ a, A = some a → a.block < w.heap.size := rd_block hr (fun e0 => by have h1 : ms.length = 0 := (by simpa [ints] using congrArg List.length e0); omega)
    have HFit := hide hfit
    have HAl := hide hAl
    clear hE hs0 hg0 hfit hAl gl
    go_fit (new7_any b z e A n c ms W0 (Y := fun _ => False) Hn.out hnc hcm hr0 HE.out hi he (fun b hb => hb.elim))
    rintro x w1 ⟨f, rfl, hM1, hb1⟩
    have hb01 := hb0.trans (hb1.mono hb0.size)
    have s0 := hb0.size
    have hlw := hM1.low
    have hlt := hM1.lts
    clear x0 x1 z0 z1
    have x0 := (hP.below hb1).cell (j := 0) rfl
    have x1 := (hP.below hb1).cell (j := 1) rfl
    have z0 := (hZ.below hb1).cell (j := 0) rfl
    have z1 := (hZ.below hb1).cell (j := 1) rfl
    go_wp2_with fail
    go_fit (rnew7_any b z e A n c ms w1 (Y := f.W) Hn.out hnc hcm (hr0.below hb1) HE.out (fun a ha hW => by have := hlw _ hW; have := HAl.out a ha; omega) hlt)
    rintro x w2 ⟨rf, rfl, hR2, hb2⟩
    have hb02 := hb01.trans (hb2.mono hb01.size)
    have hr2 := (hr0.below hb1).below hb2
    have hZ2 := (hZ.below hb1).below hb2
    clear x0 x1 z0 z1
    have HG1 := hide (show ∀ x : InC (fun W => Below w2.heap.size w2 W), Calls Try.prog 10 #[.agg #[.int .i64 e, .slice A n c]] x.W fun e' w' => e' = .returned (.int .i64 (gE e ms)) ∧ Below x.W.heap.size x.W w' from fun x => mgrp7_any e A n c ms x.W Hn.out (hr2.below x.h))
    have HG2 := hide (show ∀ x : InC (fun W => Below w2.heap.size w2 W), Calls Try.prog 11 #[.agg #[.int .i64 e, .slice A n c]] x.W fun e' w' => e' = .returned (.int .i64 (gE e ms)) ∧ Below x.W.heap.size x.W w' from fun x => rgroup_any e A n c ms x.W Hn.out (hr2.below x.h))
    obtain ⟨GE, hGE⟩ : ∃ y, gE e ms = y := ⟨_, rfl⟩
    rw [hGE] at HG1 HG2
    have HGE := hide hGE
    clear hGE
    have qG : (GE != GE) = false := by simp
    have HZ := hide (show ∀ X, Below w2.heap.size w2 X → Blk X (w.heap.size + 1) [.int .i64 e, .slice A n c] 26 from fun X hX => hZ2.below hX)
    have z0 : ∀ x : InC (fun W => Below w2.heap.size w2 W), x.W.cell? ⟨w.heap.size + 1, 0, none⟩ = some (.int .i64 e) := fun x => (HZ.out x.W x.h).cell (j := 0) rfl
    have z1 : ∀ x : InC (fun W => Below w2.heap.size w2 W), x.W.cell? ⟨w.heap.size + 1, 1, none⟩ = some (.slice A n c) := fun x => (HZ.out x.W x.h).cell (j := 1) rfl
    go_wp2_with fail
    refine wp_region_in (fun W => Below w2.heap.size w2 W) (Below.refl _ _).drew (by kernel_rfl) (by kernel_rfl) ?_
    repeat (go_big_quiet_step (first
      | (go_at_call 10; exact Calls.in_below (HG1.out _))
      | (go_at_call 11; exact Calls.in_below (HG2.out _))))
    refine wpQuiet_nil ?_
    intro _ hw'
    obtain ⟨nq, hw''⟩ := hw'
    subst hw''
    have hbq := nq.h
    obtain ⟨w3, hw3⟩ : ∃ y, nq.W = y := ⟨_, rfl⟩
    rw [hw3] at hbq ⊢
    have hb03 := hb02.trans (hbq.mono hb02.size)
    clear z0 z1 hw3
    have hM3 := (hM1.below hb2).below hbq
    have hR3 := hR2.below hbq
    obtain ⟨NN, B, D, G, gn, gc, hI⟩ := hM3
    obtain ⟨RN, cb, cv, rn, rc, rows, sv, rcs, RA, RG, rgn, rgc, hJ⟩ := hR3
    go_wp2_with fail
    go_fit (state7_any hI HFit.out.ok (-1))
    rintro x w4 ⟨cs4, rfl, hS4, hb4⟩
    have hb04 := hb03.trans (hb4.mono hb03.size)
    go_wp2_with fail
    go_fit (rstate7_any (hJ.below hb4) HFit.out.ok (-1))
    rintro x w5 ⟨cs5, rfl, hS5, hb5⟩
    have hb05 := hb04.trans (hb5.mono hb04.size)
    go_wp2_with fail
    go_fit (sameSt_any (hS4.below hb5) hS5 rfl)
    rintro x w6 ⟨rfl, hb6⟩
    have hb06 := hb05.trans (hb6.mono hb05.size)
    have HN := hide (num7_any (((hI.below hb4).below hb5).below hb6))
    have hn0 : (MA.of (newSt b z e ms)).num = 0 := rfl
    rw [hn0] at HN
    go_wp2_with fail
    go_fit HN.out
    rintro x w7 ⟨rfl, rfl⟩
    go_wp2_with fail
    go_fit (awake07_any w6)
    rintro x w8 ⟨rfl, hb8⟩
    go_wp2
    go_ret
    exact ⟨rfl, hb06.trans (hb8.mono hb06.size)⟩
  · have C1 := hide (new7_bad b z e A n c ms W0 Hn.out hr0 hE)
    have C2 := hide (show ∀ X, Below W0.heap.size W0 X → _ from fun X hX => rnew7_bad b z e A n c ms X Hn.out (hr0.below hX) hE)
    obtain ⟨E, hEE⟩ : ∃ y, newE b z e ms = y := ⟨_, rfl⟩
    rw [hEE] at C1 C2
    have qE : (E != E) = false := by simp
    clear hEE hE
    go_fit C1.out
    rintro x w1 ⟨rfl, hb1⟩
    have hb01 := hb0.trans (hb1.mono hb0.size)
    clear x0 x1 z0 z1
    have x0 := (hP.below hb1).cell (j := 0) rfl
    have x1 := (hP.below hb1).cell (j := 1) rfl
    have z0 := (hZ.below hb1).cell (j := 0) rfl
    have z1 := (hZ.below hb1).cell (j := 1) rfl
    go_wp2_with fail
    go_fit (C2.out w1 hb1)
    rintro x w2 ⟨rfl, hb2⟩
    have hb02 := hb01.trans (hb2.mono hb01.size)
    have hr2 := (hr0.below hb1).below hb2
    have hZ2 := (hZ.below hb1).below hb2
    clear x0 x1 z0 z1
    have HG1 := hide (show ∀ x : InC (fun W => Below w2.heap.size w2 W), Calls Try.prog 10 #[.agg #[.int .i64 e, .slice A n c]] x.W fun e' w' => e' = .returned (.int .i64 (gE e ms)) ∧ Below x.W.heap.size x.W w' from fun x => mgrp7_any e A n c ms x.W Hn.out (hr2.below x.h))
    have HG2 := hide (show ∀ x : InC (fun W => Below w2.heap.size w2 W), Calls Try.prog 11 #[.agg #[.int .i64 e, .slice A n c]] x.W fun e' w' => e' = .returned (.int .i64 (gE e ms)) ∧ Below x.W.heap.size x.W w' from fun x => rgroup_any e A n c ms x.W Hn.out (hr2.below x.h))
    obtain ⟨GE, hGE⟩ : ∃ y, gE e ms = y := ⟨_, rfl⟩
    rw [hGE] at HG1 HG2
    have HGE := hide hGE
    clear hGE
    have qG : (GE != GE) = false := by simp
    have HZ := hide (show ∀ X, Below w2.heap.size w2 X → Blk X (w.heap.size + 1) [.int .i64 e, .slice A n c] 26 from fun X hX => hZ2.below hX)
    have z0 : ∀ x : InC (fun W => Below w2.heap.size w2 W), x.W.cell? ⟨w.heap.size + 1, 0, none⟩ = some (.int .i64 e) := fun x => (HZ.out x.W x.h).cell (j := 0) rfl
    have z1 : ∀ x : InC (fun W => Below w2.heap.size w2 W), x.W.cell? ⟨w.heap.size + 1, 1, none⟩ = some (.slice A n c) := fun x => (HZ.out x.W x.h).cell (j := 1) rfl
    go_wp2_with fail
    refine wp_region_in (fun W => Below w2.heap.size w2 W) (Below.refl _ _).drew (by kernel_rfl) (by kernel_rfl) ?_
    repeat (go_big_quiet_step (first
      | (go_at_call 10; exact Calls.in_below (HG1.out _))
      | (go_at_call 11; exact Calls.in_below (HG2.out _))))
    refine wpQuiet_nil ?_
    intro _ hw'
    obtain ⟨nq, hw''⟩ := hw'
    subst hw''
    have hbq := nq.h
    obtain ⟨w3, hw3⟩ : ∃ y, nq.W = y := ⟨_, rfl⟩
    rw [hw3] at hbq ⊢
    have hb03 := hb02.trans (hbq.mono hb02.size)
    clear z0 z1 hw3
    go_wp2_with fail
    go_fit (awake07_any w3)
    rintro x w8 ⟨rfl, hb8⟩
    go_wp2
    go_ret
    exact ⟨rfl, hb03.trans (hb8.mono hb03.size)⟩

set_option maxRecDepth 20000 in
set_option maxHeartbeats 6400000 in
theorem machineNew_w2 (b z e : Int) (A : Option Addr) (n c : Nat) (ms : List Int) (w : World) (he : -9223372036854775808 ≤ e ∧ e ≤ 9223372036854775807) (hn : ms.length = n) (hnc : n ≤ c) (hcm : c ≤ 9223372036854775807) (hr : Rd w A (ints ms)) (hi : ∀ x ∈ ms, -9223372036854775808 ≤ x ∧ x ≤ 9223372036854775807) (q1 : 64 < b) (hb : b ≤ 9223372036854775807) (hz : -9223372036854775808 ≤ z ∧ z ≤ 9223372036854775807) :
    Calls Try.prog 3 #[shp b z, grp e A n c] w fun x w' => x = .returned (.bool true) ∧ Below w.heap.size w w' := by
  have Hn := hide hn
  go_enter Try.func3, Try.ntmps3
  go_wp2_with fail
  generalize (min b 64 + b / 4097 * 4096) = b'
  generalize (min z 64) = z'
  obtain ⟨W0, hW0⟩ : ∃ x, (w.alloc (.cells #[.int .i64 b', .int .i64 z'] 23)).alloc (.cells #[.int .i64 e, .slice A n c] 26) = x := ⟨_, rfl⟩
  have hP : Blk W0 w.heap.size [.int .i64 b', .int .i64 z'] 23 := by rw [← hW0]; exact (Blk.new w [.int .i64 b', .int .i64 z'] _).alloc _
  have hZ : Blk W0 (w.heap.size + 1) [.int .i64 e, .slice A n c] 26 := by
    rw [← hW0]
    have := Blk.new (w.alloc (.cells #[.int .i64 b', .int .i64 z'] 23)) [.int .i64 e, .slice A n c] 26
    rwa [World.size_alloc] at this
  have hb0 : Below w.heap.size w W0 := by rw [← hW0]; exact ((Below.refl _ _).alloc (Nat.le_refl _) _).alloc (by simp) _
  rw [hW0]
  clear hW0
  have hr0 := hr.below hb0
  have x0 := hP.cell (j := 0) rfl
  have x1 := hP.cell (j := 1) rfl
  have z0 := hZ.cell (j := 0) rfl
  have z1 := hZ.cell (j := 1) rfl
  by_cases hE : newE b' z' e ms = 0
  · have HE := hide hE
    have hs0 : shE b' z' = 0 := by
      by_cases hs : shE b' z' = 0
      · exact hs
      · exact absurd (hE.symm.trans (if_neg hs)).symm hs
    have hg0 : grpOk e ms = true := by
      have hg : newE b' z' e ms = gE e ms := if_pos hs0
      cases hq : grpOk e ms with
      | true => rfl
      | false => rw [hg, gE_bad hq] at hE; cases hE
    have hfit := fit_of (newSt_ok hs0 hg0)
    have gl := grp_len hg0
    have hAl : ∀ a, A = some a → a.block < w.heap.size := rd_block hr (fun e0 => by have h1 : ms.length = 0 := (by simpa [ints] using congrArg List.length e0); omega)
    have HFit := hide hfit
    have HAl := hide hAl
    clear hE hs0 hg0 hfit hAl gl
    go_fit (new7_any b' z' e A n c ms W0 (Y := fun _ => False) Hn.out hnc hcm hr0 HE.out hi he (fun b hb => hb.elim))
    rintro x w1 ⟨f, rfl, hM1, hb1⟩
    have hb01 := hb0.trans (hb1.mono hb0.size)
    have s0 := hb0.size
    have hlw := hM1.low
    have hlt := hM1.lts
    clear x0 x1 z0 z1
    have x0 := (hP.below hb1).cell (j := 0) rfl
    have x1 := (hP.below hb1).cell (j := 1) rfl
    have z0 := (hZ.below hb1).cell (j := 0) rfl
    have z1 := (hZ.below hb1).cell (j := 1) rfl
    go_wp2_with fail
    go_fit (rnew7_any b' z' e A n c ms w1 (Y := f.W) Hn.out hnc hcm (hr0.below hb1) HE.out (fun a ha hW => by have := hlw _ hW; have := HAl.out a ha; omega) hlt)
    rintro x w2 ⟨rf, rfl, hR2, hb2⟩
    have hb02 := hb01.trans (hb2.mono hb01.size)
    have hr2 := (hr0.below hb1).below hb2
    have hZ2 := (hZ.below hb1).below hb2
    clear x0 x1 z0 z1
    have HG1 := hide (show ∀ x : InC (fun W => Below w2.heap.size w2 W), Calls Try.prog 10 #[.agg #[.int .i64 e, .slice A n c]] x.W fun e' w' => e' = .returned (.int .i64 (gE e ms)) ∧ Below x.W.heap.size x.W w' from fun x => mgrp7_any e A n c ms x.W Hn.out (hr2.below x.h))
    have HG2 := hide (show ∀ x : InC (fun W => Below w2.heap.size w2 W), Calls Try.prog 11 #[.agg #[.int .i64 e, .slice A n c]] x.W fun e' w' => e' = .returned (.int .i64 (gE e ms)) ∧ Below x.W.heap.size x.W w' from fun x => rgroup_any e A n c ms x.W Hn.out (hr2.below x.h))
    obtain ⟨GE, hGE⟩ : ∃ y, gE e ms = y := ⟨_, rfl⟩
    rw [hGE] at HG1 HG2
    have HGE := hide hGE
    clear hGE
    have qG : (GE != GE) = false := by simp
    have HZ := hide (show ∀ X, Below w2.heap.size w2 X → Blk X (w.heap.size + 1) [.int .i64 e, .slice A n c] 26 from fun X hX => hZ2.below hX)
    have z0 : ∀ x : InC (fun W => Below w2.heap.size w2 W), x.W.cell? ⟨w.heap.size + 1, 0, none⟩ = some (.int .i64 e) := fun x => (HZ.out x.W x.h).cell (j := 0) rfl
    have z1 : ∀ x : InC (fun W => Below w2.heap.size w2 W), x.W.cell? ⟨w.heap.size + 1, 1, none⟩ = some (.slice A n c) := fun x => (HZ.out x.W x.h).cell (j := 1) rfl
    go_wp2_with fail
    refine wp_region_in (fun W => Below w2.heap.size w2 W) (Below.refl _ _).drew (by kernel_rfl) (by kernel_rfl) ?_
    repeat (go_big_quiet_step (first
      | (go_at_call 10; exact Calls.in_below (HG1.out _))
      | (go_at_call 11; exact Calls.in_below (HG2.out _))))
    refine wpQuiet_nil ?_
    intro _ hw'
    obtain ⟨nq, hw''⟩ := hw'
    subst hw''
    have hbq := nq.h
    obtain ⟨w3, hw3⟩ : ∃ y, nq.W = y := ⟨_, rfl⟩
    rw [hw3] at hbq ⊢
    have hb03 := hb02.trans (hbq.mono hb02.size)
    clear z0 z1 hw3
    have hM3 := (hM1.below hb2).below hbq
    have hR3 := hR2.below hbq
    obtain ⟨NN, B, D, G, gn, gc, hI⟩ := hM3
    obtain ⟨RN, cb, cv, rn, rc, rows, sv, rcs, RA, RG, rgn, rgc, hJ⟩ := hR3
    go_wp2_with fail
    go_fit (state7_any hI HFit.out.ok (-1))
    rintro x w4 ⟨cs4, rfl, hS4, hb4⟩
    have hb04 := hb03.trans (hb4.mono hb03.size)
    go_wp2_with fail
    go_fit (rstate7_any (hJ.below hb4) HFit.out.ok (-1))
    rintro x w5 ⟨cs5, rfl, hS5, hb5⟩
    have hb05 := hb04.trans (hb5.mono hb04.size)
    go_wp2_with fail
    go_fit (sameSt_any (hS4.below hb5) hS5 rfl)
    rintro x w6 ⟨rfl, hb6⟩
    have hb06 := hb05.trans (hb6.mono hb05.size)
    have HN := hide (num7_any (((hI.below hb4).below hb5).below hb6))
    have hn0 : (MA.of (newSt b' z' e ms)).num = 0 := rfl
    rw [hn0] at HN
    go_wp2_with fail
    go_fit HN.out
    rintro x w7 ⟨rfl, rfl⟩
    go_wp2_with fail
    go_fit (awake07_any w6)
    rintro x w8 ⟨rfl, hb8⟩
    go_wp2
    go_ret
    exact ⟨rfl, hb06.trans (hb8.mono hb06.size)⟩
  · have C1 := hide (new7_bad b' z' e A n c ms W0 Hn.out hr0 hE)
    have C2 := hide (show ∀ X, Below W0.heap.size W0 X → _ from fun X hX => rnew7_bad b' z' e A n c ms X Hn.out (hr0.below hX) hE)
    obtain ⟨E, hEE⟩ : ∃ y, newE b' z' e ms = y := ⟨_, rfl⟩
    rw [hEE] at C1 C2
    have qE : (E != E) = false := by simp
    clear hEE hE
    go_fit C1.out
    rintro x w1 ⟨rfl, hb1⟩
    have hb01 := hb0.trans (hb1.mono hb0.size)
    clear x0 x1 z0 z1
    have x0 := (hP.below hb1).cell (j := 0) rfl
    have x1 := (hP.below hb1).cell (j := 1) rfl
    have z0 := (hZ.below hb1).cell (j := 0) rfl
    have z1 := (hZ.below hb1).cell (j := 1) rfl
    go_wp2_with fail
    go_fit (C2.out w1 hb1)
    rintro x w2 ⟨rfl, hb2⟩
    have hb02 := hb01.trans (hb2.mono hb01.size)
    have hr2 := (hr0.below hb1).below hb2
    have hZ2 := (hZ.below hb1).below hb2
    clear x0 x1 z0 z1
    have HG1 := hide (show ∀ x : InC (fun W => Below w2.heap.size w2 W), Calls Try.prog 10 #[.agg #[.int .i64 e, .slice A n c]] x.W fun e' w' => e' = .returned (.int .i64 (gE e ms)) ∧ Below x.W.heap.size x.W w' from fun x => mgrp7_any e A n c ms x.W Hn.out (hr2.below x.h))
    have HG2 := hide (show ∀ x : InC (fun W => Below w2.heap.size w2 W), Calls Try.prog 11 #[.agg #[.int .i64 e, .slice A n c]] x.W fun e' w' => e' = .returned (.int .i64 (gE e ms)) ∧ Below x.W.heap.size x.W w' from fun x => rgroup_any e A n c ms x.W Hn.out (hr2.below x.h))
    obtain ⟨GE, hGE⟩ : ∃ y, gE e ms = y := ⟨_, rfl⟩
    rw [hGE] at HG1 HG2
    have HGE := hide hGE
    clear hGE
    have qG : (GE != GE) = false := by simp
    have HZ := hide (show ∀ X, Below w2.heap.size w2 X → Blk X (w.heap.size + 1) [.int .i64 e, .slice A n c] 26 from fun X hX => hZ2.below hX)
    have z0 : ∀ x : InC (fun W => Below w2.heap.size w2 W), x.W.cell? ⟨w.heap.size + 1, 0, none⟩ = some (.int .i64 e) := fun x => (HZ.out x.W x.h).cell (j := 0) rfl
    have z1 : ∀ x : InC (fun W => Below w2.heap.size w2 W), x.W.cell? ⟨w.heap.size + 1, 1, none⟩ = some (.slice A n c) := fun x => (HZ.out x.W x.h).cell (j := 1) rfl
    go_wp2_with fail
    refine wp_region_in (fun W => Below w2.heap.size w2 W) (Below.refl _ _).drew (by kernel_rfl) (by kernel_rfl) ?_
    repeat (go_big_quiet_step (first
      | (go_at_call 10; exact Calls.in_below (HG1.out _))
      | (go_at_call 11; exact Calls.in_below (HG2.out _))))
    refine wpQuiet_nil ?_
    intro _ hw'
    obtain ⟨nq, hw''⟩ := hw'
    subst hw''
    have hbq := nq.h
    obtain ⟨w3, hw3⟩ : ∃ y, nq.W = y := ⟨_, rfl⟩
    rw [hw3] at hbq ⊢
    have hb03 := hb02.trans (hbq.mono hb02.size)
    clear z0 z1 hw3
    go_wp2_with fail
    go_fit (awake07_any w3)
    rintro x w8 ⟨rfl, hb8⟩
    go_wp2
    go_ret
    exact ⟨rfl, hb03.trans (hb8.mono hb03.size)⟩

set_option maxRecDepth 20000 in
set_option maxHeartbeats 6400000 in
theorem machineNew_w3 (b z e : Int) (A : Option Addr) (n c : Nat) (ms : List Int) (w : World) (he : -9223372036854775808 ≤ e ∧ e ≤ 9223372036854775807) (hn : ms.length = n) (hnc : n ≤ c) (hcm : c ≤ 9223372036854775807) (hr : Rd w A (ints ms)) (hi : ∀ x ∈ ms, -9223372036854775808 ≤ x ∧ x ≤ 9223372036854775807) (q1 : b ≤ 64) (q2 : 64 < z) (hb : -9223372036854775808 ≤ b) (hz : z ≤ 9223372036854775807) :
    Calls Try.prog 3 #[shp b z, grp e A n c] w fun x w' => x = .returned (.bool true) ∧ Below w.heap.size w w' := by
  have Hn := hide hn
  go_enter Try.func3, Try.ntmps3
  go_wp2_with fail
  generalize (wrap64 (min b 64 + wrap64 (b.tdiv 4097 * 4096))) = b'
  generalize (min z 64) = z'
  obtain ⟨W0, hW0⟩ : ∃ x, (w.alloc (.cells #[.int .i64 b', .int .i64 z'] 23)).alloc (.cells #[.int .i64 e, .slice A n c] 26) = x := ⟨_, rfl⟩
  have hP : Blk W0 w.heap.size [.int .i64 b', .int .i64 z'] 23 := by rw [← hW0]; exact (Blk.new w [.int .i64 b', .int .i64 z'] _).alloc _
  have hZ : Blk W0 (w.heap.size + 1) [.int .i64 e, .slice A n c] 26 := by
    rw [← hW0]
    have := Blk.new (w.alloc (.cells #[.int .i64 b', .int .i64 z'] 23)) [.int .i64 e, .slice A n c] 26
    rwa [World.size_alloc] at this
  have hb0 : Below w.heap.size w W0 := by rw [← hW0]; exact ((Below.refl _ _).alloc (Nat.le_refl _) _).alloc (by simp) _
  rw [hW0]
  clear hW0
  have hr0 := hr.below hb0
  have x0 := hP.cell (j := 0) rfl
  have x1 := hP.cell (j := 1) rfl
  have z0 := hZ.cell (j := 0) rfl
  have z1 := hZ.cell (j := 1) rfl
  by_cases hE : newE b' z' e ms = 0
  · have HE := hide hE
    have hs0 : shE b' z' = 0 := by
      by_cases hs : shE b' z' = 0
      · exact hs
      · exact absurd (hE.symm.trans (if_neg hs)).symm hs
    have hg0 : grpOk e ms = true := by
      have hg : newE b' z' e ms = gE e ms := if_pos hs0
      cases hq : grpOk e ms with
      | true => rfl
      | false => rw [hg, gE_bad hq] at hE; cases hE
    have hfit := fit_of (newSt_ok hs0 hg0)
    have gl := grp_len hg0
    have hAl : ∀ a, A = some a → a.block < w.heap.size := rd_block hr (fun e0 => by have h1 : ms.length = 0 := (by simpa [ints] using congrArg List.length e0); omega)
    have HFit := hide hfit
    have HAl := hide hAl
    clear hE hs0 hg0 hfit hAl gl
    go_fit (new7_any b' z' e A n c ms W0 (Y := fun _ => False) Hn.out hnc hcm hr0 HE.out hi he (fun b hb => hb.elim))
    rintro x w1 ⟨f, rfl, hM1, hb1⟩
    have hb01 := hb0.trans (hb1.mono hb0.size)
    have s0 := hb0.size
    have hlw := hM1.low
    have hlt := hM1.lts
    clear x0 x1 z0 z1
    have x0 := (hP.below hb1).cell (j := 0) rfl
    have x1 := (hP.below hb1).cell (j := 1) rfl
    have z0 := (hZ.below hb1).cell (j := 0) rfl
    have z1 := (hZ.below hb1).cell (j := 1) rfl
    go_wp2_with fail
    go_fit (rnew7_any b' z' e A n c ms w1 (Y := f.W) Hn.out hnc hcm (hr0.below hb1) HE.out (fun a ha hW => by have := hlw _ hW; have := HAl.out a ha; omega) hlt)
    rintro x w2 ⟨rf, rfl, hR2, hb2⟩
    have hb02 := hb01.trans (hb2.mono hb01.size)
    have hr2 := (hr0.below hb1).below hb2
    have hZ2 := (hZ.below hb1).below hb2
    clear x0 x1 z0 z1
    have HG1 := hide (show ∀ x : InC (fun W => Below w2.heap.size w2 W), Calls Try.prog 10 #[.agg #[.int .i64 e, .slice A n c]] x.W fun e' w' => e' = .returned (.int .i64 (gE e ms)) ∧ Below x.W.heap.size x.W w' from fun x => mgrp7_any e A n c ms x.W Hn.out (hr2.below x.h))
    have HG2 := hide (show ∀ x : InC (fun W => Below w2.heap.size w2 W), Calls Try.prog 11 #[.agg #[.int .i64 e, .slice A n c]] x.W fun e' w' => e' = .returned (.int .i64 (gE e ms)) ∧ Below x.W.heap.size x.W w' from fun x => rgroup_any e A n c ms x.W Hn.out (hr2.below x.h))
    obtain ⟨GE, hGE⟩ : ∃ y, gE e ms = y := ⟨_, rfl⟩
    rw [hGE] at HG1 HG2
    have HGE := hide hGE
    clear hGE
    have qG : (GE != GE) = false := by simp
    have HZ := hide (show ∀ X, Below w2.heap.size w2 X → Blk X (w.heap.size + 1) [.int .i64 e, .slice A n c] 26 from fun X hX => hZ2.below hX)
    have z0 : ∀ x : InC (fun W => Below w2.heap.size w2 W), x.W.cell? ⟨w.heap.size + 1, 0, none⟩ = some (.int .i64 e) := fun x => (HZ.out x.W x.h).cell (j := 0) rfl
    have z1 : ∀ x : InC (fun W => Below w2.heap.size w2 W), x.W.cell? ⟨w.heap.size + 1, 1, none⟩ = some (.slice A n c) := fun x => (HZ.out x.W x.h).cell (j := 1) rfl
    go_wp2_with fail
    refine wp_region_in (fun W => Below w2.heap.size w2 W) (Below.refl _ _).drew (by kernel_rfl) (by kernel_rfl) ?_
    repeat (go_big_quiet_step (first
      | (go_at_call 10; exact Calls.in_below (HG1.out _))
      | (go_at_call 11; exact Calls.in_below (HG2.out _))))
    refine wpQuiet_nil ?_
    intro _ hw'
    obtain ⟨nq, hw''⟩ := hw'
    subst hw''
    have hbq := nq.h
    obtain ⟨w3, hw3⟩ : ∃ y, nq.W = y := ⟨_, rfl⟩
    rw [hw3] at hbq ⊢
    have hb03 := hb02.trans (hbq.mono hb02.size)
    clear z0 z1 hw3
    have hM3 := (hM1.below hb2).below hbq
    have hR3 := hR2.below hbq
    obtain ⟨NN, B, D, G, gn, gc, hI⟩ := hM3
    obtain ⟨RN, cb, cv, rn, rc, rows, sv, rcs, RA, RG, rgn, rgc, hJ⟩ := hR3
    go_wp2_with fail
    go_fit (state7_any hI HFit.out.ok (-1))
    rintro x w4 ⟨cs4, rfl, hS4, hb4⟩
    have hb04 := hb03.trans (hb4.mono hb03.size)
    go_wp2_with fail
    go_fit (rstate7_any (hJ.below hb4) HFit.out.ok (-1))
    rintro x w5 ⟨cs5, rfl, hS5, hb5⟩
    have hb05 := hb04.trans (hb5.mono hb04.size)
    go_wp2_with fail
    go_fit (sameSt_any (hS4.below hb5) hS5 rfl)
    rintro x w6 ⟨rfl, hb6⟩
    have hb06 := hb05.trans (hb6.mono hb05.size)
    have HN := hide (num7_any (((hI.below hb4).below hb5).below hb6))
    have hn0 : (MA.of (newSt b' z' e ms)).num = 0 := rfl
    rw [hn0] at HN
    go_wp2_with fail
    go_fit HN.out
    rintro x w7 ⟨rfl, rfl⟩
    go_wp2_with fail
    go_fit (awake07_any w6)
    rintro x w8 ⟨rfl, hb8⟩
    go_wp2
    go_ret
    exact ⟨rfl, hb06.trans (hb8.mono hb06.size)⟩
  · have C1 := hide (new7_bad b' z' e A n c ms W0 Hn.out hr0 hE)
    have C2 := hide (show ∀ X, Below W0.heap.size W0 X → _ from fun X hX => rnew7_bad b' z' e A n c ms X Hn.out (hr0.below hX) hE)
    obtain ⟨E, hEE⟩ : ∃ y, newE b' z' e ms = y := ⟨_, rfl⟩
    rw [hEE] at C1 C2
    have qE : (E != E) = false := by simp
    clear hEE hE
    go_fit C1.out
    rintro x w1 ⟨rfl, hb1⟩
    have hb01 := hb0.trans (hb1.mono hb0.size)
    clear x0 x1 z0 z1
    have x0 := (hP.below hb1).cell (j := 0) rfl
    have x1 := (hP.below hb1).cell (j := 1) rfl
    have z0 := (hZ.below hb1).cell (j := 0) rfl
    have z1 := (hZ.below hb1).cell (j := 1) rfl
    go_wp2_with fail
    go_fit (C2.out w1 hb1)
    rintro x w2 ⟨rfl, hb2⟩
    have hb02 := hb01.trans (hb2.mono hb01.size)
    have hr2 := (hr0.below hb1).below hb2
    have hZ2 := (hZ.below hb1).below hb2
    clear x0 x1 z0 z1
    have HG1 := hide (show ∀ x : InC (fun W => Below w2.heap.size w2 W), Calls Try.prog 10 #[.agg #[.int .i64 e, .slice A n c]] x.W fun e' w' => e' = .returned (.int .i64 (gE e ms)) ∧ Below x.W.heap.size x.W w' from fun x => mgrp7_any e A n c ms x.W Hn.out (hr2.below x.h))
    have HG2 := hide (show ∀ x : InC (fun W => Below w2.heap.size w2 W), Calls Try.prog 11 #[.agg #[.int .i64 e, .slice A n c]] x.W fun e' w' => e' = .returned (.int .i64 (gE e ms)) ∧ Below x.W.heap.size x.W w' from fun x => rgroup_any e A n c ms x.W Hn.out (hr2.below x.h))
    obtain ⟨GE, hGE⟩ : ∃ y, gE e ms = y := ⟨_, rfl⟩
    rw [hGE] at HG1 HG2
    have HGE := hide hGE
    clear hGE
    have qG : (GE != GE) = false := by simp
    have HZ := hide (show ∀ X, Below w2.heap.size w2 X → Blk X (w.heap.size + 1) [.int .i64 e, .slice A n c] 26 from fun X hX => hZ2.below hX)
    have z0 : ∀ x : InC (fun W => Below w2.heap.size w2 W), x.W.cell? ⟨w.heap.size + 1, 0, none⟩ = some (.int .i64 e) := fun x => (HZ.out x.W x.h).cell (j := 0) rfl
    have z1 : ∀ x : InC (fun W => Below w2.heap.size w2 W), x.W.cell? ⟨w.heap.size + 1, 1, none⟩ = some (.slice A n c) := fun x => (HZ.out x.W x.h).cell (j := 1) rfl
    go_wp2_with fail
    refine wp_region_in (fun W => Below w2.heap.size w2 W) (Below.refl _ _).drew (by kernel_rfl) (by kernel_rfl) ?_
    repeat (go_big_quiet_step (first
      | (go_at_call 10; exact Calls.in_below (HG1.out _))
      | (go_at_call 11; exact Calls.in_below (HG2.out _))))
    refine wpQuiet_nil ?_
    intro _ hw'
    obtain ⟨nq, hw''⟩ := hw'
    subst hw''
    have hbq := nq.h
    obtain ⟨w3, hw3⟩ : ∃ y, nq.W = y := ⟨_, rfl⟩
    rw [hw3] at hbq ⊢
    have hb03 := hb02.trans (hbq.mono hb02.size)
    clear z0 z1 hw3
    go_wp2_with fail
    go_fit (awake07_any w3)
    rintro x w8 ⟨rfl, hb8⟩
    go_wp2
    go_ret
    exact ⟨rfl, hb03.trans (hb8.mono hb03.size)⟩

theorem machineNew_walk (b z e : Int) (A : Option Addr) (n c : Nat) (ms : List Int) (w : World) (hb : -9223372036854775808 ≤ b ∧ b ≤ 9223372036854775807) (hz : -9223372036854775808 ≤ z ∧ z ≤ 9223372036854775807) (he : -9223372036854775808 ≤ e ∧ e ≤ 9223372036854775807) (hn : ms.length = n) (hnc : n ≤ c) (hcm : c ≤ 9223372036854775807) (hr : Rd w A (ints ms)) (hi : ∀ x ∈ ms, -9223372036854775808 ≤ x ∧ x ≤ 9223372036854775807) :
    Calls Try.prog 3 #[shp b z, grp e A n c] w fun x w' => x = .returned (.bool true) ∧ Below w.heap.size w w' := by
  by_cases q1 : b ≤ 64
  · by_cases q2 : z ≤ 64
    · exact machineNew_w1 b z e A n c ms w he hn hnc hcm hr hi q1 q2
    · exact machineNew_w3 b z e A n c ms w he hn hnc hcm hr hi q1 (by omega) hb.1 hz.2
  · exact machineNew_w2 b z e A n c ms w he hn hnc hcm hr hi (by omega) hb.2 hz
end Go.Proofs.Ytkknkdjdneldlaa
namespace Go.Proofs.Ytkknkdjdneldlaa
set_option maxRecDepth 20000
open Go.ChangeShapes Go.WideShapes Go.ChangeAt Go.RowKit Go.Px Go.Joins Go.Deep
set_option linter.unusedVariables false

set_option maxRecDepth 100000 in
theorem machineNew_lifted (os : Os) (started : os.Started) (H : Type) (enc : TypeId × Value → H) :
    ReturnsInHanded {} Try.checked os 3 .any (Rows.machineNewSpec.pre6 enc Try.prog Try.f3 Rows.machineNewRow.domain false) (Rows.machineNewSpec.post enc Try.prog Try.f3 false true false false) := by
  refine returnsInHanded_of_change (C := Try.checked) own started (by kernel_rfl) Try.func3
    (ChangeSpec.witness6 (enc := enc) (C := Try.checked) false ⟨#[], #[.agg #[.int .i64 0, .int .i64 0], .agg #[.int .i64 0, .slice none 0 0]], []⟩ 8 (by kernel_rfl) (by kernel_rfl) (by kernel_rfl) (by kernel_rfl)) ?_
  intro W base args ds gs before hval0 hW _ hweigh
  have hval : ∀ (j : Nat) t v, Try.f3.params[j]? = some t → args[j]? = some v → Value.okWide Try.prog W .any base t v := hval0
  have hW' := hW
  obtain ⟨p, q, hA0, hV, rfl, hfz, hnd⟩ := hW
  have hA : DataW.TrodAll enc Try.prog W 0 (fun _ => true) true Try.f3.params.toList args.toList ds p := hA0
  rw [Try.params3] at hA hval
  obtain ⟨v0, l0, d0, e0, p0, q0, ha0, rfl, rfl, h0, r0⟩ := trodAll_cons hA
  obtain ⟨v1, l1, d1, e1, p1, q1, rfl, rfl, rfl, h1, r1⟩ := trodAll_cons r0
  obtain ⟨rfl, rfl, rfl⟩ := trodAll_nil r1
  obtain rfl : args = #[v0, v1] := by cases args; simp_all
  obtain ⟨rfl, rfl⟩ := trodVars_none hV
  obtain ⟨cs0, rfl, hcs0, nn0, hf0⟩ := open_byfields Try.underlying23 (by kernel_rfl) (by kernel_rfl) (hval 0 23 v0 rfl rfl) h0
  obtain ⟨c00, t00, q00, k00⟩ := hf0 0 _ rfl
  obtain ⟨c01, t01, q01, k01⟩ := hf0 1 _ rfl
  obtain rfl := arr2 hcs0 q00 q01
  obtain ⟨b, rfl, h1_b, h2_b⟩ := open_i64F Try.underlying3 k00
  obtain ⟨z, rfl, h1_z, h2_z⟩ := open_i64F Try.underlying3 k01
  obtain ⟨⟨lg⟩, rfl, _⟩ := okWide_struct Try.underlying26 (hval 1 26 v1 rfl rfl); obtain ⟨g, hx1⟩ := open_any (t := tyGroup) (T := 26) (by kernel_rfl) h1; have hy1 : tyGroup.Is _ _ g lg := hx1
  obtain ⟨pEpoch, pMembers, pMembersA, pMembersn, pMembersc, pMembersv, rfl, rfl, h1_pEpoch, h2_pEpoch, hl_pMembers, hc_pMembers, hm_pMembers, hr_pMembers, hq_pMembers, he_pMembers⟩ := Group_out hy1
  obtain ⟨hmi, hbd⟩ := i64rows he_pMembers
  subst hmi
  refine (machineNew_walk b z pEpoch pMembersA pMembersn pMembersc pMembers W ⟨h1_b, h2_b⟩ ⟨h1_z, h2_z⟩ ⟨h1_pEpoch, h2_pEpoch⟩ hl_pMembers hc_pMembers hm_pMembers hr_pMembers hbd).mono fun e W' ⟨he, hb⟩ => ?_
  subst he
  exact ⟨_, rfl, law_post laidOut rfl rfl Try.underlying4 (fun t ht => (show ∀ t ∈ Try.f3.params.toList, Try.prog.readableRec t = true ∧ t < Try.prog.types.size from by decide +kernel) t ht) hW' rfl hb⟩

theorem machineNew_holds : Rows.MachineNewSaid :=
  OpenClaim.holds_of_wide 3 Try.f3 rfl rfl rfl rfl rfl rfl rfl ⟨rfl, rfl, rfl, rfl, rfl⟩ rfl rfl rfl rfl rfl (by kernel_rfl) Try.func3 (by kernel_rfl)
    (of_decide_eq_true (by kernel_rfl)) (by unfold Func.isWrapper; first | (rw [if_pos (by decide +kernel)]; kernel_rfl) | (rw [if_neg (by decide +kernel)]; exact ⟨rfl, rfl⟩))
    (fun os started H enc _ => machineNew_lifted os started H enc)
end Go.Proofs.Ytkknkdjdneldlaa
