/- For every input the law MachineNobody returns true, and each argument reads afterwards as it read before. No condition. -/
import Derived.Test.YtkknkdjdneldlaaRows
import Derived.Test.YtkknkdjdneldlaaK71
import Derived.Test.YtkknkdjdneldlaaK72
import Derived.Test.YtkknkdjdneldlaaK73
import Derived.Test.YtkknkdjdneldlaaK74
import Derived.Test.YtkknkdjdneldlaaK75
import Derived.Test.YtkknkdjdneldlaaK76
import Derived.Test.YtkknkdjdneldlaaK77
import Derived.Test.YtkknkdjdneldlaaK78
import Derived.Test.YtkknkdjdneldlaaK79
import Derived.Test.YtkknkdjdneldlaaK710
import Derived.Test.YtkknkdjdneldlaaK711
namespace Go.Px
open Go.RowKit

/-! ### hide -/
/-! ### addresses -/
/-! ### what a slice reads as: nil let in -/
section
variable {w w' : World} {A : Option Addr} {xs : List Value}
end

/-! ### rows that a call owns -/
section
variable {w w' : World} {base : Nat} {e : TypeId} {size n : Nat} {v : Value} {xs : List Value}
end

/-! ### bytes and integers -/
/-! ### facts of a slice's type -/
/-! ### append onto a row of the call's own -/
section
variable {P : Program} {w : World}
end

/-! ### places at which a walk stands still, to be led on by hand -/
section
variable {P : Program} {w : World} {ops : Array Oper} {rest : List Oper} {o : Oper} {a : Act} {Q : Exit → Act → World → Prop}
end

/-! ### a row that grows, round by round -/
section
variable {P : Program} {w wr : World} {v0 v : Value} {base e size n : Nat} {xs : List Value}
variable {ops : Array Oper} {rest : List Oper} {o : Oper} {a : Act} {Q : Exit → Act → World → Prop}
end

/-! ### a law's row from its walk -/
section
open Go.ChangeShapes Go.WideShapes Go.ChangeAt
variable {H : Type} {enc : TypeId × Value → H} {P : Program}
theorem trodAll_below (hl : laidOutB P = true) {W W' : World} (hb : Below W.heap.size W W') : ∀ {ts : List TypeId} {vs : List Value} {ds : List (DataW H)} {ps : List MemPlace},
    (∀ t ∈ ts, P.readableRec t = true ∧ t < P.types.size) → DataW.TrodAll enc P W 0 (fun _ => true) true ts vs ds ps → (∀ x ∈ ps, x.block < W.heap.size) →
    ∀ sp : Nat → Bool, (∀ p ∈ ps, sp p.block = true) → DataW.TrodAll enc P W' 0 sp true ts vs ds ps
  | [], vs, ds, ps, _, h, _, _, _ => by
    obtain ⟨rfl, rfl, rfl⟩ := trodAll_nil h
    exact trodAll_mk0
  | t :: ts, vs, ds, ps, hr, h, hlt, sp, hsp => by
    obtain ⟨v, vs', d, ds', p, q, rfl, rfl, rfl, h1, h2⟩ := trodAll_cons h
    have ht := hr t List.mem_cons_self
    refine trodAll_cons_mk ?_ (trodAll_below hl hb (fun t' ht' => hr t' (List.mem_cons_of_mem _ ht')) h2 (fun x hx => hlt x (List.mem_append_right _ hx)) sp (fun x hx => hsp x (List.mem_append_right _ hx)))
    exact WideElems.Trod_stays hl ht.1 ht.2 h1 (fun x hx => hb.same (hlt x (List.mem_append_left _ hx))) (fun x hx => hsp x (List.mem_append_left _ hx))
theorem wf_u64 {v : Int} (h : (Lit.int .u64 v).wf = true) : ∃ n : Nat, v = n ∧ n < 18446744073709551616 := by
  have hz : 0 ≤ v ∧ v ≤ 18446744073709551615 := by simpa [Lit.wf, IntKind.min, IntKind.max, IntKind.signed, IntKind.bits] using h
  exact ⟨v.toNat, by omega, by omega⟩
theorem wf_i64 {v : Int} (h : (Lit.int .i64 v).wf = true) : -9223372036854775808 ≤ v ∧ v ≤ 9223372036854775807 := by
  simpa [Lit.wf, IntKind.min, IntKind.max, IntKind.signed, IntKind.bits] using h
/-- WHAT A LAW OWES: 'it returns true, and nothing that was there has turned'. The rest of its row is the same for all laws that name no variable. -/
theorem law_post {f : Func} {s : ChangeSpec} {W W' : World} {args : Array Value} {ds gs : List (DataW H)} {before : List MemPlace} {tb : TypeId}
    (hl : laidOutB P = true) (hvars : s.vars = []) (hres : f.resultTypes = #[tb]) (htb : P.underlying tb = some .bool)
    (hr : ∀ t ∈ f.params.toList, P.readableRec t = true ∧ t < P.types.size)
    (hW : DataW.Whole enc P f.params.toList s.vars false W args.toList ds gs before)
    (hs : s.fn H (ds ++ gs) = { results := [.lit (.bool true)], args := ds, vars := [] })
    (hb : Below W.heap.size W W') : s.post enc P f false true false false W args (.bool true) W' := by
  have hW0 := hW
  obtain ⟨p, q, hA, hV, rfl, hfz, hnd⟩ := hW
  rw [hvars] at hV
  obtain ⟨rfl, rfl⟩ := trodVars_none hV
  have hlt : ∀ x ∈ p ++ [], x.block < W.heap.size := fun x hx => hW0.lt x hx
  have hold : ∀ p' ∈ p ++ [], (fun b => decide (b < W.heap.size)) p'.block = true := fun p' hp => by simpa using hlt p' hp
  refine ⟨ds, [], p ++ [], [], p, [], hW0, ?_, ?_, ?_, ?_, fun h => by cases h⟩
  · rw [hs, hres]
    exact trodAll_mk1 (shut_bool htb true)
  · rw [hs]
    exact trodAll_below hl hb hr hA (fun x hx => hlt x (List.mem_append_left _ hx)) _ (fun x hx => hold x (List.mem_append_left _ hx))
  · rw [hs, hvars]
    rfl
  · exact World.keptBut_mono (fun x hx => ⟨hx, .inr (.inl (by simpa using hx))⟩) (hb.frame (· ∈ p ++ []))
end
end Go.Px
namespace Go.Px
set_option maxRecDepth 20000
theorem wf_u8 {v : Int} (h : (Lit.int .u8 v).wf = true) : ∃ n : Nat, v = n ∧ n < 256 := by
  have hz : 0 ≤ v ∧ v ≤ 255 := by simpa [Lit.wf, IntKind.min, IntKind.max, IntKind.signed, IntKind.bits] using h
  exact ⟨v.toNat, by omega, by omega⟩
end Go.Px
namespace Go.Px
set_option maxRecDepth 20000
open Go.RowKit Go.ChangeShapes
variable {H : Type} {enc : TypeId × Value → H} {P : Program}
theorem open_bytesF {w : World} {base : Nat} {spare : Nat → Bool} {held : Bool} {t e : TypeId} (ht : P.underlying t = some (.slice e)) (he : P.underlying e = some (.int .u8)) (hc : P.cellsOf e = 1)
    {v : Value} {fuel : Nat} {x : DataW H × List MemPlace} (hf : DataW.trod enc P w base spare held fuel t [v] = some x) :
    ∃ (A : Option Addr) (n c : Nat) (bs : List UInt8), v = .slice A n c ∧ bs.length = n ∧ n ≤ c ∧ c ≤ 9223372036854775807 ∧ Rd w A (bys bs) := by
  rcases Go.ChangeShapes.open_ints ht he hc hf with ⟨hcs, _⟩ | ⟨a, len, cap, zs, hcs, _, hlc, hcm, hlen, _, hcell, hwf⟩
  · obtain rfl : v = .slice none 0 0 := by simpa using hcs
    exact ⟨none, 0, 0, [], rfl, rfl, by omega, by omega, Rd.nil⟩
  · obtain rfl : v = .slice (some a) len cap := by simpa using hcs
    have hle : len ≤ zs.length := by rw [hlen]; split <;> omega
    refine ⟨some a, len, cap, (zs.take len).map fun z => UInt8.ofNat z.toNat, rfl, by simp [Nat.min_eq_left hle], hlc, by unfold maxLen at hcm; omega, Rd.of_some fun j u hu => ?_⟩
    have hj : j < len := by
      have := (List.getElem?_eq_some_iff.1 hu).1
      simp [bys] at this; omega
    have hjz : j < zs.length := by omega
    have hw := hwf zs[j] (List.getElem_mem hjz)
    have hz : 0 ≤ zs[j] ∧ zs[j] ≤ 255 := by simpa [Lit.wf, IntKind.min, IntKind.max, IntKind.signed, IntKind.bits] using hw
    rw [hcell j hjz]
    simp only [bys, List.map_map, List.getElem?_map, List.getElem?_take, if_pos hj, List.getElem?_eq_getElem hjz, Option.map_some, Function.comp] at hu
    rw [← hu]
    simp only [List.getD, List.getElem?_eq_getElem hjz, Option.getD_some]
    congr 2
    have : (UInt8.ofNat (zs[j]).toNat).toNat = (zs[j]).toNat := by
      simp; omega
    rw [this]; omega
end Go.Px
namespace Go.Px
open Go.RowKit Go.ChangeShapes Go.WideShapes Go.ChangeAt Go.Deep
section
variable {w w' : World} {Q Q' : Nat → Prop} {t : Ty} {x : t.Den} {cs : List Value}
variable {xs : List t.Den} {vs : List Value}
end
/-! ### those that came in -/
/-- Does a type have a shape? (A list of fields, each with the place of its first cell.) -/
def Ty.fits (P : Program) : Ty → List (TypeId × Nat) → Bool
  | .i64, [(T, _)] => match P.underlying T with | some (.int .i64) => P.cellsOf T == 1 | _ => false
  | .u8, [(T, _)] => match P.underlying T with | some (.int .u8) => P.cellsOf T == 1 | _ => false
  | .u32, [(T, _)] => match P.underlying T with | some (.int .u32) => P.cellsOf T == 1 | _ => false
  | .u64, [(T, _)] => match P.underlying T with | some (.int .u64) => P.cellsOf T == 1 | _ => false
  | .bool, [(T, _)] => match P.underlying T with | some .bool => P.cellsOf T == 1 | _ => false
  | .bytes, [(T, _)] => match P.underlying T with | some (.slice E) => (match P.underlying E with | some (.int .u8) => P.cellsOf E == 1 | _ => false) && P.cellsOf T == 1 | _ => false
  | .row t, [(T, _)] => match P.underlying T with | some (.slice E) => (P.cellsOf E == t.n && t.fits P [(E, 0)]) && P.cellsOf T == 1 | _ => false
  | .pr a b, (T, o) :: (T2, o2) :: L => (o2 == o + a.n && a.fits P [(T, o)]) && b.fits P ((T2, o2) :: L)
  | .st t, [(T, _)] => match P.underlying T with | some (.struct fs) => (P.cellsOf T == t.n && ((fs.toList.map fun f => (f.type, f.offset)).head?.map (·.2) == some 0)) && t.fits P (fs.toList.map fun f => (f.type, f.offset)) | _ => false
  | _, _ => false
variable {H : Type} {enc : TypeId × Value → H} {P : Program}
theorem wf_u32' {z : Int} (h : (Lit.int .u32 z).wf = true) : ∃ n : Nat, z = n ∧ n < 4294967296 := by
  have : 0 ≤ z ∧ z ≤ 4294967295 := by simpa [Lit.wf, IntKind.min, IntKind.max, IntKind.signed, IntKind.bits] using h
  exact ⟨z.toNat, by omega, by omega⟩
theorem fits_cells {P : Program} : ∀ {t : Ty} {T : TypeId} {o : Nat}, t.fits P [(T, o)] = true → P.cellsOf T = t.n := by
  intro t T o h
  cases t <;> simp only [Ty.fits] at h <;> (try split at h) <;> simp_all [Ty.n]
def TrodAt (enc : TypeId × Value → H) (P : Program) (w : World) (base : Nat) (spare : Nat → Bool) (held : Bool) (cs : List Value) (T : TypeId) (o : Nat) : Prop := ∃ fuel x, DataW.trod enc P w base spare held fuel T ((cs.drop o).take (P.cellsOf T)) = some x
theorem one1_of {p : Value → Prop} {cs : List Value} {c : Value} (h : cs = [c]) (hp : p c) : one1 p cs := by subst h; exact hp
def Ty.dft : (t : Ty) → t.Den
  | .i64 => (0 : Int)
  | .u8 | .u32 | .u64 => (0 : Nat)
  | .bool => false
  | .bytes => []
  | .row _ => []
  | .pr a b => (a.dft, b.dft)
  | .st t => t.dft
theorem rows_build {w : World} {Q : Nat → Prop} {t : Ty} (g : Nat → t.Den) (gs : Nat → List Value) : ∀ (n : Nat), (∀ i, i < n → t.Is w Q (g i) (gs i)) → t.Rows w Q ((List.range n).map g) ((List.range n).flatMap gs)
  | 0, _ => Ty.Rows.nil
  | n + 1, h => by
    rw [List.range_succ, List.map_append, List.flatMap_append]
    refine (rows_build g gs n (fun i hi => h i (by omega))).append ?_
    have := Ty.Rows.one (h n (by omega))
    simpa using this
theorem rd_build {w : World} {a : Addr} {m : Nat} {gs : Nat → List Value} : ∀ (n : Nat), (∀ i, i < n → (gs i).length = m) → (∀ i, i < n → ∀ r (u : Value), (gs i)[r]? = some u → w.cell? (a.add (m * i + r)) = some u) → Rd w (some a) ((List.range n).flatMap gs)
  | 0, _, _ => Rd.nil
  | n + 1, hl, h => by
    have ih := rd_build (w := w) (a := a) n (fun i hi => hl i (by omega)) (fun i hi => h i (by omega))
    have hlen : ((List.range n).flatMap gs).length = m * n := by
      clear ih
      induction n with
      | zero => simp
      | succ n ih =>
        rw [List.range_succ, List.flatMap_append, List.length_append, ih (fun i hi => hl i (by omega)) (fun i hi => h i (by omega))]
        simp [hl n (by omega), Nat.mul_succ]
    rw [List.range_succ, List.flatMap_append]
    refine Rd.of_some fun j u hu => ?_
    by_cases hj : j < ((List.range n).flatMap gs).length
    · rw [List.getElem?_append_left hj] at hu
      exact ih.at_ hu
    · rw [List.getElem?_append_right (by omega)] at hu
      simp only [List.flatMap_cons, List.flatMap_nil, List.append_nil] at hu
      have := h n (by omega) _ u hu
      rw [hlen] at this hj
      rwa [show m * n + (j - m * n) = j by omega] at this
theorem open_uni {w : World} {base : Nat} {spare : Nat → Bool} {held : Bool} : ∀ (t : Ty) (L : List (TypeId × Nat)) (cs : List Value), t.fits P L = true → (∀ T o, (T, o) ∈ L → TrodAt enc P w base spare held cs T o) →
    ∃ x : t.Den, t.Is w (fun _ => True) x ((cs.drop ((L.head?.map (·.2)).getD 0)).take t.n)
  | .i64, [(T, o)], cs, hf, h => by
    simp only [Ty.fits] at hf
    split at hf <;> simp_all
    rename_i hu
    obtain ⟨fuel, x, hx⟩ := h
    rw [hf] at hx
    obtain ⟨z, hz, _, hw⟩ := DataW.trod_int hu hx
    have := wf_i64 hw
    exact ⟨z, one1_of hz ⟨rfl, this.1, this.2⟩⟩
  | .u8, [(T, o)], cs, hf, h => by
    simp only [Ty.fits] at hf
    split at hf <;> simp_all
    rename_i hu
    obtain ⟨fuel, x, hx⟩ := h
    rw [hf] at hx
    obtain ⟨z, hz, _, hw⟩ := DataW.trod_int hu hx
    obtain ⟨n, rfl, hn⟩ := wf_u8 hw
    exact ⟨n, one1_of hz ⟨rfl, hn⟩⟩
  | .u32, [(T, o)], cs, hf, h => by
    simp only [Ty.fits] at hf
    split at hf <;> simp_all
    rename_i hu
    obtain ⟨fuel, x, hx⟩ := h
    rw [hf] at hx
    obtain ⟨z, hz, _, hw⟩ := DataW.trod_int hu hx
    obtain ⟨n, rfl, hn⟩ := wf_u32' hw
    exact ⟨n, one1_of hz ⟨rfl, hn⟩⟩
  | .u64, [(T, o)], cs, hf, h => by
    simp only [Ty.fits] at hf
    split at hf <;> simp_all
    rename_i hu
    obtain ⟨fuel, x, hx⟩ := h
    rw [hf] at hx
    obtain ⟨z, hz, _, hw⟩ := DataW.trod_int hu hx
    obtain ⟨n, rfl, hn⟩ := wf_u64 hw
    exact ⟨n, one1_of hz ⟨rfl, hn⟩⟩
  | .bool, [(T, o)], cs, hf, h => by
    simp only [Ty.fits] at hf
    split at hf <;> simp_all
    rename_i hu
    obtain ⟨fuel, x, hx⟩ := h
    rw [hf] at hx
    obtain ⟨z, hz, _⟩ := DataW.trod_bool hu hx
    have hzz : Ty.Is w (fun _ => True) .bool z (List.take (Ty.n .bool) (List.drop o cs)) := one1_of hz rfl
    cases z
    · exact .inl hzz
    · exact .inr hzz
  | .bytes, [(T, o)], cs, hf, h => by
    simp only [Ty.fits] at hf
    split at hf <;> simp_all
    rename_i E hu
    obtain ⟨h1, h2⟩ := hf
    split at h1 <;> simp_all
    rename_i he
    obtain ⟨fuel, x, hx⟩ := h
    rw [h2] at hx
    have hx' := hx
    rcases Go.ChangeShapes.open_ints hu he h1 hx with ⟨hcs, _⟩ | ⟨a, len, cap, zs, hcs, _⟩
    · rw [hcs] at hx'
      obtain ⟨A, n, c, bs, hv, q1, q2, q3, q4⟩ := open_bytesF hu he h1 hx'
      exact ⟨bs, one1_of hcs ⟨A, n, c, hv, q1, q2, q3, q4, fun _ _ _ => trivial⟩⟩
    · rw [hcs] at hx'
      obtain ⟨A, n, c, bs, hv, q1, q2, q3, q4⟩ := open_bytesF hu he h1 hx'
      exact ⟨bs, one1_of hcs ⟨A, n, c, hv, q1, q2, q3, q4, fun _ _ _ => trivial⟩⟩
  | .row t, [(T, o)], cs, hf, h => by
    simp only [Ty.fits] at hf
    split at hf <;> simp_all
    rename_i E hu
    obtain ⟨⟨h1, h3⟩, h2⟩ := hf
    obtain ⟨fuel, x, hx⟩ := h
    rw [h2] at hx
    rcases open_slice hu hx with ⟨hcs, _⟩ | ⟨a, n, c, m, n', D, Pl, hcs, _, hlc, hcm, hm, _, hel⟩
    · exact ⟨[], one1_of hcs ⟨none, 0, 0, [], rfl, rfl, by omega, by omega, Rd.nil, fun _ _ _ => trivial, by simp, fun j y hy => by simp at hy⟩⟩
    · have hall : ∀ i, ∃ (e : t.Den) (es : List Value), i < n → es.length = t.n ∧ t.Is w (fun _ => True) e es ∧ ∀ r (u : Value), es[r]? = some u → w.cell? (a.add (t.n * i + r)) = some u := by
        intro i
        by_cases hi : i < n
        · obtain ⟨cs', hc, ht⟩ := hel i (by rw [hm]; split <;> omega)
          rw [h1] at hc
          obtain ⟨_, hcl, hat⟩ := World.cells?_some hc
          obtain ⟨e, he⟩ := open_uni t [(E, 0)] cs' h3 (fun T o hTo => by
            simp at hTo
            obtain ⟨rfl, rfl⟩ := hTo
            exact ⟨n', _, by rw [List.drop_zero, h1, List.take_of_length_le (by omega)]; exact ht⟩)
          simp only [List.head?_cons, Option.map_some, Option.getD_some, List.drop_zero] at he
          rw [List.take_of_length_le (by omega)] at he
          refine ⟨e, cs', fun _ => ⟨hcl, he, fun r u hu => ?_⟩⟩
          obtain ⟨hr, rfl⟩ := List.getElem?_eq_some_iff.1 hu
          have := hat r (by omega)
          rw [Px.add_add, Nat.mul_comm] at this
          rw [this, List.getElem?_eq_getElem hr]
        · exact ⟨t.dft, [], fun h => absurd h hi⟩
      obtain ⟨g, hg⟩ := Classical.axiomOfChoice hall
      obtain ⟨gs, hg⟩ := Classical.axiomOfChoice hg
      have hR := rows_build (w := w) (Q := fun _ => True) g gs n (fun i hi => (hg i hi).2.1)
      refine ⟨(List.range n).map g, one1_of hcs ⟨some a, n, c, (List.range n).flatMap gs, rfl, by simp, hlc, by unfold maxLen at hcm; omega, ?_, fun _ _ _ => trivial, hR⟩⟩
      exact rd_build n (fun i hi => (hg i hi).1) (fun i hi => (hg i hi).2.2)
  | .pr a b, (T, o) :: (T2, o2) :: L, cs, hf, h => by
    simp only [Ty.fits, Bool.and_eq_true, beq_iff_eq] at hf
    obtain ⟨⟨ho, h1⟩, h2⟩ := hf
    obtain ⟨x, hx⟩ := open_uni a [(T, o)] cs h1 (fun T' o' hm => h T' o' (by simp at hm; simp [hm]))
    obtain ⟨y, hy⟩ := open_uni b ((T2, o2) :: L) cs h2 (fun T' o' hm => h T' o' (List.mem_cons_of_mem _ hm))
    refine ⟨(x, y), ?_, ?_⟩
    · show a.Is w _ x _
      simp only [List.head?_cons, Option.map_some, Option.getD_some] at hx ⊢
      rw [List.take_take, Nat.min_eq_left (by show a.n ≤ a.n + b.n; omega)]
      exact hx
    · show b.Is w _ y _
      simp only [List.head?_cons, Option.map_some, Option.getD_some] at hy ⊢
      rw [List.drop_take, List.drop_drop, show (Ty.pr a b).n - a.n = b.n from by show a.n + b.n - a.n = b.n; omega, ← ho]
      exact hy
  | .st t, [(T, o)], cs, hf, h => by
    simp only [Ty.fits] at hf
    split at hf <;> simp_all
    rename_i fs hu
    obtain ⟨⟨h1, h3⟩, h2⟩ := hf
    obtain ⟨fuel, x, hx⟩ := h
    obtain ⟨ys, n', _, _, hlen, hyl, hg⟩ := DataW.trod_struct hu hx
    obtain ⟨y, hy⟩ := open_uni t (fs.toList.map fun f => (f.type, f.offset)) ((cs.drop o).take (P.cellsOf T)) h2 (fun T' o' hm => by
      obtain ⟨f, hf, he⟩ := List.mem_map.1 hm
      injection he with he1 he2
      subst he1 he2
      obtain ⟨i, hi, hie⟩ := List.mem_iff_getElem.1 hf
      have hi' : i < fs.size := by simpa using hi
      have hgi := hg i f (by rw [Array.getElem?_eq_getElem hi']; simp at hie; rw [hie])
      rw [List.getElem?_eq_getElem (by rw [hyl]; exact hi')] at hgi
      exact ⟨n', _, hgi⟩)
    refine ⟨y, ?_⟩
    obtain ⟨hd, hh1, hh2⟩ := h3
    simp only [List.head?_map, hh1, Option.map_some, Option.getD_some, hh2, List.drop_zero, h1, List.take_take, Nat.min_self] at hy
    exact hy
theorem trod_len {w : World} {base : Nat} {spare : Nat → Bool} {held : Bool} {t : Ty} {T : TypeId} {o fuel : Nat} {cs : List Value} {x : DataW H × List MemPlace} (hf : t.fits P [(T, o)] = true) (h : DataW.trod enc P w base spare held fuel T cs = some x) : cs.length = P.cellsOf T := by
  rw [fits_cells hf]
  cases t <;> simp only [Ty.fits] at hf <;> (try split at hf) <;> simp_all
  all_goals first
    | (rename_i hu; obtain ⟨z, hz, _⟩ := DataW.trod_int hu h; rw [hz]; rfl)
    | (rename_i hu; obtain ⟨z, hz, _⟩ := DataW.trod_bool hu h; rw [hz]; rfl)
    | (rename_i hu; rcases open_slice hu h with ⟨hcs, _⟩ | ⟨a, n, c, m, n', D, Pl, hcs, _⟩ <;> (rw [hcs]; rfl))
    | (rename_i hu; obtain ⟨_, _, _, _, hl, _⟩ := DataW.trod_struct hu h; rw [hl]; exact hf.1.1)
/-- An argument that came in, of any shape. -/
theorem open_any {w : World} {base : Nat} {spare : Nat → Bool} {held : Bool} {t : Ty} {T : TypeId} (hf : t.fits P [(T, 0)] = true) {v : Value} {d : DataW H} {ps : List MemPlace} (h : DataW.Trod enc P w base spare held T v d ps) :
    ∃ x : t.Den, t.Is w (fun b => b < w.heap.size) x v.cells.toList := by
  obtain ⟨fuel, h⟩ := h
  have hl := trod_len hf h
  obtain ⟨x, hx⟩ := open_uni (enc := enc) (w := w) (base := base) (spare := spare) (held := held) t [(T, 0)] v.cells.toList hf (fun T' o' hm => by
    simp at hm
    obtain ⟨rfl, rfl⟩ := hm
    exact ⟨fuel, _, by rw [List.drop_zero, List.take_of_length_le (by omega)]; exact h⟩)
  refine ⟨x, ?_⟩
  simp only [List.head?_cons, Option.map_some, Option.getD_some, List.drop_zero] at hx
  rw [List.take_of_length_le (by rw [hl, fits_cells hf]; exact Nat.le_refl _)] at hx
  exact hx.low
end Go.Px
namespace Go.Proofs.Ytkknkdjdneldlaa
set_option maxRecDepth 20000
open Go.RowKit Go.Px
theorem laidOut : laidOutB Try.prog = true := by kernel_rfl
end Go.Proofs.Ytkknkdjdneldlaa
namespace Go.Proofs.Ytkknkdjdneldlaa
set_option maxRecDepth 20000
open Go.RowKit Go.Px Go.Maps
set_option linter.unusedVariables false
@[go_sem] theorem field_grp (w : World) (e : Int) (A : Option Addr) (n c : Nat) : (Instr.field 26 (.agg #[.int .i64 e, .slice A n c]) 1).run Try.prog w = .ok (.slice A n c) w := by kernel_rfl
theorem zero7 {w : World} : tyState.Is w (fun _ => True) (0, (0, 0), [], [], 0, []) [.int .i64 0, .int .i64 0, .int .i64 0, .slice none 0 0, .slice none 0 0, .int .i64 0, .slice none 0 0] := State_mk (by decide) (by decide) (by decide) (by decide) (by decide) (by decide) rfl (by decide) (by decide) Rd.nil (fun h => absurd rfl h) Ty.Rows.nil rfl (by decide) (by decide) Rd.nil (fun h => absurd rfl h) Ty.Rows.nil (by decide) (by decide) rfl (by decide) (by decide) Rd.nil (fun h => absurd rfl h) Ty.Rows.nil
set_option maxRecDepth 20000 in
set_option maxHeartbeats 6400000 in
theorem machineNobody_walk (cs ds : List Value) (w : World) (hcs : cs.length = 12) (hds : ds.length = 7) :
    Calls Try.prog 7 #[.agg cs.toArray, .agg ds.toArray] w fun x w' => x = .returned (.bool true) ∧ Below w.heap.size w w' := by
  obtain ⟨c0, c1, c2, c3, c4, c5, c6, c7, c8, c9, c10, c11, rfl⟩ := list_12 hcs
  obtain ⟨d0, d1, d2, d3, d4, d5, d6, rfl⟩ := list_7 hds
  obtain ⟨g, hg⟩ : ∃ g, w.heap.size = g := ⟨_, rfl⟩
  obtain ⟨w0, hw0⟩ : ∃ w0, ((((w.alloc (.cells #[c0, c1, c2, c3, c4, c5, c6, c7, c8, c9, c10, c11] 50)).alloc (.cells #[d0, d1, d2, d3, d4, d5, d6] 39)).alloc (.cells #[.pointer none, .pointer none, .int .i64 0, .slice none 0 0, .int .i64 0] 70)).alloc (.cells #[.pointer none, .pointer (some ⟨g + 2, 0, none⟩)] 27)) = w0 := ⟨_, rfl⟩
  have hE0 : Blk w0 g [c0, c1, c2, c3, c4, c5, c6, c7, c8, c9, c10, c11] 50 := by
    rw [← hw0, ← hg]; exact (((Blk.new w [c0, c1, c2, c3, c4, c5, c6, c7, c8, c9, c10, c11] _).alloc _).alloc _).alloc _
  have hS0 : Blk w0 (g + 1) [d0, d1, d2, d3, d4, d5, d6] 39 := by
    rw [← hw0, ← hg]
    have := ((Blk.new (w.alloc (.cells #[c0, c1, c2, c3, c4, c5, c6, c7, c8, c9, c10, c11] 50)) [d0, d1, d2, d3, d4, d5, d6] 39).alloc (.cells #[.pointer none, .pointer none, .int .i64 0, .slice none 0 0, .int .i64 0] 70)).alloc (.cells #[.pointer none, .pointer (some ⟨w.heap.size + 2, 0, none⟩)] 27)
    rwa [World.size_alloc] at this
  have hM0 : Blk w0 (g + 2) [.pointer none, .pointer none, .int .i64 0, .slice none 0 0, .int .i64 0] 70 := by
    rw [← hw0, ← hg]
    have := (Blk.new ((w.alloc (.cells #[c0, c1, c2, c3, c4, c5, c6, c7, c8, c9, c10, c11] 50)).alloc (.cells #[d0, d1, d2, d3, d4, d5, d6] 39)) [.pointer none, .pointer none, .int .i64 0, .slice none 0 0, .int .i64 0] 70).alloc (.cells #[.pointer none, .pointer (some ⟨w.heap.size + 2, 0, none⟩)] 27)
    rwa [World.size_alloc, World.size_alloc] at this
  have hP0 : Blk w0 (g + 3) [.pointer none, .pointer (some ⟨g + 2, 0, none⟩)] 27 := by
    rw [← hw0, ← hg]
    have := Blk.new (((w.alloc (.cells #[c0, c1, c2, c3, c4, c5, c6, c7, c8, c9, c10, c11] 50)).alloc (.cells #[d0, d1, d2, d3, d4, d5, d6] 39)).alloc (.cells #[.pointer none, .pointer none, .int .i64 0, .slice none 0 0, .int .i64 0] 70)) [.pointer none, .pointer (some ⟨w.heap.size + 2, 0, none⟩)] 27
    rwa [World.size_alloc, World.size_alloc, World.size_alloc] at this
  have hb0 : Below w.heap.size w w0 := by rw [← hw0]; exact ((((Below.refl _ _).alloc (Nat.le_refl _) _).alloc (by simp) _).alloc (by simp; omega) _).alloc (by simp; omega) _
  have Hw0 := hide hw0
  clear hw0
  go_enter Try.func7, Try.ntmps7
  go_wp2_with fail
  rw [Hw0.out]
  go_loopw [18] (fun i wr => ∃ (k : Nat), k ≤ 2 ∧ i = .int .i64 k ∧ Below w0.heap.size w0 wr) (fun i _ => 2 - (intOf i).toNat)
  case atStart => exact ⟨0, by omega, rfl, Below.refl _ _⟩
  case round =>
    obtain ⟨j, hj, rfl, hB⟩ := hrel
    by_cases hlt : j < 2
    · obtain ⟨p, hpc, hnob⟩ : ∃ p, wr.cell? ⟨g + 3, j, none⟩ = some (.pointer p) ∧ Nob7 wr p := by
        have hPr := hP0.below hB
        obtain rfl | rfl : j = 0 ∨ j = 1 := by omega
        · exact ⟨none, hPr.cell (j := 0) rfl, .inl rfl⟩
        · exact ⟨some ⟨g + 2, 0, none⟩, hPr.cell (j := 1) rfl, .inr ⟨g + 2, rfl, hM0.below hB⟩⟩
      have hEr := hE0.below hB
      have k0 := Blk.cell hEr (j := 0) rfl; have k1 := Blk.cell hEr (j := 1) rfl; have k2 := Blk.cell hEr (j := 2) rfl; have k3 := Blk.cell hEr (j := 3) rfl; have k4 := Blk.cell hEr (j := 4) rfl; have k5 := Blk.cell hEr (j := 5) rfl; have k6 := Blk.cell hEr (j := 6) rfl; have k7 := Blk.cell hEr (j := 7) rfl; have k8 := Blk.cell hEr (j := 8) rfl; have k9 := Blk.cell hEr (j := 9) rfl; have k10 := Blk.cell hEr (j := 10) rfl; have k11 := Blk.cell hEr (j := 11) rfl
      go_wp2_with fail
      go_fit (apply_nob7 wr p [c0, c1, c2, c3, c4, c5, c6, c7, c8, c9, c10, c11] rfl hnob)
      rintro x w1 ⟨rfl, hb1⟩
      have hn1 := hnob.below hb1
      have hB1 := hB.trans (hb1.mono hB.size)
      obtain ⟨w2, hw2⟩ : ∃ w2, w1.alloc (.cells #[.int .u8 0, .slice none 0 0] 57) = w2 := ⟨_, rfl⟩
      have hR2 : Blk w2 w1.heap.size [.int .u8 0, .slice none 0 0] 57 := by rw [← hw2]; exact Blk.new w1 [.int .u8 0, .slice none 0 0] _
      have hb12 : Below w1.heap.size w1 w2 := by rw [← hw2]; exact (Below.refl _ _).alloc (Nat.le_refl _) _
      have hn2 := hn1.below hb12
      have hB2 := hB1.trans (hb12.mono hB1.size)
      have Hw2 := hide hw2
      clear hw2 k0 k1 k2 k3 k4 k5 k6 k7 k8 k9 k10 k11
      go_wp2_with fail
      rw [Hw2.out]
      go_fit (ask_nob7 w2 p 1 1 hn2)
      rintro x w3 ⟨rfl, hb3⟩
      have hn3 := hn2.below hb3
      have hB3 := hB2.trans (hb3.mono hB2.size)
      obtain ⟨w4, hw4⟩ : ∃ w4, w3.alloc (.cells #[.int .u8 0, .slice none 0 0] 57) = w4 := ⟨_, rfl⟩
      have hb34 : Below w3.heap.size w3 w4 := by rw [← hw4]; exact (Below.refl _ _).alloc (Nat.le_refl _) _
      have hn4 := hn3.below hb34
      have hB4 := hB3.trans (hb34.mono hB3.size)
      have hR4 := (hR2.below hb3).below hb34
      have hS4 := hS0.below hB4
      have Hw4 := hide hw4
      have zz := (hS0.below hB3).alloc (.cells #[.int .u8 0, .slice none 0 0] 57)
      have k0 := Blk.cell zz (j := 0) rfl; have k1 := Blk.cell zz (j := 1) rfl; have k2 := Blk.cell zz (j := 2) rfl; have k3 := Blk.cell zz (j := 3) rfl; have k4 := Blk.cell zz (j := 4) rfl; have k5 := Blk.cell zz (j := 5) rfl; have k6 := Blk.cell zz (j := 6) rfl
      clear hw4 zz
      go_wp2_with fail
      rw [Hw4.out]
      go_fit (patch_nob7 w4 p [d0, d1, d2, d3, d4, d5, d6] rfl hn4)
      rintro x w5 ⟨rfl, hb5⟩
      have hn5 := hn4.below hb5
      have hB5 := hB4.trans (hb5.mono hB4.size)
      have hR5 := hR4.below hb5
      have r0 := hR5.cell (j := 0) rfl
      clear k0 k1 k2 k3 k4 k5 k6
      go_wp2_with fail
      go_fit (num_nob7 w5 p hn5)
      rintro x w6 ⟨rfl, rfl⟩
      go_wp2_with fail
      go_fit (group_nob7 w5 p hn5)
      rintro x w7 ⟨rfl, hb7⟩
      have hn7 := hn5.below hb7
      have hB7 := hB5.trans (hb7.mono hB5.size)
      clear r0
      go_wp2_with fail
      go_fit (state_nob7 w7 p 0 hn7)
      rintro x w8 ⟨rfl, hb8⟩
      have hB8 := hB7.trans (hb8.mono hB7.size)
      go_wp2_with fail
      go_fit (sameSt_any (zero7 (w := w8)) (zero7 (w := w8)) rfl)
      rintro x w9 ⟨rfl, hb9⟩
      have hB9 := hB8.trans (hb9.mono hB8.size)
      go_wp2
      go_roundw
      case rel => exact ⟨j + 1, by omega, by go_num, hB9⟩
      case measure => simp [intOf]; omega
    · obtain rfl : j = 2 := by omega
      go_wp2_with fail
      go_fit (awake07_any wr)
      rintro x w5 ⟨rfl, hb5⟩
      go_wp2
      go_ret
      have := hB.trans (hb5.mono hB.size)
      exact ⟨rfl, hb0.trans (this.mono hb0.size)⟩
end Go.Proofs.Ytkknkdjdneldlaa
namespace Go.Proofs.Ytkknkdjdneldlaa
set_option maxRecDepth 20000
open Go.ChangeShapes Go.WideShapes Go.ChangeAt Go.RowKit Go.Px Go.Joins Go.Deep
set_option linter.unusedVariables false

set_option maxRecDepth 100000 in
theorem machineNobody_lifted (os : Os) (started : os.Started) (H : Type) (enc : TypeId × Value → H) :
    ReturnsInHanded {} Try.checked os 7 .any (Rows.machineNobodySpec.pre6 enc Try.prog Try.f7 Rows.machineNobodyRow.domain false) (Rows.machineNobodySpec.post enc Try.prog Try.f7 false true false false) := by
  refine returnsInHanded_of_change (C := Try.checked) own started (by kernel_rfl) Try.func7
    (ChangeSpec.witness6 (enc := enc) (C := Try.checked) false ⟨#[], #[.agg #[.int .u8 0, .int .i64 0, .int .i64 0, .int .i64 0, .int .i64 0, .int .u8 0, .int .i64 0, .int .i64 0, .slice none 0 0, .slice none 0 0, .int .i64 0, .slice none 0 0], .agg #[.int .i64 0, .int .i64 0, .int .i64 0, .slice none 0 0, .slice none 0 0, .int .i64 0, .slice none 0 0]], []⟩ 8 (by kernel_rfl) (by kernel_rfl) (by kernel_rfl) (by kernel_rfl)) ?_
  intro W base args ds gs before hval0 hW _ hweigh
  have hval : ∀ (j : Nat) t v, Try.f7.params[j]? = some t → args[j]? = some v → Value.okWide Try.prog W .any base t v := hval0
  have hW' := hW
  obtain ⟨p, q, hA0, hV, rfl, hfz, hnd⟩ := hW
  have hA : DataW.TrodAll enc Try.prog W 0 (fun _ => true) true Try.f7.params.toList args.toList ds p := hA0
  rw [Try.params7] at hA hval
  obtain ⟨v0, l0, d0, e0, p0, q0, ha0, rfl, rfl, h0, r0⟩ := trodAll_cons hA
  obtain ⟨v1, l1, d1, e1, p1, q1, rfl, rfl, rfl, h1, r1⟩ := trodAll_cons r0
  obtain ⟨rfl, rfl, rfl⟩ := trodAll_nil r1
  obtain rfl : args = #[v0, v1] := by cases args; simp_all
  obtain ⟨rfl, rfl⟩ := trodVars_none hV
  obtain ⟨⟨le⟩, rfl, _⟩ := okWide_struct Try.underlying50 (hval 0 50 v0 rfl rfl); obtain ⟨e, hx0⟩ := open_any (t := tyEntry) (T := 50) (by kernel_rfl) h0; have hy0 : tyEntry.Is _ _ e le := hx0
  obtain ⟨⟨ls⟩, rfl, _⟩ := okWide_struct Try.underlying39 (hval 1 39 v1 rfl rfl); obtain ⟨s, hx1⟩ := open_any (t := tyState) (T := 39) (by kernel_rfl) h1; have hy1 : tyState.Is _ _ s ls := hx1
  refine (machineNobody_walk le ls W hy0.len hy1.len).mono fun e W' ⟨he, hb⟩ => ?_
  subst he
  exact ⟨_, rfl, law_post laidOut rfl rfl Try.underlying4 (fun t ht => (show ∀ t ∈ Try.f7.params.toList, Try.prog.readableRec t = true ∧ t < Try.prog.types.size from by decide +kernel) t ht) hW' rfl hb⟩

theorem machineNobody_holds : Rows.MachineNobodySaid :=
  OpenClaim.holds_of_wide 7 Try.f7 rfl rfl rfl rfl rfl rfl rfl ⟨rfl, rfl, rfl, rfl, rfl⟩ rfl rfl rfl rfl rfl (by kernel_rfl) Try.func7 (by kernel_rfl)
    (of_decide_eq_true (by kernel_rfl)) (by unfold Func.isWrapper; first | (rw [if_pos (by decide +kernel)]; kernel_rfl) | (rw [if_neg (by decide +kernel)]; exact ⟨rfl, rfl⟩))
    (fun os started H enc _ => machineNobody_lifted os started H enc)
end Go.Proofs.Ytkknkdjdneldlaa
