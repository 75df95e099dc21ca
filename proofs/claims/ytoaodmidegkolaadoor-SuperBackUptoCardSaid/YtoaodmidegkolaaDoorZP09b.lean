/- For every input of bulk at most 1048576 the law SuperBack returns true, and each argument reads afterwards as it read before. The bound is the second form's own; the package's table is as its text lays it. -/
import Derived.Test.YtoaodmidegkolaaDoorK91
import Derived.Test.YtoaodmidegkolaaDoorK92
import Derived.Test.YtoaodmidegkolaaDoorK93
import Derived.Test.YtoaodmidegkolaaDoorK94
import Derived.Test.YtoaodmidegkolaaDoorK95
import Derived.Test.YtoaodmidegkolaaDoorK96
import Derived.Test.YtoaodmidegkolaaDoorK97
import Derived.Test.YtoaodmidegkolaaDoorK98
import Derived.Test.YtoaodmidegkolaaDoorK99
namespace Go.Px
open Go.RowKit

/-! ### hide -/
/-! ### addresses -/
/-! ### what a slice reads as: nil let in -/
section
variable {w w' : World} {A : Option Addr} {xs : List Value}
end

/-! ### rows that a call owns -/
section
variable {w w' : World} {base : Nat} {e : TypeId} {size n : Nat} {v : Value} {xs : List Value}
end

/-! ### bytes and integers -/
/-! ### facts of a slice's type -/
/-! ### append onto a row of the call's own -/
section
variable {P : Program} {w : World}
end

/-! ### places at which a walk stands still, to be led on by hand -/
section
variable {P : Program} {w : World} {ops : Array Oper} {rest : List Oper} {o : Oper} {a : Act} {Q : Exit → Act → World → Prop}
end

/-! ### a row that grows, round by round -/
section
variable {P : Program} {w wr : World} {v0 v : Value} {base e size n : Nat} {xs : List Value}
variable {ops : Array Oper} {rest : List Oper} {o : Oper} {a : Act} {Q : Exit → Act → World → Prop}
end

/-! ### a law's row from its walk -/
section
open Go.ChangeShapes Go.WideShapes Go.ChangeAt
variable {H : Type} {enc : TypeId × Value → H} {P : Program}
theorem trodAll_below (hl : laidOutB P = true) {W W' : World} (hb : Below W.heap.size W W') : ∀ {ts : List TypeId} {vs : List Value} {ds : List (DataW H)} {ps : List MemPlace},
    (∀ t ∈ ts, P.readableRec t = true ∧ t < P.types.size) → DataW.TrodAll enc P W 0 (fun _ => true) true ts vs ds ps → (∀ x ∈ ps, x.block < W.heap.size) →
    ∀ sp : Nat → Bool, (∀ p ∈ ps, sp p.block = true) → DataW.TrodAll enc P W' 0 sp true ts vs ds ps
  | [], vs, ds, ps, _, h, _, _, _ => by
    obtain ⟨rfl, rfl, rfl⟩ := trodAll_nil h
    exact trodAll_mk0
  | t :: ts, vs, ds, ps, hr, h, hlt, sp, hsp => by
    obtain ⟨v, vs', d, ds', p, q, rfl, rfl, rfl, h1, h2⟩ := trodAll_cons h
    have ht := hr t List.mem_cons_self
    refine trodAll_cons_mk ?_ (trodAll_below hl hb (fun t' ht' => hr t' (List.mem_cons_of_mem _ ht')) h2 (fun x hx => hlt x (List.mem_append_right _ hx)) sp (fun x hx => hsp x (List.mem_append_right _ hx)))
    exact WideElems.Trod_stays hl ht.1 ht.2 h1 (fun x hx => hb.same (hlt x (List.mem_append_left _ hx))) (fun x hx => hsp x (List.mem_append_left _ hx))
/-- A slice of bytes that came in. -/
theorem open_bytes {r : Reach} {b0 : Nat} {w : World} {base : Nat} {spare : Nat → Bool} {held : Bool} {t e : TypeId} (ht : P.underlying t = some (.slice e)) (he : P.underlying e = some (.int .u8)) (hc : P.cellsOf e = 1)
    {v : Value} {d : DataW H} {ps : List MemPlace} (hval : Value.okWide P w r b0 t v) (h : DataW.Trod enc P w base spare held t v d ps) :
    ∃ (A : Option Addr) (n c : Nat) (bs : List UInt8), v = .slice A n c ∧ bs.length = n ∧ n ≤ c ∧ c ≤ 9223372036854775807 ∧ Rd w A (bys bs) := by
  obtain ⟨A, n, c, rfl⟩ := okWide_slice ht hval
  obtain ⟨fuel, hf⟩ := h
  rcases Go.ChangeShapes.open_ints ht he hc hf with ⟨hcs, _⟩ | ⟨a, len, cap, zs, hcs, _, hlc, hcm, hlen, _, hcell, hwf⟩
  · simp [Value.cells] at hcs
    obtain ⟨rfl, rfl, rfl⟩ := hcs
    exact ⟨none, 0, 0, [], rfl, rfl, by omega, by omega, Rd.nil⟩
  · simp [Value.cells] at hcs
    obtain ⟨rfl, rfl, rfl⟩ := hcs
    have hle : n ≤ zs.length := by rw [hlen]; split <;> omega
    refine ⟨some a, n, c, (zs.take n).map fun z => UInt8.ofNat z.toNat, rfl, by simp [Nat.min_eq_left hle], hlc, by unfold maxLen at hcm; omega, Rd.of_some fun j u hu => ?_⟩
    have hj : j < n := by
      have := (List.getElem?_eq_some_iff.1 hu).1
      simp [bys] at this; omega
    have hjz : j < zs.length := by omega
    have hw := hwf zs[j] (List.getElem_mem hjz)
    have hz : 0 ≤ zs[j] ∧ zs[j] ≤ 255 := by simpa [Lit.wf, IntKind.min, IntKind.max, IntKind.signed, IntKind.bits] using hw
    rw [hcell j hjz]
    simp only [bys, List.map_map, List.getElem?_map, List.getElem?_take, if_pos hj, List.getElem?_eq_getElem hjz, Option.map_some, Function.comp] at hu
    rw [← hu]
    simp only [List.getD, List.getElem?_eq_getElem hjz, Option.getD_some]
    congr 2
    have : (UInt8.ofNat (zs[j]).toNat).toNat = (zs[j]).toNat := by
      simp; omega
    rw [this]; omega
theorem wf_u64 {v : Int} (h : (Lit.int .u64 v).wf = true) : ∃ n : Nat, v = n ∧ n < 18446744073709551616 := by
  have hz : 0 ≤ v ∧ v ≤ 18446744073709551615 := by simpa [Lit.wf, IntKind.min, IntKind.max, IntKind.signed, IntKind.bits] using h
  exact ⟨v.toNat, by omega, by omega⟩
theorem wf_i64 {v : Int} (h : (Lit.int .i64 v).wf = true) : -9223372036854775808 ≤ v ∧ v ≤ 9223372036854775807 := by
  simpa [Lit.wf, IntKind.min, IntKind.max, IntKind.signed, IntKind.bits] using h
/-- WHAT A LAW OWES: 'it returns true, and nothing that was there has turned'. The rest of its row is the same for all laws that name no variable. -/
theorem law_post {f : Func} {s : ChangeSpec} {W W' : World} {args : Array Value} {ds gs : List (DataW H)} {before : List MemPlace} {tb : TypeId}
    (hl : laidOutB P = true) (hvars : s.vars = []) (hres : f.resultTypes = #[tb]) (htb : P.underlying tb = some .bool)
    (hr : ∀ t ∈ f.params.toList, P.readableRec t = true ∧ t < P.types.size)
    (hW : DataW.Whole enc P f.params.toList s.vars false W args.toList ds gs before)
    (hs : s.fn H (ds ++ gs) = { results := [.lit (.bool true)], args := ds, vars := [] })
    (hb : Below W.heap.size W W') : s.post enc P f false true false false W args (.bool true) W' := by
  have hW0 := hW
  obtain ⟨p, q, hA, hV, rfl, hfz, hnd⟩ := hW
  rw [hvars] at hV
  obtain ⟨rfl, rfl⟩ := trodVars_none hV
  have hlt : ∀ x ∈ p ++ [], x.block < W.heap.size := fun x hx => hW0.lt x hx
  have hold : ∀ p' ∈ p ++ [], (fun b => decide (b < W.heap.size)) p'.block = true := fun p' hp => by simpa using hlt p' hp
  refine ⟨ds, [], p ++ [], [], p, [], hW0, ?_, ?_, ?_, ?_, fun h => by cases h⟩
  · rw [hs, hres]
    exact trodAll_mk1 (shut_bool htb true)
  · rw [hs]
    exact trodAll_below hl hb hr hA (fun x hx => hlt x (List.mem_append_left _ hx)) _ (fun x hx => hold x (List.mem_append_left _ hx))
  · rw [hs, hvars]
    rfl
  · exact World.keptBut_mono (fun x hx => ⟨hx, .inr (.inl (by simpa using hx))⟩) (hb.frame (· ∈ p ++ []))
end
end Go.Px
namespace Go.Proofs.YtoaodmidegkolaaDoor
set_option maxRecDepth 20000
open Go.RowKit Go.Px
theorem laidOut : laidOutB Tryd.prog = true := by kernel_rfl
end Go.Proofs.YtoaodmidegkolaaDoor
namespace Go.Px
set_option maxRecDepth 20000
theorem wf_u8 {v : Int} (h : (Lit.int .u8 v).wf = true) : ∃ n : Nat, v = n ∧ n < 256 := by
  have hz : 0 ≤ v ∧ v ≤ 255 := by simpa [Lit.wf, IntKind.min, IntKind.max, IntKind.signed, IntKind.bits] using h
  exact ⟨v.toNat, by omega, by omega⟩
end Go.Px
namespace Go.Px
set_option maxRecDepth 20000
open Go.RowKit Go.ChangeShapes
variable {H : Type} {enc : TypeId × Value → H} {P : Program}
theorem open_bytesF {w : World} {base : Nat} {spare : Nat → Bool} {held : Bool} {t e : TypeId} (ht : P.underlying t = some (.slice e)) (he : P.underlying e = some (.int .u8)) (hc : P.cellsOf e = 1)
    {v : Value} {fuel : Nat} {x : DataW H × List MemPlace} (hf : DataW.trod enc P w base spare held fuel t [v] = some x) :
    ∃ (A : Option Addr) (n c : Nat) (bs : List UInt8), v = .slice A n c ∧ bs.length = n ∧ n ≤ c ∧ c ≤ 9223372036854775807 ∧ Rd w A (bys bs) := by
  rcases Go.ChangeShapes.open_ints ht he hc hf with ⟨hcs, _⟩ | ⟨a, len, cap, zs, hcs, _, hlc, hcm, hlen, _, hcell, hwf⟩
  · obtain rfl : v = .slice none 0 0 := by simpa using hcs
    exact ⟨none, 0, 0, [], rfl, rfl, by omega, by omega, Rd.nil⟩
  · obtain rfl : v = .slice (some a) len cap := by simpa using hcs
    have hle : len ≤ zs.length := by rw [hlen]; split <;> omega
    refine ⟨some a, len, cap, (zs.take len).map fun z => UInt8.ofNat z.toNat, rfl, by simp [Nat.min_eq_left hle], hlc, by unfold maxLen at hcm; omega, Rd.of_some fun j u hu => ?_⟩
    have hj : j < len := by
      have := (List.getElem?_eq_some_iff.1 hu).1
      simp [bys] at this; omega
    have hjz : j < zs.length := by omega
    have hw := hwf zs[j] (List.getElem_mem hjz)
    have hz : 0 ≤ zs[j] ∧ zs[j] ≤ 255 := by simpa [Lit.wf, IntKind.min, IntKind.max, IntKind.signed, IntKind.bits] using hw
    rw [hcell j hjz]
    simp only [bys, List.map_map, List.getElem?_map, List.getElem?_take, if_pos hj, List.getElem?_eq_getElem hjz, Option.map_some, Function.comp] at hu
    rw [← hu]
    simp only [List.getD, List.getElem?_eq_getElem hjz, Option.getD_some]
    congr 2
    have : (UInt8.ofNat (zs[j]).toNat).toNat = (zs[j]).toNat := by
      simp; omega
    rw [this]; omega
end Go.Px
namespace Go.Px
open Go.RowKit Go.ChangeShapes Go.WideShapes Go.ChangeAt Go.Deep
section
variable {w w' : World} {Q Q' : Nat → Prop} {t : Ty} {x : t.Den} {cs : List Value}
variable {xs : List t.Den} {vs : List Value}
end
theorem list_9 {cs : List Value} (h : cs.length = 9) : ∃ c0 c1 c2 c3 c4 c5 c6 c7 c8, cs = [c0, c1, c2, c3, c4, c5, c6, c7, c8] := by
  match cs, h with
  | [c0, c1, c2, c3, c4, c5, c6, c7, c8], _ => exact ⟨c0, c1, c2, c3, c4, c5, c6, c7, c8, rfl⟩
/-! ### those that came in -/
/-- Does a type have a shape? (A list of fields, each with the place of its first cell.) -/
def Ty.fits (P : Program) : Ty → List (TypeId × Nat) → Bool
  | .i64, [(T, _)] => match P.underlying T with | some (.int .i64) => P.cellsOf T == 1 | _ => false
  | .u8, [(T, _)] => match P.underlying T with | some (.int .u8) => P.cellsOf T == 1 | _ => false
  | .u32, [(T, _)] => match P.underlying T with | some (.int .u32) => P.cellsOf T == 1 | _ => false
  | .u64, [(T, _)] => match P.underlying T with | some (.int .u64) => P.cellsOf T == 1 | _ => false
  | .bool, [(T, _)] => match P.underlying T with | some .bool => P.cellsOf T == 1 | _ => false
  | .bytes, [(T, _)] => match P.underlying T with | some (.slice E) => (match P.underlying E with | some (.int .u8) => P.cellsOf E == 1 | _ => false) && P.cellsOf T == 1 | _ => false
  | .row t, [(T, _)] => match P.underlying T with | some (.slice E) => (P.cellsOf E == t.n && t.fits P [(E, 0)]) && P.cellsOf T == 1 | _ => false
  | .pr a b, (T, o) :: (T2, o2) :: L => (o2 == o + a.n && a.fits P [(T, o)]) && b.fits P ((T2, o2) :: L)
  | .st t, [(T, _)] => match P.underlying T with | some (.struct fs) => (P.cellsOf T == t.n && ((fs.toList.map fun f => (f.type, f.offset)).head?.map (·.2) == some 0)) && t.fits P (fs.toList.map fun f => (f.type, f.offset)) | _ => false
  | _, _ => false
variable {H : Type} {enc : TypeId × Value → H} {P : Program}
theorem wf_u32' {z : Int} (h : (Lit.int .u32 z).wf = true) : ∃ n : Nat, z = n ∧ n < 4294967296 := by
  have : 0 ≤ z ∧ z ≤ 4294967295 := by simpa [Lit.wf, IntKind.min, IntKind.max, IntKind.signed, IntKind.bits] using h
  exact ⟨z.toNat, by omega, by omega⟩
theorem fits_cells {P : Program} : ∀ {t : Ty} {T : TypeId} {o : Nat}, t.fits P [(T, o)] = true → P.cellsOf T = t.n := by
  intro t T o h
  cases t <;> simp only [Ty.fits] at h <;> (try split at h) <;> simp_all [Ty.n]
def TrodAt (enc : TypeId × Value → H) (P : Program) (w : World) (base : Nat) (spare : Nat → Bool) (held : Bool) (cs : List Value) (T : TypeId) (o : Nat) : Prop := ∃ fuel x, DataW.trod enc P w base spare held fuel T ((cs.drop o).take (P.cellsOf T)) = some x
theorem one1_of {p : Value → Prop} {cs : List Value} {c : Value} (h : cs = [c]) (hp : p c) : one1 p cs := by subst h; exact hp
def Ty.dft : (t : Ty) → t.Den
  | .i64 => (0 : Int)
  | .u8 | .u32 | .u64 => (0 : Nat)
  | .bool => false
  | .bytes => []
  | .row _ => []
  | .pr a b => (a.dft, b.dft)
  | .st t => t.dft
theorem rows_build {w : World} {Q : Nat → Prop} {t : Ty} (g : Nat → t.Den) (gs : Nat → List Value) : ∀ (n : Nat), (∀ i, i < n → t.Is w Q (g i) (gs i)) → t.Rows w Q ((List.range n).map g) ((List.range n).flatMap gs)
  | 0, _ => Ty.Rows.nil
  | n + 1, h => by
    rw [List.range_succ, List.map_append, List.flatMap_append]
    refine (rows_build g gs n (fun i hi => h i (by omega))).append ?_
    have := Ty.Rows.one (h n (by omega))
    simpa using this
theorem rd_build {w : World} {a : Addr} {m : Nat} {gs : Nat → List Value} : ∀ (n : Nat), (∀ i, i < n → (gs i).length = m) → (∀ i, i < n → ∀ r (u : Value), (gs i)[r]? = some u → w.cell? (a.add (m * i + r)) = some u) → Rd w (some a) ((List.range n).flatMap gs)
  | 0, _, _ => Rd.nil
  | n + 1, hl, h => by
    have ih := rd_build (w := w) (a := a) n (fun i hi => hl i (by omega)) (fun i hi => h i (by omega))
    have hlen : ((List.range n).flatMap gs).length = m * n := by
      clear ih
      induction n with
      | zero => simp
      | succ n ih =>
        rw [List.range_succ, List.flatMap_append, List.length_append, ih (fun i hi => hl i (by omega)) (fun i hi => h i (by omega))]
        simp [hl n (by omega), Nat.mul_succ]
    rw [List.range_succ, List.flatMap_append]
    refine Rd.of_some fun j u hu => ?_
    by_cases hj : j < ((List.range n).flatMap gs).length
    · rw [List.getElem?_append_left hj] at hu
      exact ih.at_ hu
    · rw [List.getElem?_append_right (by omega)] at hu
      simp only [List.flatMap_cons, List.flatMap_nil, List.append_nil] at hu
      have := h n (by omega) _ u hu
      rw [hlen] at this hj
      rwa [show m * n + (j - m * n) = j by omega] at this
theorem open_uni {w : World} {base : Nat} {spare : Nat → Bool} {held : Bool} : ∀ (t : Ty) (L : List (TypeId × Nat)) (cs : List Value), t.fits P L = true → (∀ T o, (T, o) ∈ L → TrodAt enc P w base spare held cs T o) →
    ∃ x : t.Den, t.Is w (fun _ => True) x ((cs.drop ((L.head?.map (·.2)).getD 0)).take t.n)
  | .i64, [(T, o)], cs, hf, h => by
    simp only [Ty.fits] at hf
    split at hf <;> simp_all
    rename_i hu
    obtain ⟨fuel, x, hx⟩ := h
    rw [hf] at hx
    obtain ⟨z, hz, _, hw⟩ := DataW.trod_int hu hx
    have := wf_i64 hw
    exact ⟨z, one1_of hz ⟨rfl, this.1, this.2⟩⟩
  | .u8, [(T, o)], cs, hf, h => by
    simp only [Ty.fits] at hf
    split at hf <;> simp_all
    rename_i hu
    obtain ⟨fuel, x, hx⟩ := h
    rw [hf] at hx
    obtain ⟨z, hz, _, hw⟩ := DataW.trod_int hu hx
    obtain ⟨n, rfl, hn⟩ := wf_u8 hw
    exact ⟨n, one1_of hz ⟨rfl, hn⟩⟩
  | .u32, [(T, o)], cs, hf, h => by
    simp only [Ty.fits] at hf
    split at hf <;> simp_all
    rename_i hu
    obtain ⟨fuel, x, hx⟩ := h
    rw [hf] at hx
    obtain ⟨z, hz, _, hw⟩ := DataW.trod_int hu hx
    obtain ⟨n, rfl, hn⟩ := wf_u32' hw
    exact ⟨n, one1_of hz ⟨rfl, hn⟩⟩
  | .u64, [(T, o)], cs, hf, h => by
    simp only [Ty.fits] at hf
    split at hf <;> simp_all
    rename_i hu
    obtain ⟨fuel, x, hx⟩ := h
    rw [hf] at hx
    obtain ⟨z, hz, _, hw⟩ := DataW.trod_int hu hx
    obtain ⟨n, rfl, hn⟩ := wf_u64 hw
    exact ⟨n, one1_of hz ⟨rfl, hn⟩⟩
  | .bool, [(T, o)], cs, hf, h => by
    simp only [Ty.fits] at hf
    split at hf <;> simp_all
    rename_i hu
    obtain ⟨fuel, x, hx⟩ := h
    rw [hf] at hx
    obtain ⟨z, hz, _⟩ := DataW.trod_bool hu hx
    have hzz : Ty.Is w (fun _ => True) .bool z (List.take (Ty.n .bool) (List.drop o cs)) := one1_of hz rfl
    cases z
    · exact .inl hzz
    · exact .inr hzz
  | .bytes, [(T, o)], cs, hf, h => by
    simp only [Ty.fits] at hf
    split at hf <;> simp_all
    rename_i E hu
    obtain ⟨h1, h2⟩ := hf
    split at h1 <;> simp_all
    rename_i he
    obtain ⟨fuel, x, hx⟩ := h
    rw [h2] at hx
    have hx' := hx
    rcases Go.ChangeShapes.open_ints hu he h1 hx with ⟨hcs, _⟩ | ⟨a, len, cap, zs, hcs, _⟩
    · rw [hcs] at hx'
      obtain ⟨A, n, c, bs, hv, q1, q2, q3, q4⟩ := open_bytesF hu he h1 hx'
      exact ⟨bs, one1_of hcs ⟨A, n, c, hv, q1, q2, q3, q4, fun _ _ _ => trivial⟩⟩
    · rw [hcs] at hx'
      obtain ⟨A, n, c, bs, hv, q1, q2, q3, q4⟩ := open_bytesF hu he h1 hx'
      exact ⟨bs, one1_of hcs ⟨A, n, c, hv, q1, q2, q3, q4, fun _ _ _ => trivial⟩⟩
  | .row t, [(T, o)], cs, hf, h => by
    simp only [Ty.fits] at hf
    split at hf <;> simp_all
    rename_i E hu
    obtain ⟨⟨h1, h3⟩, h2⟩ := hf
    obtain ⟨fuel, x, hx⟩ := h
    rw [h2] at hx
    rcases open_slice hu hx with ⟨hcs, _⟩ | ⟨a, n, c, m, n', D, Pl, hcs, _, hlc, hcm, hm, _, hel⟩
    · exact ⟨[], one1_of hcs ⟨none, 0, 0, [], rfl, rfl, by omega, by omega, Rd.nil, fun _ _ _ => trivial, by simp, fun j y hy => by simp at hy⟩⟩
    · have hall : ∀ i, ∃ (e : t.Den) (es : List Value), i < n → es.length = t.n ∧ t.Is w (fun _ => True) e es ∧ ∀ r (u : Value), es[r]? = some u → w.cell? (a.add (t.n * i + r)) = some u := by
        intro i
        by_cases hi : i < n
        · obtain ⟨cs', hc, ht⟩ := hel i (by rw [hm]; split <;> omega)
          rw [h1] at hc
          obtain ⟨_, hcl, hat⟩ := World.cells?_some hc
          obtain ⟨e, he⟩ := open_uni t [(E, 0)] cs' h3 (fun T o hTo => by
            simp at hTo
            obtain ⟨rfl, rfl⟩ := hTo
            exact ⟨n', _, by rw [List.drop_zero, h1, List.take_of_length_le (by omega)]; exact ht⟩)
          simp only [List.head?_cons, Option.map_some, Option.getD_some, List.drop_zero] at he
          rw [List.take_of_length_le (by omega)] at he
          refine ⟨e, cs', fun _ => ⟨hcl, he, fun r u hu => ?_⟩⟩
          obtain ⟨hr, rfl⟩ := List.getElem?_eq_some_iff.1 hu
          have := hat r (by omega)
          rw [Px.add_add, Nat.mul_comm] at this
          rw [this, List.getElem?_eq_getElem hr]
        · exact ⟨t.dft, [], fun h => absurd h hi⟩
      obtain ⟨g, hg⟩ := Classical.axiomOfChoice hall
      obtain ⟨gs, hg⟩ := Classical.axiomOfChoice hg
      have hR := rows_build (w := w) (Q := fun _ => True) g gs n (fun i hi => (hg i hi).2.1)
      refine ⟨(List.range n).map g, one1_of hcs ⟨some a, n, c, (List.range n).flatMap gs, rfl, by simp, hlc, by unfold maxLen at hcm; omega, ?_, fun _ _ _ => trivial, hR⟩⟩
      exact rd_build n (fun i hi => (hg i hi).1) (fun i hi => (hg i hi).2.2)
  | .pr a b, (T, o) :: (T2, o2) :: L, cs, hf, h => by
    simp only [Ty.fits, Bool.and_eq_true, beq_iff_eq] at hf
    obtain ⟨⟨ho, h1⟩, h2⟩ := hf
    obtain ⟨x, hx⟩ := open_uni a [(T, o)] cs h1 (fun T' o' hm => h T' o' (by simp at hm; simp [hm]))
    obtain ⟨y, hy⟩ := open_uni b ((T2, o2) :: L) cs h2 (fun T' o' hm => h T' o' (List.mem_cons_of_mem _ hm))
    refine ⟨(x, y), ?_, ?_⟩
    · show a.Is w _ x _
      simp only [List.head?_cons, Option.map_some, Option.getD_some] at hx ⊢
      rw [List.take_take, Nat.min_eq_left (by show a.n ≤ a.n + b.n; omega)]
      exact hx
    · show b.Is w _ y _
      simp only [List.head?_cons, Option.map_some, Option.getD_some] at hy ⊢
      rw [List.drop_take, List.drop_drop, show (Ty.pr a b).n - a.n = b.n from by show a.n + b.n - a.n = b.n; omega, ← ho]
      exact hy
  | .st t, [(T, o)], cs, hf, h => by
    simp only [Ty.fits] at hf
    split at hf <;> simp_all
    rename_i fs hu
    obtain ⟨⟨h1, h3⟩, h2⟩ := hf
    obtain ⟨fuel, x, hx⟩ := h
    obtain ⟨ys, n', _, _, hlen, hyl, hg⟩ := DataW.trod_struct hu hx
    obtain ⟨y, hy⟩ := open_uni t (fs.toList.map fun f => (f.type, f.offset)) ((cs.drop o).take (P.cellsOf T)) h2 (fun T' o' hm => by
      obtain ⟨f, hf, he⟩ := List.mem_map.1 hm
      injection he with he1 he2
      subst he1 he2
      obtain ⟨i, hi, hie⟩ := List.mem_iff_getElem.1 hf
      have hi' : i < fs.size := by simpa using hi
      have hgi := hg i f (by rw [Array.getElem?_eq_getElem hi']; simp at hie; rw [hie])
      rw [List.getElem?_eq_getElem (by rw [hyl]; exact hi')] at hgi
      exact ⟨n', _, hgi⟩)
    refine ⟨y, ?_⟩
    obtain ⟨hd, hh1, hh2⟩ := h3
    simp only [List.head?_map, hh1, Option.map_some, Option.getD_some, hh2, List.drop_zero, h1, List.take_take, Nat.min_self] at hy
    exact hy
theorem trod_len {w : World} {base : Nat} {spare : Nat → Bool} {held : Bool} {t : Ty} {T : TypeId} {o fuel : Nat} {cs : List Value} {x : DataW H × List MemPlace} (hf : t.fits P [(T, o)] = true) (h : DataW.trod enc P w base spare held fuel T cs = some x) : cs.length = P.cellsOf T := by
  rw [fits_cells hf]
  cases t <;> simp only [Ty.fits] at hf <;> (try split at hf) <;> simp_all
  all_goals first
    | (rename_i hu; obtain ⟨z, hz, _⟩ := DataW.trod_int hu h; rw [hz]; rfl)
    | (rename_i hu; obtain ⟨z, hz, _⟩ := DataW.trod_bool hu h; rw [hz]; rfl)
    | (rename_i hu; rcases open_slice hu h with ⟨hcs, _⟩ | ⟨a, n, c, m, n', D, Pl, hcs, _⟩ <;> (rw [hcs]; rfl))
    | (rename_i hu; obtain ⟨_, _, _, _, hl, _⟩ := DataW.trod_struct hu h; rw [hl]; exact hf.1.1)
/-- An argument that came in, of any shape. -/
theorem open_any {w : World} {base : Nat} {spare : Nat → Bool} {held : Bool} {t : Ty} {T : TypeId} (hf : t.fits P [(T, 0)] = true) {v : Value} {d : DataW H} {ps : List MemPlace} (h : DataW.Trod enc P w base spare held T v d ps) :
    ∃ x : t.Den, t.Is w (fun b => b < w.heap.size) x v.cells.toList := by
  obtain ⟨fuel, h⟩ := h
  have hl := trod_len hf h
  obtain ⟨x, hx⟩ := open_uni (enc := enc) (w := w) (base := base) (spare := spare) (held := held) t [(T, 0)] v.cells.toList hf (fun T' o' hm => by
    simp at hm
    obtain ⟨rfl, rfl⟩ := hm
    exact ⟨fuel, _, by rw [List.drop_zero, List.take_of_length_le (by omega)]; exact h⟩)
  refine ⟨x, ?_⟩
  simp only [List.head?_cons, Option.map_some, Option.getD_some, List.drop_zero] at hx
  rw [List.take_of_length_le (by rw [hl, fits_cells hf]; exact Nat.le_refl _)] at hx
  exact hx.low
end Go.Px
namespace Go.Px
set_option maxRecDepth 20000
open Go.RowKit
set_option linter.unusedVariables false
abbrev tySuper : Ty := .st (.pr .u64 (.pr .i64 (.pr .i64 (.pr .i64 (.pr .i64 (.pr .i64 (.pr .i64 (.pr .i64 .u32))))))))
abbrev SuperD : Type := Nat × Int × Int × Int × Int × Int × Int × Int × Nat
section
variable {w : World} {Q : Nat → Prop}
theorem Super_out {x : SuperD} {cs : List Value} (h : tySuper.Is w Q x cs) : ∃ (pSerial : Nat) (pEpoch : Int) (pView : Int) (pNormal : Int) (pTop : Int) (pBase : Int) (pArea : Int) (pStart : Int) (pChain : Nat), x = (pSerial, pEpoch, pView, pNormal, pTop, pBase, pArea, pStart, pChain) ∧ cs = [.int .u64 pSerial, .int .i64 pEpoch, .int .i64 pView, .int .i64 pNormal, .int .i64 pTop, .int .i64 pBase, .int .i64 pArea, .int .i64 pStart, .int .u32 pChain] ∧ pSerial < 18446744073709551616 ∧ -9223372036854775808 ≤ pEpoch ∧ pEpoch ≤ 9223372036854775807 ∧ -9223372036854775808 ≤ pView ∧ pView ≤ 9223372036854775807 ∧ -9223372036854775808 ≤ pNormal ∧ pNormal ≤ 9223372036854775807 ∧ -9223372036854775808 ≤ pTop ∧ pTop ≤ 9223372036854775807 ∧ -9223372036854775808 ≤ pBase ∧ pBase ≤ 9223372036854775807 ∧ -9223372036854775808 ≤ pArea ∧ pArea ≤ 9223372036854775807 ∧ -9223372036854775808 ≤ pStart ∧ pStart ≤ 9223372036854775807 ∧ pChain < 4294967296 := by
  obtain ⟨c0, c1, c2, c3, c4, c5, c6, c7, c8, rfl⟩ := list_9 (h.len : cs.length = 9)
  obtain ⟨pSerial, pEpoch, pView, pNormal, pTop, pBase, pArea, pStart, pChain⟩ := x
  obtain ⟨⟨rfl, hu_pSerial⟩, ⟨⟨rfl, h1_pEpoch, h2_pEpoch⟩, ⟨⟨rfl, h1_pView, h2_pView⟩, ⟨⟨rfl, h1_pNormal, h2_pNormal⟩, ⟨⟨rfl, h1_pTop, h2_pTop⟩, ⟨⟨rfl, h1_pBase, h2_pBase⟩, ⟨⟨rfl, h1_pArea, h2_pArea⟩, ⟨⟨rfl, h1_pStart, h2_pStart⟩, ⟨rfl, hu_pChain⟩⟩⟩⟩⟩⟩⟩⟩⟩ := h
  exact ⟨pSerial, pEpoch, pView, pNormal, pTop, pBase, pArea, pStart, pChain, rfl, rfl, hu_pSerial, h1_pEpoch, h2_pEpoch, h1_pView, h2_pView, h1_pNormal, h2_pNormal, h1_pTop, h2_pTop, h1_pBase, h2_pBase, h1_pArea, h2_pArea, h1_pStart, h2_pStart, hu_pChain⟩
end
end Go.Px
namespace Go.Px
set_option maxRecDepth 20000
/-! ### n bytes of zeros; joined sums -/
/-! ### a matrix stands for what it does -/
theorem Lin.comp {f g : Nat → Nat} (hf : Lin f) (hg : Lin g) : Lin (fun x => f (g x)) := fun a b => by
  show f (g (a ^^^ b)) = _
  rw [hg, hf]
/-! ### a burst of four bytes -/
end Go.Px
namespace Go.Proofs.YtoaodmidegkolaaDoor
set_option maxRecDepth 20000
open Go.RowKit Go.Px
set_option linter.unusedVariables false

theorem rd_back (k s : Nat) (bd a z : List UInt8) (hk : k < 256) (hs : s < 18446744073709551616) (hb : bd.length ≤ 16384) :
    rdE (a ++ frmB k s bd ++ z) a.length = 0 ∧ rdK (a ++ frmB k s bd ++ z) a.length = k ∧ Px.rdS (a ++ frmB k s bd ++ z) a.length = s ∧ rdB (a ++ frmB k s bd ++ z) a.length = bd ∧ rdN (a ++ frmB k s bd ++ z) a.length = ((a.length + (bd.length + 20) : Nat) : Int) := by
  have hx : (a ++ frmB k s bd ++ z).drop a.length = frmB k s bd ++ z := by rw [List.append_assoc]; exact List.drop_left
  have hlen : (a ++ frmB k s bd ++ z).length = a.length + (bd.length + 20) + z.length := by rw [List.length_append, List.length_append, frmB_length]
  obtain ⟨u, hu⟩ : ∃ u, moreN 0 (frmH k s bd) = u := ⟨_, rfl⟩
  have hul : u < 4294967296 := by rw [← hu]; exact moreN_lt _ _
  have e : frmB k s bd ++ z = ([80, 76, UInt8.ofNat k, 0] ++ Px.leB 8 s) ++ (Px.leB 4 bd.length ++ (bd ++ (Px.leB 4 u ++ z))) := by
    unfold frmB; rw [hu]; simp [frmH]
  have e2 : frmB k s bd ++ z = frmH k s bd ++ (Px.leB 4 u ++ z) := by unfold frmB; rw [hu]; simp
  have e3 : frmB k s bd ++ z = [80, 76, UInt8.ofNat k, 0] ++ (Px.leB 8 s ++ (Px.leB 4 bd.length ++ (bd ++ (Px.leB 4 u ++ z)))) := by rw [e]; simp
  have e4 : frmB k s bd ++ z = ([80, 76, UInt8.ofNat k, 0] ++ Px.leB 8 s ++ Px.leB 4 bd.length) ++ (bd ++ (Px.leB 4 u ++ z)) := by rw [e]; simp
  have hxl : (frmB k s bd ++ z).length = bd.length + 20 + z.length := by rw [List.length_append, frmB_length]
  obtain ⟨x, hxx⟩ : ∃ x, frmB k s bd ++ z = x := ⟨_, rfl⟩
  rw [hxx] at hx e e2 e3 e4 hxl
  have d12 : x.drop 12 = Px.leB 4 bd.length ++ (bd ++ (Px.leB 4 u ++ z)) := by
    rw [e]; exact List.drop_left' (by simp [leB_length])
  have hbn : bodyN x = bd.length := by
    unfold bodyN; rw [d12, List.take_left' (leB_length _ _), numN_leB 4 _ (by omega)]
  have g0 : (x.getD 0 0).toNat = 80 := by rw [e3]; rfl
  have g1 : (x.getD 1 0).toNat = 76 := by rw [e3]; rfl
  have g2 : (x.getD 2 0).toNat = k := by rw [e3]; show (UInt8.ofNat k).toNat = k; exact UInt8.toNat_ofNat_of_lt' hk
  have g3 : (x.getD 3 0).toNat = 0 := by rw [e3]; rfl
  have hle : lenE x = 0 := by
    unfold lenE; rw [if_neg (by omega), if_neg (by rw [g0, g1, g3, hbn]; omega), if_neg (by rw [hbn]; omega)]
  have hfe : frE x = 0 := by
    unfold frE
    rw [if_neg (by simpa using hle), hbn, if_neg]
    rw [e2, List.drop_left' (by rw [frmH_length]), List.take_left' (frmH_length _ _ _), List.take_left' (leB_length _ _), numN_leB 4 u hul, hu]
    simp
  have hE : rdE (a ++ frmB k s bd ++ z) a.length = 0 := by
    unfold rdE; rw [if_pos (by omega)]; show frE ((a ++ frmB k s bd ++ z).drop a.length) = 0; rw [hx]; exact hfe
  refine ⟨hE, ?_, ?_, ?_, ?_⟩
  · unfold rdK; rw [if_pos hE]; show (((a ++ frmB k s bd ++ z).drop a.length).getD 2 0).toNat = k; rw [hx]; exact g2
  · unfold Px.rdS; rw [if_pos hE]; show numN ((((a ++ frmB k s bd ++ z).drop a.length).drop 4).take 8) = s
    rw [hx, e3]
    show numN ((Px.leB 8 s ++ (Px.leB 4 bd.length ++ (bd ++ (Px.leB 4 u ++ z)))).take 8) = s
    rw [List.take_left' (leB_length _ _), numN_leB 8 s (by omega)]
  · unfold rdB; rw [if_pos hE]; show (((a ++ frmB k s bd ++ z).drop a.length).drop 16).take (bodyN ((a ++ frmB k s bd ++ z).drop a.length)) = bd
    rw [hx, hbn, e4, List.drop_left' (by simp [leB_length]), List.take_left' rfl]
  · unfold rdN; rw [if_pos hE]; show (a.length : Int) + ((bodyN ((a ++ frmB k s bd ++ z).drop a.length) + 20 : Nat) : Int) = _
    rw [hx, hbn]; omega

end Go.Proofs.YtoaodmidegkolaaDoor
namespace Go.Proofs.YtoaodmidegkolaaDoor
set_option maxRecDepth 20000
open Go.ChangeShapes Go.WideShapes Go.ChangeAt Go.RowKit Go.Px Go.Joins
variable {H : Type} {enc : TypeId × Value → H}
theorem bulk_pos (d : DataW H) : 1 ≤ Rows.uptoBulk d := by
  cases d with
  | lit l => cases l <;> simp [Rows.uptoBulk]
  | _ => simp [Rows.uptoBulk]
theorem bulk_mem {d : DataW H} : ∀ {l : List (DataW H)}, d ∈ l → Rows.uptoBulk d ≤ Rows.uptoBulkAll l
  | x :: r, h => by
    simp only [Rows.uptoBulkAll]
    rcases List.mem_cons.1 h with rfl | h
    · omega
    · have := bulk_mem h; omega
theorem bulk_len : ∀ (l : List (DataW H)), l.length ≤ Rows.uptoBulkAll l
  | [] => by simp [Rows.uptoBulkAll]
  | x :: r => by
    have h1 := bulk_pos x
    have h2 := bulk_len r
    simp only [Rows.uptoBulkAll, List.length_cons]
    omega
theorem bulk_at {ds : List (DataW H)} (h : Rows.uptoSmall H ds = true) {j : Nat} {d : DataW H} (hd : ds[j]? = some d) : Rows.uptoBulk d ≤ 1048576 := by
  have hb : Rows.uptoBulkAll ds ≤ 1048576 := of_decide_eq_true h
  have := bulk_mem (List.mem_of_getElem? hd)
  omega
theorem bytes_bulk {w : World} {base : Nat} {spare : Nat → Bool} {held : Bool} {t e : TypeId} (ht : Tryd.prog.underlying t = some (.slice e)) (he : Tryd.prog.underlying e = some (.int .u8)) (hc : Tryd.prog.cellsOf e = 1)
    {A : Option Addr} {n c : Nat} {d : DataW H} {ps : List MemPlace} (h : DataW.Trod enc Tryd.prog w base spare held t (.slice A n c) d ps) : n ≤ Rows.uptoBulk d := by
  obtain ⟨fuel, hf⟩ := h
  rcases Go.ChangeShapes.open_ints ht he hc hf with ⟨hcs, _⟩ | ⟨a, len, cap, zs, hcs, _, hlc, _, hlen, hx, _⟩
  · simp [Value.cells] at hcs
    omega
  · simp [Value.cells] at hcs
    obtain ⟨rfl, rfl, rfl⟩ := hcs
    obtain ⟨rfl, _⟩ := Prod.mk.injEq .. ▸ hx
    have hle : n ≤ zs.length := by rw [hlen]; split <;> omega
    have := bulk_len (ChangeShapes.lits (H := H) .u8 (List.take n zs))
    have hl : (ChangeShapes.lits (H := H) .u8 (List.take n zs)).length = n := by simp [ChangeShapes.lits, List.length_take, Nat.min_eq_left hle]
    simp only [Rows.uptoBulk]
    omega
end Go.Proofs.YtoaodmidegkolaaDoor
namespace Go.Proofs.YtoaodmidegkolaaDoor
set_option maxRecDepth 20000
open Go.RowKit Go.Px Go.Maps
set_option linter.unusedVariables false
theorem offN_len (l : List Nat) : ∀ j, (bodN l j).length = offN j
  | 0 => rfl
  | j + 1 => by rw [bodN_succ, List.length_append, leB_length, offN_len l j, offN_succ]
theorem bodN_pre (l : List Nat) (n : Nat) : ∀ k, ∃ t, bodN l (n + k) = bodN l n ++ t
  | 0 => ⟨[], by simp⟩
  | k + 1 => by
    obtain ⟨t, ht⟩ := bodN_pre l n k
    exact ⟨t ++ Px.leB (szN (n + k)) (l.getD (n + k) 0), by rw [← Nat.add_assoc, bodN_succ, ht, List.append_assoc]⟩
theorem vN_body (l : List Nat) {j : Nat} (hj : j < 8) (hf : l.getD j 0 < 256 ^ szN j) : vN (bodN l 8) j = l.getD j 0 := by
  obtain ⟨z1, z2⟩ := szN_le j
  have hof := offN_le hj
  have hE := getE_in (bd := bodN l 8) z1 z2 (a := offN j) (by rw [bodN_eight]; exact hof)
  unfold vN getV
  rw [if_pos hE, Int.toNat_natCast, Int.toNat_natCast]
  obtain ⟨t, ht⟩ := bodN_pre l (j + 1) (8 - (j + 1))
  rw [show j + 1 + (8 - (j + 1)) = 8 by omega, show bodN l (j + 1) = _ from bodN_succ l j, List.append_assoc] at ht
  rw [ht, ← offN_len l j, List.drop_left, List.take_left' (leB_length _ _), numN_leB _ _ hf]
theorem sdec_back (s : Sup) (hok : s.Ok) (hs : s.ser < 18446744073709551616) (hch : s.ch < 4294967296) (z : List UInt8) : sdecE (supB s ++ z) = 0 ∧ sdecV (supB s ++ z) = s := by
  have hB : supB s = frmB 1 s.ser (bodN s.nums 8) := if_pos hok
  have h8 := bodN_eight s.nums
  have hb := rd_back 1 s.ser (bodN s.nums 8) [] z (by omega) hs (by omega)
  simp only [List.nil_append, List.length_nil] at hb
  rw [← hB] at hb
  obtain ⟨b1, b2, b3, b4, _⟩ := hb
  have b1' : rdE (supB s ++ z) 0 = 0 := b1
  have b2' : rdK (supB s ++ z) 0 = 1 := b2
  have b3' : Px.rdS (supB s ++ z) 0 = s.ser := b3
  have b4' : rdB (supB s ++ z) 0 = bodN s.nums 8 := b4
  have hd : decS s.ser (bodN s.nums 8) = s := by
    obtain ⟨ser, ep, vw, nm, tp, bs, ar, st, ch⟩ := s
    obtain ⟨⟨a1, a2⟩, ⟨c1, c2⟩, ⟨d1, d2⟩, ⟨e1, e2⟩, ⟨f1, f2⟩, g1, g2, h1, h2⟩ := hok
    simp only at a1 a2 c1 c2 d1 d2 e1 e2 f1 f2 g1 g2 h1 h2 hch
    have k : ∀ j, j < 8 → vN (bodN (Sup.nums ⟨ser, ep, vw, nm, tp, bs, ar, st, ch⟩) 8) j = (Sup.nums ⟨ser, ep, vw, nm, tp, bs, ar, st, ch⟩).getD j 0 := fun j hj => vN_body _ hj (by
      rcases (show j = 0 ∨ j = 1 ∨ j = 2 ∨ j = 3 ∨ j = 4 ∨ j = 5 ∨ j = 6 ∨ j = 7 by omega) with rfl | rfl | rfl | rfl | rfl | rfl | rfl | rfl <;> simp [Sup.nums, szN] <;> omega)
    unfold decS
    rw [k 0 (by omega), k 1 (by omega), k 2 (by omega), k 3 (by omega), k 4 (by omega), k 5 (by omega), k 6 (by omega), k 7 (by omega)]
    simp only [Sup.nums, List.getD_cons_zero, List.getD_cons_succ]
    rw [iw_in (v := ep.toNat) (by omega), iw_in (v := vw.toNat) (by omega), iw_in (v := nm.toNat) (by omega), iw_in (v := tp.toNat) (by omega), iw_in (v := bs.toNat) (by omega), iw_in (v := ar.toNat) (by omega), iw_in (v := st.toNat) (by omega)]
    rw [Int.toNat_of_nonneg a1, Int.toNat_of_nonneg c1, Int.toNat_of_nonneg d1, Int.toNat_of_nonneg e1, Int.toNat_of_nonneg f1, Int.toNat_of_nonneg g1, Int.toNat_of_nonneg h1]
  have hE : sdecE (supB s ++ z) = 0 := by
    unfold sdecE
    rw [if_neg (by rw [b1']; simp), if_neg (by rw [b2', b4', h8]; simp), b3', b4', hd]
    exact if_pos hok
  refine ⟨hE, ?_⟩
  unfold sdecV
  rw [if_pos hE, b3', b4', hd]
set_option maxRecDepth 20000 in
set_option maxHeartbeats 6400000 in
theorem superBack_walk (s : Sup) (A : Option Addr) (m c : Nat) (z : List UInt8) (w : World) (hs : s.ser < 18446744073709551616) (hch : s.ch < 4294967296) (hm : z.length = m) (hm8 : m ≤ 1048576) (hr : Rd w A (bys z)) (ht : Tab w) :
    Calls Tryd.prog 5 #[.agg s.cells.toArray, .slice A m c] w fun e w' => e = .returned (.bool true) ∧ Below w.heap.size w w' := by
  obtain ⟨w0, hw0⟩ : ∃ y, w.alloc (.cells s.cells.toArray 25) = y := ⟨_, rfl⟩
  obtain ⟨g, hg⟩ : ∃ g, w.heap.size = g := ⟨_, rfl⟩
  have hG : Blk w0 g s.cells 25 := by rw [← hw0, ← hg]; exact Blk.new w _ _
  have hb0 : Below w.heap.size w w0 := by rw [← hw0]; exact (Below.refl _ _).alloc (Nat.le_refl _) _
  have HEN := hide (fun W (hW : Below w.heap.size w W) => senc_any s W hs hch (Rd.below ht hW))
  have HAW := hide (awake09_any w0 (Rd.below ht hb0))
  have HT := hide (show ∀ W, Below w.heap.size w W → Tab W from fun W hW => Rd.below ht hW)
  have hbk : s.E = 0 → (supB s).length = 72 ∧ sdecE (supB s ++ z) = 0 ∧ sdecV (supB s ++ z) = s := fun he => ⟨supB_len (E_ok he), sdec_back s (E_ok he) hs hch z⟩
  have hbad : s.E ≠ 0 → supB s = [] := fun he => if_neg (fun hok => he (if_pos hok))
  generalize s.E = er at HEN hbk hbad
  generalize supB s = sb at HEN hbk hbad
  obtain ⟨ser, ep, vw, nm, tp, bs, ar, st, ch⟩ := s
  have Hbk := hide hbk
  have Hbad := hide hbad
  have Hw0 := hide hw0
  have Hg := hide hg
  have Hm := hide hm
  have Hr := hide hr
  clear hw0 hg ht hbk hbad hs hch hm hr
  by_cases he : er = 0
  · subst he
    obtain ⟨hl, hE, hV⟩ := Hbk.out rfl
    rw [hl] at HEN
    have Hl := hide hl
    have HE := hide hE
    have HV := hide hV
    clear hl hE hV
    go_enter Tryd.func5, Tryd.ntmps5
    go_wp2_with fail
    rw [Hw0.out]
    try rw [Hg.out]
    go_fit HAW.out
    rintro e w1 ⟨rfl, hb1⟩
    have hG1 := hG.below hb1
    have hb01 := hb0.trans (hb1.mono hb0.size)
    have y0 := Blk.cell hG1 (j := 0) rfl; have y1 := Blk.cell hG1 (j := 1) rfl; have y2 := Blk.cell hG1 (j := 2) rfl; have y3 := Blk.cell hG1 (j := 3) rfl; have y4 := Blk.cell hG1 (j := 4) rfl; have y5 := Blk.cell hG1 (j := 5) rfl; have y6 := Blk.cell hG1 (j := 6) rfl; have y7 := Blk.cell hG1 (j := 7) rfl; have y8 := Blk.cell hG1 (j := 8) rfl
    go_wp2_with fail
    go_fit (HEN.out w1 hb01)
    rintro e w2 ⟨v, rfl, hO, hb2⟩
    obtain ⟨A2, c2, rfl, _, hc2, hcm2, hr2, _⟩ := own_out hO
    have hG2 := hG1.below hb2
    have hb02 := hb01.trans (hb2.mono hb01.size)
    have hz := Hr.out.below hb02
    have hzl := Hm.out
    have hl := Hl.out
    clear hO y0 y1 y2 y3 y4 y5 y6 y7 y8 hG1
    go_wp2_with (first | (with_reducible refine stop_append rfl ?_) | (with_reducible refine stop_copy rfl ?_) | (with_reducible refine stop_make rfl ?_))
    refine (Grow.empty w2 5 1).append rfl rfl tBytes rfl rfl (m := 72) (news := bys sb) (by rw [bys_length]; omega) (hr2.alloc _) (bys_one _) (by omega) (by omega) ?_
    intro v3 w3 hG3 _
    obtain ⟨A3, c3, rfl, _⟩ := own_out hG3.owns
    have hz3 := hz.below hG3.emptyAll
    go_wp2_with (first | (with_reducible refine stop_append rfl ?_) | (with_reducible refine stop_copy rfl ?_) | (with_reducible refine stop_make rfl ?_))
    refine hG3.append rfl rfl tBytes rfl rfl (m := m) (news := bys z) (by rw [bys_length]; omega) hz3 (bys_one _) (by omega) (by omega) ?_
    intro v4 w4 hG4 _
    rw [List.nil_append, ← bys_append, Nat.zero_add] at hG4
    obtain ⟨A4, c4, rfl, _, hc4, hcm4, hr4, _⟩ := own_out hG4.owns
    unfold maxLen at hcm4
    have hb24 := hG4.emptyAll
    have hb04 := hb02.trans (hb24.mono hb02.size)
    have hGq := hG2.below hb24
    have HD := sdec_any A4 (72 + m) c4 (sb ++ z) w4 (by rw [List.length_append, hl, hzl]) (by omega) hc4 hcm4 hr4 (HT.out w4 hb04)
    rw [HE.out, HV.out] at HD
    have HD := hide HD
    clear hG3 hG4 hz hz3 hr2 hr4 hzl hl hG2
    go_wp2_with fail
    go_fit HD.out
    rintro e w5 ⟨rfl, hb5⟩
    have hb05 := hb04.trans (hb5.mono hb04.size)
    have hG5 := (hGq.below hb5).alloc (.cells #[.int .u64 (ser : Int), .int .i64 ep, .int .i64 vw, .int .i64 nm, .int .i64 tp, .int .i64 bs, .int .i64 ar, .int .i64 st, .int .u32 (ch : Int)] 25)
    have hN := Blk.new w5 [.int .u64 (ser : Int), .int .i64 ep, .int .i64 vw, .int .i64 nm, .int .i64 tp, .int .i64 bs, .int .i64 ar, .int .i64 st, .int .u32 (ch : Int)] 25
    have hbX := hb05.alloc hb05.size (.cells #[.int .u64 (ser : Int), .int .i64 ep, .int .i64 vw, .int .i64 nm, .int .i64 tp, .int .i64 bs, .int .i64 ar, .int .i64 st, .int .u32 (ch : Int)] 25)
    have x0 := Blk.cell hN (j := 0) rfl; have x1 := Blk.cell hN (j := 1) rfl; have x2 := Blk.cell hN (j := 2) rfl; have x3 := Blk.cell hN (j := 3) rfl; have x4 := Blk.cell hN (j := 4) rfl; have x5 := Blk.cell hN (j := 5) rfl; have x6 := Blk.cell hN (j := 6) rfl; have x7 := Blk.cell hN (j := 7) rfl; have x8 := Blk.cell hN (j := 8) rfl
    have y0 := Blk.cell hG5 (j := 0) rfl; have y1 := Blk.cell hG5 (j := 1) rfl; have y2 := Blk.cell hG5 (j := 2) rfl; have y3 := Blk.cell hG5 (j := 3) rfl; have y4 := Blk.cell hG5 (j := 4) rfl; have y5 := Blk.cell hG5 (j := 5) rfl; have y6 := Blk.cell hG5 (j := 6) rfl; have y7 := Blk.cell hG5 (j := 7) rfl; have y8 := Blk.cell hG5 (j := 8) rfl
    have HX := hide hbX
    clear hGq hG5 hN hbX hb05 hb5
    go_wp2
    go_ret
    exact ⟨by first | rfl | simp, HX.out⟩
  · have q1 : (er != 0) = true := by simpa using he
    have hsb := Hbad.out he
    subst hsb
    go_enter Tryd.func5, Tryd.ntmps5
    go_wp2_with fail
    rw [Hw0.out]
    try rw [Hg.out]
    go_fit HAW.out
    rintro e w1 ⟨rfl, hb1⟩
    have hG1 := hG.below hb1
    have hb01 := hb0.trans (hb1.mono hb0.size)
    have y0 := Blk.cell hG1 (j := 0) rfl; have y1 := Blk.cell hG1 (j := 1) rfl; have y2 := Blk.cell hG1 (j := 2) rfl; have y3 := Blk.cell hG1 (j := 3) rfl; have y4 := Blk.cell hG1 (j := 4) rfl; have y5 := Blk.cell hG1 (j := 5) rfl; have y6 := Blk.cell hG1 (j := 6) rfl; have y7 := Blk.cell hG1 (j := 7) rfl; have y8 := Blk.cell hG1 (j := 8) rfl
    go_wp2_with fail
    go_fit (HEN.out w1 hb01)
    rintro e w2 ⟨v, rfl, hO, hb2⟩
    obtain ⟨A2, c2, rfl, _⟩ := own_out hO
    have hb02 := hb01.trans (hb2.mono hb01.size)
    clear hO y0 y1 y2 y3 y4 y5 y6 y7 y8 hG1
    go_wp2
    go_ret
    exact ⟨by simp, hb02⟩
end Go.Proofs.YtoaodmidegkolaaDoor
namespace Go.Proofs.YtoaodmidegkolaaDoor
set_option maxRecDepth 20000
open Go.ChangeShapes Go.WideShapes Go.ChangeAt Go.RowKit Go.Px Go.Deep
set_option linter.unusedVariables false

theorem superBack_met (os : Os) : laidMet Tryd.prog Rows.superBackRow.laid ((tabWorld os).forCall (fun _ _ => 0) ⟨#[], #[.agg #[.int .u64 0, .int .i64 0, .int .i64 0, .int .i64 0, .int .i64 0, .int .i64 0, .int .i64 0, .int .i64 0, .int .u32 0], .slice none 0 0], []⟩).memory :=
  laidMet_of_run' 8 (by kernel_rfl) (by kernel_rfl)
theorem superBack_reads (os : Os) {H : Type} (enc : TypeId × Value → H) : ∃ places, DataW.whole enc Tryd.prog ((tabWorld os).forCall (fun _ _ => 0) ⟨#[], #[.agg #[.int .u64 0, .int .i64 0, .int .i64 0, .int .i64 0, .int .i64 0, .int .i64 0, .int .i64 0, .int .i64 0, .int .u32 0], .slice none 0 0], []⟩).memory Tryd.f5.params.toList Rows.superBackSpec.vars false (#[.agg #[.int .u64 0, .int .i64 0, .int .i64 0, .int .i64 0, .int .i64 0, .int .i64 0, .int .i64 0, .int .i64 0, .int .u32 0], .slice none 0 0] : Array Value).toList 8 = some ([.agg [.lit (.int .u64 0), .lit (.int .i64 0), .lit (.int .i64 0), .lit (.int .i64 0), .lit (.int .i64 0), .lit (.int .i64 0), .lit (.int .i64 0), .lit (.int .i64 0), .lit (.int .u32 0)], .nil], [], places) :=
  ⟨[], by kernel_rfl⟩
theorem superBack_contract (H : Type) (enc : TypeId × Value → H) (W : World) (base : Nat) (args : Array Value) (ds gs : List (DataW H)) (before : List MemPlace)
    (hval0 : ∀ (j : Nat) t v, Tryd.f5.params[j]? = some t → args[j]? = some v → Value.okWide Tryd.prog W .any base t v)
    (hW : DataW.Whole enc Tryd.prog Tryd.f5.params.toList Rows.superBackSpec.vars false W args.toList ds gs before) (hsmall : Rows.uptoSmall H (ds ++ gs) = true) (hsz0 : (DataW.weightsEach Tryd.prog (Tryd.f5.params.toList ++ (OpenSpec.ofChange Rows.superBackSpec).bare.plain.varTypes Tryd.prog) (ds ++ gs)).all (· ≤ reachBytes) = true) (hL : laidMetH Tryd.prog Rows.superBackRow.laid W) :
    Calls Tryd.prog 5 args W fun e W' => ∃ v, e = .returned v ∧ Rows.superBackSpec.post enc Tryd.prog Tryd.f5 false true false false W args v W' := by
  have hT : Tab W := tab_of_laid hL
  have hval : ∀ (j : Nat) t v, Tryd.f5.params[j]? = some t → args[j]? = some v → Value.okWide Tryd.prog W .any base t v := hval0
  have hW' := hW
  obtain ⟨p, q, hA0, hV, rfl, hfz, hnd⟩ := hW
  have hA : DataW.TrodAll enc Tryd.prog W 0 (fun _ => true) true Tryd.f5.params.toList args.toList ds p := hA0
  rw [Tryd.params5] at hA hval
  obtain ⟨v0, l0, d0, e0, p0, q0, ha0, rfl, rfl, h0, r0⟩ := trodAll_cons hA
  obtain ⟨v1, l1, d1, e1, p1, q1, rfl, rfl, rfl, h1, r1⟩ := trodAll_cons r0
  obtain ⟨rfl, rfl, rfl⟩ := trodAll_nil r1
  obtain rfl : args = #[v0, v1] := by cases args; simp_all
  obtain ⟨rfl, rfl⟩ := trodVars_none hV
  obtain ⟨⟨ls⟩, rfl, _⟩ := okWide_struct Tryd.underlying25 (hval 0 25 v0 rfl rfl); obtain ⟨s, hx0⟩ := open_any (t := tySuper) (T := 25) (by kernel_rfl) h0; have hy0 : tySuper.Is _ _ s ls := hx0
  obtain ⟨A, n, c, bs, rfl, hn1, hnc1, hc1, hr1⟩ := open_bytes Tryd.underlying26 Tryd.underlying5 (by kernel_rfl) (hval 1 26 v1 rfl rfl) h1
  have hq := bytes_bulk Tryd.underlying26 Tryd.underlying5 (by kernel_rfl) h1
  have hq2 := bulk_at hsmall (j := 1) rfl
  obtain ⟨ser, ep, vw, nm, tp, bs', ar, st, ch, rfl, rfl, hser, _, _, _, _, _, _, _, _, _, _, _, _, _, _, hch⟩ := Super_out hy0
  refine (superBack_walk ⟨ser, ep, vw, nm, tp, bs', ar, st, ch⟩ A n c bs W hser hch hn1 (by omega) hr1 hT).mono fun e W' ⟨he, hb⟩ => ?_
  subst he
  exact ⟨_, rfl, law_post laidOut rfl rfl Tryd.underlying4 (fun t ht => (show ∀ t ∈ Tryd.f5.params.toList, Tryd.prog.readableRec t = true ∧ t < Tryd.prog.types.size from by decide +kernel) t ht) hW' rfl hb⟩

set_option maxRecDepth 100000 in
theorem superBack_lifted (os : Os) (started : os.Started) (H : Type) (enc : TypeId × Value → H) (F : Stop.Interp) :
    ReturnsInHanded {} Tryd.checked os 5 .any ((Rows.OpenSpec.upto Rows.superBackSpec).preRow enc Tryd.prog Tryd.f5 Rows.superBackUptoRow.domain false Rows.superBackUptoRow.laid) (((Rows.OpenSpec.upto Rows.superBackSpec).at F).post enc Tryd.prog Tryd.f5 false true false false) := by
  obtain ⟨places, hx⟩ := superBack_reads os enc
  refine returnsInHanded_of_row (C := Tryd.checked) (s := Rows.OpenSpec.upto Rows.superBackSpec) own started (by kernel_rfl) Tryd.func5
    (witness_row_at (enc := enc) (C := Tryd.checked) false (tabWorld os) #[.agg #[.int .u64 0, .int .i64 0, .int .i64 0, .int .i64 0, .int .i64 0, .int .i64 0, .int .i64 0, .int .i64 0, .int .u32 0], .slice none 0 0] rfl (by kernel_rfl) (by kernel_rfl) (by kernel_rfl)
      (OpenSpec.preRow_of_cond 8 hx (by kernel_rfl) (fun k hk => by cases hk; kernel_rfl) (by kernel_rfl) (superBack_met os))) ?_
  intro W base args ds gs before hval hW _ hcond hsz hL _ _
  exact superBack_contract H enc W base args ds gs before hval hW (hcond _ rfl) hsz hL

theorem superBack_said : Rows.SuperBackUptoSaid :=
  OpenClaim.holds_of_cond 5 Tryd.f5 rfl rfl rfl rfl rfl rfl rfl ⟨rfl, rfl, rfl, rfl, rfl⟩ rfl rfl rfl rfl rfl (by kernel_rfl) Tryd.func5 (by kernel_rfl)
    (of_decide_eq_true (by kernel_rfl)) (by unfold Func.isWrapper; first | (rw [if_pos (by decide +kernel)]; kernel_rfl) | (rw [if_neg (by decide +kernel)]; exact ⟨rfl, rfl⟩))
    (fun os started H enc _ F => by rw [OpenClaim.pre_eq_preRow]; exact superBack_lifted os started H enc F)

theorem superBack_plain (f : FuncId) (fn : Func) (hf : Tryd.pinned.checked.prog.funcNamed "plinth/plinthlaw09.SuperBack" = some f) (hfn : Tryd.pinned.checked.prog.funcs[f]? = some fn) :
    false = Tryd.pinned.checked.prog.looks [] ∧ ∀ (j : Nat) t, fn.params[j]? = some t → Tryd.pinned.checked.prog.wantsStandIn t = false := by
  obtain rfl : f = 5 := Option.some.inj ((show Tryd.prog.funcNamed "plinth/plinthlaw09.SuperBack" = some 5 by kernel_rfl).symm.trans hf) |>.symm
  obtain rfl : fn = Tryd.f5 := (Option.some.inj (Tryd.func5.symm.trans hfn)).symm
  refine ⟨by kernel_rfl, fun j t ht => ?_⟩
  have hm : t ∈ Tryd.f5.params.toList := by
    have := Array.mem_of_getElem? ht
    simpa using this
  exact (show ∀ t ∈ Tryd.f5.params.toList, Tryd.prog.wantsStandIn t = false by decide +kernel) t hm

theorem superBack_uptoCard : Rows.SuperBackUptoCardSaid :=
  Claim7.holds_tied_plain_at .later [] _ _ _ _ superBack_said (fun _ h => by cases h) (by kernel_rfl) (fun _ h => by cases h) superBackUpto_row_tie rfl ⟨rfl, rfl⟩ (by kernel_rfl) rfl superBack_plain (by kernel_rfl)
end Go.Proofs.YtoaodmidegkolaaDoor
