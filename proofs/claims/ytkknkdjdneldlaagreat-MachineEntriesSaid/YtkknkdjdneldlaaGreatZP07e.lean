/- For every input the law MachineEntries returns true, and each argument reads afterwards as it read before. No condition. -/
import Derived.Test.YtkknkdjdneldlaaGreatRows
import Derived.Test.YtkknkdjdneldlaaGreatK61
import Derived.Test.YtkknkdjdneldlaaGreatK62
import Derived.Test.YtkknkdjdneldlaaGreatK63
import Derived.Test.YtkknkdjdneldlaaGreatK64
import Derived.Test.YtkknkdjdneldlaaGreatK65
import Derived.Test.YtkknkdjdneldlaaGreatK66
import Derived.Test.YtkknkdjdneldlaaGreatK67
import Derived.Test.YtkknkdjdneldlaaGreatK68
import Derived.Test.YtkknkdjdneldlaaGreatK69
import Derived.Test.YtkknkdjdneldlaaGreatK610
import Derived.Test.YtkknkdjdneldlaaGreatK611
import Derived.Test.YtkknkdjdneldlaaGreatK612
import Derived.Test.YtkknkdjdneldlaaGreatK613
import Derived.Test.YtkknkdjdneldlaaGreatK614
import Derived.Test.YtkknkdjdneldlaaGreatK615
import Derived.Test.YtkknkdjdneldlaaGreatK616
import Derived.Test.YtkknkdjdneldlaaGreatK617
import Derived.Test.YtkknkdjdneldlaaGreatK618
import Derived.Test.YtkknkdjdneldlaaGreatK619
namespace Go.Px
open Go.RowKit

/-! ### hide -/
/-! ### addresses -/
/-! ### what a slice reads as: nil let in -/
section
variable {w w' : World} {A : Option Addr} {xs : List Value}
end

/-! ### rows that a call owns -/
section
variable {w w' : World} {base : Nat} {e : TypeId} {size n : Nat} {v : Value} {xs : List Value}
end

/-! ### bytes and integers -/
/-! ### facts of a slice's type -/
/-! ### append onto a row of the call's own -/
section
variable {P : Program} {w : World}
end

/-! ### places at which a walk stands still, to be led on by hand -/
section
variable {P : Program} {w : World} {ops : Array Oper} {rest : List Oper} {o : Oper} {a : Act} {Q : Exit → Act → World → Prop}
end

/-! ### a row that grows, round by round -/
section
variable {P : Program} {w wr : World} {v0 v : Value} {base e size n : Nat} {xs : List Value}
variable {ops : Array Oper} {rest : List Oper} {o : Oper} {a : Act} {Q : Exit → Act → World → Prop}
end

/-! ### a law's row from its walk -/
section
open Go.ChangeShapes Go.WideShapes Go.ChangeAt
variable {H : Type} {enc : TypeId × Value → H} {P : Program}
theorem trodAll_below (hl : laidOutB P = true) {W W' : World} (hb : Below W.heap.size W W') : ∀ {ts : List TypeId} {vs : List Value} {ds : List (DataW H)} {ps : List MemPlace},
    (∀ t ∈ ts, P.readableRec t = true ∧ t < P.types.size) → DataW.TrodAll enc P W 0 (fun _ => true) true ts vs ds ps → (∀ x ∈ ps, x.block < W.heap.size) →
    ∀ sp : Nat → Bool, (∀ p ∈ ps, sp p.block = true) → DataW.TrodAll enc P W' 0 sp true ts vs ds ps
  | [], vs, ds, ps, _, h, _, _, _ => by
    obtain ⟨rfl, rfl, rfl⟩ := trodAll_nil h
    exact trodAll_mk0
  | t :: ts, vs, ds, ps, hr, h, hlt, sp, hsp => by
    obtain ⟨v, vs', d, ds', p, q, rfl, rfl, rfl, h1, h2⟩ := trodAll_cons h
    have ht := hr t List.mem_cons_self
    refine trodAll_cons_mk ?_ (trodAll_below hl hb (fun t' ht' => hr t' (List.mem_cons_of_mem _ ht')) h2 (fun x hx => hlt x (List.mem_append_right _ hx)) sp (fun x hx => hsp x (List.mem_append_right _ hx)))
    exact WideElems.Trod_stays hl ht.1 ht.2 h1 (fun x hx => hb.same (hlt x (List.mem_append_left _ hx))) (fun x hx => hsp x (List.mem_append_left _ hx))
/-- A slice of bytes that came in. -/
theorem open_bytes {r : Reach} {b0 : Nat} {w : World} {base : Nat} {spare : Nat → Bool} {held : Bool} {t e : TypeId} (ht : P.underlying t = some (.slice e)) (he : P.underlying e = some (.int .u8)) (hc : P.cellsOf e = 1)
    {v : Value} {d : DataW H} {ps : List MemPlace} (hval : Value.okWide P w r b0 t v) (h : DataW.Trod enc P w base spare held t v d ps) :
    ∃ (A : Option Addr) (n c : Nat) (bs : List UInt8), v = .slice A n c ∧ bs.length = n ∧ n ≤ c ∧ c ≤ 9223372036854775807 ∧ Rd w A (bys bs) := by
  obtain ⟨A, n, c, rfl⟩ := okWide_slice ht hval
  obtain ⟨fuel, hf⟩ := h
  rcases Go.ChangeShapes.open_ints ht he hc hf with ⟨hcs, _⟩ | ⟨a, len, cap, zs, hcs, _, hlc, hcm, hlen, _, hcell, hwf⟩
  · simp [Value.cells] at hcs
    obtain ⟨rfl, rfl, rfl⟩ := hcs
    exact ⟨none, 0, 0, [], rfl, rfl, by omega, by omega, Rd.nil⟩
  · simp [Value.cells] at hcs
    obtain ⟨rfl, rfl, rfl⟩ := hcs
    have hle : n ≤ zs.length := by rw [hlen]; split <;> omega
    refine ⟨some a, n, c, (zs.take n).map fun z => UInt8.ofNat z.toNat, rfl, by simp [Nat.min_eq_left hle], hlc, by unfold maxLen at hcm; omega, Rd.of_some fun j u hu => ?_⟩
    have hj : j < n := by
      have := (List.getElem?_eq_some_iff.1 hu).1
      simp [bys] at this; omega
    have hjz : j < zs.length := by omega
    have hw := hwf zs[j] (List.getElem_mem hjz)
    have hz : 0 ≤ zs[j] ∧ zs[j] ≤ 255 := by simpa [Lit.wf, IntKind.min, IntKind.max, IntKind.signed, IntKind.bits] using hw
    rw [hcell j hjz]
    simp only [bys, List.map_map, List.getElem?_map, List.getElem?_take, if_pos hj, List.getElem?_eq_getElem hjz, Option.map_some, Function.comp] at hu
    rw [← hu]
    simp only [List.getD, List.getElem?_eq_getElem hjz, Option.getD_some]
    congr 2
    have : (UInt8.ofNat (zs[j]).toNat).toNat = (zs[j]).toNat := by
      simp; omega
    rw [this]; omega
theorem wf_u64 {v : Int} (h : (Lit.int .u64 v).wf = true) : ∃ n : Nat, v = n ∧ n < 18446744073709551616 := by
  have hz : 0 ≤ v ∧ v ≤ 18446744073709551615 := by simpa [Lit.wf, IntKind.min, IntKind.max, IntKind.signed, IntKind.bits] using h
  exact ⟨v.toNat, by omega, by omega⟩
theorem wf_i64 {v : Int} (h : (Lit.int .i64 v).wf = true) : -9223372036854775808 ≤ v ∧ v ≤ 9223372036854775807 := by
  simpa [Lit.wf, IntKind.min, IntKind.max, IntKind.signed, IntKind.bits] using h
/-- WHAT A LAW OWES: 'it returns true, and nothing that was there has turned'. The rest of its row is the same for all laws that name no variable. -/
theorem law_post {f : Func} {s : ChangeSpec} {W W' : World} {args : Array Value} {ds gs : List (DataW H)} {before : List MemPlace} {tb : TypeId}
    (hl : laidOutB P = true) (hvars : s.vars = []) (hres : f.resultTypes = #[tb]) (htb : P.underlying tb = some .bool)
    (hr : ∀ t ∈ f.params.toList, P.readableRec t = true ∧ t < P.types.size)
    (hW : DataW.Whole enc P f.params.toList s.vars false W args.toList ds gs before)
    (hs : s.fn H (ds ++ gs) = { results := [.lit (.bool true)], args := ds, vars := [] })
    (hb : Below W.heap.size W W') : s.post enc P f false true false false W args (.bool true) W' := by
  have hW0 := hW
  obtain ⟨p, q, hA, hV, rfl, hfz, hnd⟩ := hW
  rw [hvars] at hV
  obtain ⟨rfl, rfl⟩ := trodVars_none hV
  have hlt : ∀ x ∈ p ++ [], x.block < W.heap.size := fun x hx => hW0.lt x hx
  have hold : ∀ p' ∈ p ++ [], (fun b => decide (b < W.heap.size)) p'.block = true := fun p' hp => by simpa using hlt p' hp
  refine ⟨ds, [], p ++ [], [], p, [], hW0, ?_, ?_, ?_, ?_, fun h => by cases h⟩
  · rw [hs, hres]
    exact trodAll_mk1 (shut_bool htb true)
  · rw [hs]
    exact trodAll_below hl hb hr hA (fun x hx => hlt x (List.mem_append_left _ hx)) _ (fun x hx => hold x (List.mem_append_left _ hx))
  · rw [hs, hvars]
    rfl
  · exact World.keptBut_mono (fun x hx => ⟨hx, .inr (.inl (by simpa using hx))⟩) (hb.frame (· ∈ p ++ []))
end
end Go.Px
namespace Go.Px
set_option maxRecDepth 20000
theorem wf_u8 {v : Int} (h : (Lit.int .u8 v).wf = true) : ∃ n : Nat, v = n ∧ n < 256 := by
  have hz : 0 ≤ v ∧ v ≤ 255 := by simpa [Lit.wf, IntKind.min, IntKind.max, IntKind.signed, IntKind.bits] using h
  exact ⟨v.toNat, by omega, by omega⟩
end Go.Px
namespace Go.Px
set_option maxRecDepth 20000
open Go.RowKit Go.ChangeShapes
variable {H : Type} {enc : TypeId × Value → H} {P : Program}
theorem open_bytesF {w : World} {base : Nat} {spare : Nat → Bool} {held : Bool} {t e : TypeId} (ht : P.underlying t = some (.slice e)) (he : P.underlying e = some (.int .u8)) (hc : P.cellsOf e = 1)
    {v : Value} {fuel : Nat} {x : DataW H × List MemPlace} (hf : DataW.trod enc P w base spare held fuel t [v] = some x) :
    ∃ (A : Option Addr) (n c : Nat) (bs : List UInt8), v = .slice A n c ∧ bs.length = n ∧ n ≤ c ∧ c ≤ 9223372036854775807 ∧ Rd w A (bys bs) := by
  rcases Go.ChangeShapes.open_ints ht he hc hf with ⟨hcs, _⟩ | ⟨a, len, cap, zs, hcs, _, hlc, hcm, hlen, _, hcell, hwf⟩
  · obtain rfl : v = .slice none 0 0 := by simpa using hcs
    exact ⟨none, 0, 0, [], rfl, rfl, by omega, by omega, Rd.nil⟩
  · obtain rfl : v = .slice (some a) len cap := by simpa using hcs
    have hle : len ≤ zs.length := by rw [hlen]; split <;> omega
    refine ⟨some a, len, cap, (zs.take len).map fun z => UInt8.ofNat z.toNat, rfl, by simp [Nat.min_eq_left hle], hlc, by unfold maxLen at hcm; omega, Rd.of_some fun j u hu => ?_⟩
    have hj : j < len := by
      have := (List.getElem?_eq_some_iff.1 hu).1
      simp [bys] at this; omega
    have hjz : j < zs.length := by omega
    have hw := hwf zs[j] (List.getElem_mem hjz)
    have hz : 0 ≤ zs[j] ∧ zs[j] ≤ 255 := by simpa [Lit.wf, IntKind.min, IntKind.max, IntKind.signed, IntKind.bits] using hw
    rw [hcell j hjz]
    simp only [bys, List.map_map, List.getElem?_map, List.getElem?_take, if_pos hj, List.getElem?_eq_getElem hjz, Option.map_some, Function.comp] at hu
    rw [← hu]
    simp only [List.getD, List.getElem?_eq_getElem hjz, Option.getD_some]
    congr 2
    have : (UInt8.ofNat (zs[j]).toNat).toNat = (zs[j]).toNat := by
      simp; omega
    rw [this]; omega
end Go.Px
namespace Go.Px
open Go.RowKit Go.ChangeShapes Go.WideShapes Go.ChangeAt Go.Deep
section
variable {w w' : World} {Q Q' : Nat → Prop} {t : Ty} {x : t.Den} {cs : List Value}
variable {xs : List t.Den} {vs : List Value}
end
/-! ### those that came in -/
/-- Does a type have a shape? (A list of fields, each with the place of its first cell.) -/
def Ty.fits (P : Program) : Ty → List (TypeId × Nat) → Bool
  | .i64, [(T, _)] => match P.underlying T with | some (.int .i64) => P.cellsOf T == 1 | _ => false
  | .u8, [(T, _)] => match P.underlying T with | some (.int .u8) => P.cellsOf T == 1 | _ => false
  | .u32, [(T, _)] => match P.underlying T with | some (.int .u32) => P.cellsOf T == 1 | _ => false
  | .u64, [(T, _)] => match P.underlying T with | some (.int .u64) => P.cellsOf T == 1 | _ => false
  | .bool, [(T, _)] => match P.underlying T with | some .bool => P.cellsOf T == 1 | _ => false
  | .bytes, [(T, _)] => match P.underlying T with | some (.slice E) => (match P.underlying E with | some (.int .u8) => P.cellsOf E == 1 | _ => false) && P.cellsOf T == 1 | _ => false
  | .row t, [(T, _)] => match P.underlying T with | some (.slice E) => (P.cellsOf E == t.n && t.fits P [(E, 0)]) && P.cellsOf T == 1 | _ => false
  | .pr a b, (T, o) :: (T2, o2) :: L => (o2 == o + a.n && a.fits P [(T, o)]) && b.fits P ((T2, o2) :: L)
  | .st t, [(T, _)] => match P.underlying T with | some (.struct fs) => (P.cellsOf T == t.n && ((fs.toList.map fun f => (f.type, f.offset)).head?.map (·.2) == some 0)) && t.fits P (fs.toList.map fun f => (f.type, f.offset)) | _ => false
  | _, _ => false
variable {H : Type} {enc : TypeId × Value → H} {P : Program}
theorem wf_u32' {z : Int} (h : (Lit.int .u32 z).wf = true) : ∃ n : Nat, z = n ∧ n < 4294967296 := by
  have : 0 ≤ z ∧ z ≤ 4294967295 := by simpa [Lit.wf, IntKind.min, IntKind.max, IntKind.signed, IntKind.bits] using h
  exact ⟨z.toNat, by omega, by omega⟩
theorem fits_cells {P : Program} : ∀ {t : Ty} {T : TypeId} {o : Nat}, t.fits P [(T, o)] = true → P.cellsOf T = t.n := by
  intro t T o h
  cases t <;> simp only [Ty.fits] at h <;> (try split at h) <;> simp_all [Ty.n]
def TrodAt (enc : TypeId × Value → H) (P : Program) (w : World) (base : Nat) (spare : Nat → Bool) (held : Bool) (cs : List Value) (T : TypeId) (o : Nat) : Prop := ∃ fuel x, DataW.trod enc P w base spare held fuel T ((cs.drop o).take (P.cellsOf T)) = some x
theorem one1_of {p : Value → Prop} {cs : List Value} {c : Value} (h : cs = [c]) (hp : p c) : one1 p cs := by subst h; exact hp
def Ty.dft : (t : Ty) → t.Den
  | .i64 => (0 : Int)
  | .u8 | .u32 | .u64 => (0 : Nat)
  | .bool => false
  | .bytes => []
  | .row _ => []
  | .pr a b => (a.dft, b.dft)
  | .st t => t.dft
theorem rows_build {w : World} {Q : Nat → Prop} {t : Ty} (g : Nat → t.Den) (gs : Nat → List Value) : ∀ (n : Nat), (∀ i, i < n → t.Is w Q (g i) (gs i)) → t.Rows w Q ((List.range n).map g) ((List.range n).flatMap gs)
  | 0, _ => Ty.Rows.nil
  | n + 1, h => by
    rw [List.range_succ, List.map_append, List.flatMap_append]
    refine (rows_build g gs n (fun i hi => h i (by omega))).append ?_
    have := Ty.Rows.one (h n (by omega))
    simpa using this
theorem rd_build {w : World} {a : Addr} {m : Nat} {gs : Nat → List Value} : ∀ (n : Nat), (∀ i, i < n → (gs i).length = m) → (∀ i, i < n → ∀ r (u : Value), (gs i)[r]? = some u → w.cell? (a.add (m * i + r)) = some u) → Rd w (some a) ((List.range n).flatMap gs)
  | 0, _, _ => Rd.nil
  | n + 1, hl, h => by
    have ih := rd_build (w := w) (a := a) n (fun i hi => hl i (by omega)) (fun i hi => h i (by omega))
    have hlen : ((List.range n).flatMap gs).length = m * n := by
      clear ih
      induction n with
      | zero => simp
      | succ n ih =>
        rw [List.range_succ, List.flatMap_append, List.length_append, ih (fun i hi => hl i (by omega)) (fun i hi => h i (by omega))]
        simp [hl n (by omega), Nat.mul_succ]
    rw [List.range_succ, List.flatMap_append]
    refine Rd.of_some fun j u hu => ?_
    by_cases hj : j < ((List.range n).flatMap gs).length
    · rw [List.getElem?_append_left hj] at hu
      exact ih.at_ hu
    · rw [List.getElem?_append_right (by omega)] at hu
      simp only [List.flatMap_cons, List.flatMap_nil, List.append_nil] at hu
      have := h n (by omega) _ u hu
      rw [hlen] at this hj
      rwa [show m * n + (j - m * n) = j by omega] at this
theorem open_uni {w : World} {base : Nat} {spare : Nat → Bool} {held : Bool} : ∀ (t : Ty) (L : List (TypeId × Nat)) (cs : List Value), t.fits P L = true → (∀ T o, (T, o) ∈ L → TrodAt enc P w base spare held cs T o) →
    ∃ x : t.Den, t.Is w (fun _ => True) x ((cs.drop ((L.head?.map (·.2)).getD 0)).take t.n)
  | .i64, [(T, o)], cs, hf, h => by
    simp only [Ty.fits] at hf
    split at hf <;> simp_all
    rename_i hu
    obtain ⟨fuel, x, hx⟩ := h
    rw [hf] at hx
    obtain ⟨z, hz, _, hw⟩ := DataW.trod_int hu hx
    have := wf_i64 hw
    exact ⟨z, one1_of hz ⟨rfl, this.1, this.2⟩⟩
  | .u8, [(T, o)], cs, hf, h => by
    simp only [Ty.fits] at hf
    split at hf <;> simp_all
    rename_i hu
    obtain ⟨fuel, x, hx⟩ := h
    rw [hf] at hx
    obtain ⟨z, hz, _, hw⟩ := DataW.trod_int hu hx
    obtain ⟨n, rfl, hn⟩ := wf_u8 hw
    exact ⟨n, one1_of hz ⟨rfl, hn⟩⟩
  | .u32, [(T, o)], cs, hf, h => by
    simp only [Ty.fits] at hf
    split at hf <;> simp_all
    rename_i hu
    obtain ⟨fuel, x, hx⟩ := h
    rw [hf] at hx
    obtain ⟨z, hz, _, hw⟩ := DataW.trod_int hu hx
    obtain ⟨n, rfl, hn⟩ := wf_u32' hw
    exact ⟨n, one1_of hz ⟨rfl, hn⟩⟩
  | .u64, [(T, o)], cs, hf, h => by
    simp only [Ty.fits] at hf
    split at hf <;> simp_all
    rename_i hu
    obtain ⟨fuel, x, hx⟩ := h
    rw [hf] at hx
    obtain ⟨z, hz, _, hw⟩ := DataW.trod_int hu hx
    obtain ⟨n, rfl, hn⟩ := wf_u64 hw
    exact ⟨n, one1_of hz ⟨rfl, hn⟩⟩
  | .bool, [(T, o)], cs, hf, h => by
    simp only [Ty.fits] at hf
    split at hf <;> simp_all
    rename_i hu
    obtain ⟨fuel, x, hx⟩ := h
    rw [hf] at hx
    obtain ⟨z, hz, _⟩ := DataW.trod_bool hu hx
    have hzz : Ty.Is w (fun _ => True) .bool z (List.take (Ty.n .bool) (List.drop o cs)) := one1_of hz rfl
    cases z
    · exact .inl hzz
    · exact .inr hzz
  | .bytes, [(T, o)], cs, hf, h => by
    simp only [Ty.fits] at hf
    split at hf <;> simp_all
    rename_i E hu
    obtain ⟨h1, h2⟩ := hf
    split at h1 <;> simp_all
    rename_i he
    obtain ⟨fuel, x, hx⟩ := h
    rw [h2] at hx
    have hx' := hx
    rcases Go.ChangeShapes.open_ints hu he h1 hx with ⟨hcs, _⟩ | ⟨a, len, cap, zs, hcs, _⟩
    · rw [hcs] at hx'
      obtain ⟨A, n, c, bs, hv, q1, q2, q3, q4⟩ := open_bytesF hu he h1 hx'
      exact ⟨bs, one1_of hcs ⟨A, n, c, hv, q1, q2, q3, q4, fun _ _ _ => trivial⟩⟩
    · rw [hcs] at hx'
      obtain ⟨A, n, c, bs, hv, q1, q2, q3, q4⟩ := open_bytesF hu he h1 hx'
      exact ⟨bs, one1_of hcs ⟨A, n, c, hv, q1, q2, q3, q4, fun _ _ _ => trivial⟩⟩
  | .row t, [(T, o)], cs, hf, h => by
    simp only [Ty.fits] at hf
    split at hf <;> simp_all
    rename_i E hu
    obtain ⟨⟨h1, h3⟩, h2⟩ := hf
    obtain ⟨fuel, x, hx⟩ := h
    rw [h2] at hx
    rcases open_slice hu hx with ⟨hcs, _⟩ | ⟨a, n, c, m, n', D, Pl, hcs, _, hlc, hcm, hm, _, hel⟩
    · exact ⟨[], one1_of hcs ⟨none, 0, 0, [], rfl, rfl, by omega, by omega, Rd.nil, fun _ _ _ => trivial, by simp, fun j y hy => by simp at hy⟩⟩
    · have hall : ∀ i, ∃ (e : t.Den) (es : List Value), i < n → es.length = t.n ∧ t.Is w (fun _ => True) e es ∧ ∀ r (u : Value), es[r]? = some u → w.cell? (a.add (t.n * i + r)) = some u := by
        intro i
        by_cases hi : i < n
        · obtain ⟨cs', hc, ht⟩ := hel i (by rw [hm]; split <;> omega)
          rw [h1] at hc
          obtain ⟨_, hcl, hat⟩ := World.cells?_some hc
          obtain ⟨e, he⟩ := open_uni t [(E, 0)] cs' h3 (fun T o hTo => by
            simp at hTo
            obtain ⟨rfl, rfl⟩ := hTo
            exact ⟨n', _, by rw [List.drop_zero, h1, List.take_of_length_le (by omega)]; exact ht⟩)
          simp only [List.head?_cons, Option.map_some, Option.getD_some, List.drop_zero] at he
          rw [List.take_of_length_le (by omega)] at he
          refine ⟨e, cs', fun _ => ⟨hcl, he, fun r u hu => ?_⟩⟩
          obtain ⟨hr, rfl⟩ := List.getElem?_eq_some_iff.1 hu
          have := hat r (by omega)
          rw [Px.add_add, Nat.mul_comm] at this
          rw [this, List.getElem?_eq_getElem hr]
        · exact ⟨t.dft, [], fun h => absurd h hi⟩
      obtain ⟨g, hg⟩ := Classical.axiomOfChoice hall
      obtain ⟨gs, hg⟩ := Classical.axiomOfChoice hg
      have hR := rows_build (w := w) (Q := fun _ => True) g gs n (fun i hi => (hg i hi).2.1)
      refine ⟨(List.range n).map g, one1_of hcs ⟨some a, n, c, (List.range n).flatMap gs, rfl, by simp, hlc, by unfold maxLen at hcm; omega, ?_, fun _ _ _ => trivial, hR⟩⟩
      exact rd_build n (fun i hi => (hg i hi).1) (fun i hi => (hg i hi).2.2)
  | .pr a b, (T, o) :: (T2, o2) :: L, cs, hf, h => by
    simp only [Ty.fits, Bool.and_eq_true, beq_iff_eq] at hf
    obtain ⟨⟨ho, h1⟩, h2⟩ := hf
    obtain ⟨x, hx⟩ := open_uni a [(T, o)] cs h1 (fun T' o' hm => h T' o' (by simp at hm; simp [hm]))
    obtain ⟨y, hy⟩ := open_uni b ((T2, o2) :: L) cs h2 (fun T' o' hm => h T' o' (List.mem_cons_of_mem _ hm))
    refine ⟨(x, y), ?_, ?_⟩
    · show a.Is w _ x _
      simp only [List.head?_cons, Option.map_some, Option.getD_some] at hx ⊢
      rw [List.take_take, Nat.min_eq_left (by show a.n ≤ a.n + b.n; omega)]
      exact hx
    · show b.Is w _ y _
      simp only [List.head?_cons, Option.map_some, Option.getD_some] at hy ⊢
      rw [List.drop_take, List.drop_drop, show (Ty.pr a b).n - a.n = b.n from by show a.n + b.n - a.n = b.n; omega, ← ho]
      exact hy
  | .st t, [(T, o)], cs, hf, h => by
    simp only [Ty.fits] at hf
    split at hf <;> simp_all
    rename_i fs hu
    obtain ⟨⟨h1, h3⟩, h2⟩ := hf
    obtain ⟨fuel, x, hx⟩ := h
    obtain ⟨ys, n', _, _, hlen, hyl, hg⟩ := DataW.trod_struct hu hx
    obtain ⟨y, hy⟩ := open_uni t (fs.toList.map fun f => (f.type, f.offset)) ((cs.drop o).take (P.cellsOf T)) h2 (fun T' o' hm => by
      obtain ⟨f, hf, he⟩ := List.mem_map.1 hm
      injection he with he1 he2
      subst he1 he2
      obtain ⟨i, hi, hie⟩ := List.mem_iff_getElem.1 hf
      have hi' : i < fs.size := by simpa using hi
      have hgi := hg i f (by rw [Array.getElem?_eq_getElem hi']; simp at hie; rw [hie])
      rw [List.getElem?_eq_getElem (by rw [hyl]; exact hi')] at hgi
      exact ⟨n', _, hgi⟩)
    refine ⟨y, ?_⟩
    obtain ⟨hd, hh1, hh2⟩ := h3
    simp only [List.head?_map, hh1, Option.map_some, Option.getD_some, hh2, List.drop_zero, h1, List.take_take, Nat.min_self] at hy
    exact hy
theorem trod_len {w : World} {base : Nat} {spare : Nat → Bool} {held : Bool} {t : Ty} {T : TypeId} {o fuel : Nat} {cs : List Value} {x : DataW H × List MemPlace} (hf : t.fits P [(T, o)] = true) (h : DataW.trod enc P w base spare held fuel T cs = some x) : cs.length = P.cellsOf T := by
  rw [fits_cells hf]
  cases t <;> simp only [Ty.fits] at hf <;> (try split at hf) <;> simp_all
  all_goals first
    | (rename_i hu; obtain ⟨z, hz, _⟩ := DataW.trod_int hu h; rw [hz]; rfl)
    | (rename_i hu; obtain ⟨z, hz, _⟩ := DataW.trod_bool hu h; rw [hz]; rfl)
    | (rename_i hu; rcases open_slice hu h with ⟨hcs, _⟩ | ⟨a, n, c, m, n', D, Pl, hcs, _⟩ <;> (rw [hcs]; rfl))
    | (rename_i hu; obtain ⟨_, _, _, _, hl, _⟩ := DataW.trod_struct hu h; rw [hl]; exact hf.1.1)
/-- An argument that came in, of any shape. -/
theorem open_any {w : World} {base : Nat} {spare : Nat → Bool} {held : Bool} {t : Ty} {T : TypeId} (hf : t.fits P [(T, 0)] = true) {v : Value} {d : DataW H} {ps : List MemPlace} (h : DataW.Trod enc P w base spare held T v d ps) :
    ∃ x : t.Den, t.Is w (fun b => b < w.heap.size) x v.cells.toList := by
  obtain ⟨fuel, h⟩ := h
  have hl := trod_len hf h
  obtain ⟨x, hx⟩ := open_uni (enc := enc) (w := w) (base := base) (spare := spare) (held := held) t [(T, 0)] v.cells.toList hf (fun T' o' hm => by
    simp at hm
    obtain ⟨rfl, rfl⟩ := hm
    exact ⟨fuel, _, by rw [List.drop_zero, List.take_of_length_le (by omega)]; exact h⟩)
  refine ⟨x, ?_⟩
  simp only [List.head?_cons, Option.map_some, Option.getD_some, List.drop_zero] at hx
  rw [List.take_of_length_le (by rw [hl, fits_cells hf]; exact Nat.le_refl _)] at hx
  exact hx.low
end Go.Px
namespace Go.Proofs.YtkknkdjdneldlaaGreat
set_option maxRecDepth 20000
open Go.RowKit Go.Px
theorem laidOut : laidOutB Tryz.prog = true := by kernel_rfl
end Go.Proofs.YtkknkdjdneldlaaGreat
namespace Go.Px
set_option maxRecDepth 20000
open Go.RowKit Go.ChangeShapes Go.WideShapes Go.ChangeAt Go.Joins Go.Deep
variable {H : Type} {enc : TypeId × Value → H} {P : Program}
theorem lo_of_has {w : World} {r : Reach} {b0 : Nat} {a : Addr} {e : TypeId} {n : Nat} (h : w.has P r b0 a e n) : a.block < w.heap.size := by
  obtain ⟨_, _, row, cells, hs, _⟩ := h
  unfold World.shape? at hs
  split at hs
  · rename_i hh; exact (Array.getElem?_eq_some_iff.1 hh).1
  · cases hs
theorem lo_of_ok {w : World} {r : Reach} {b0 : Nat} {t e : TypeId} {A : Option Addr} {n c : Nat} (ht : P.underlying t = some (.slice e)) (h : Value.okWide P w r b0 t (.slice A n c)) : Lo w.heap.size A := by
  intro a ha
  subst ha
  simp only [Value.okWide, ht, Cell.okWide, Cell.ok] at h
  exact lo_of_has h.2.2
theorem bytes_reach {w : World} {base : Nat} {spare : Nat → Bool} {held : Bool} {t e : TypeId} (ht : P.underlying t = some (.slice e)) (he : P.underlying e = some (.int .u8)) (hc : P.cellsOf e = 1) (hb : P.bytesOf e = 1)
    {A : Option Addr} {n c : Nat} {d : DataW H} {ps : List MemPlace} (h : DataW.Trod enc P w base spare held t (.slice A n c) d ps) (hw : ∀ x ∈ d.weights P t, x ≤ reachBytes) : n ≤ 140737488351232 := by
  obtain ⟨fuel, hf⟩ := h
  rcases Go.ChangeShapes.open_ints ht he hc hf with ⟨hcs, _⟩ | ⟨a, len, cap, zs, hcs, _, hlc, _, hlen, hx, _⟩
  · simp [Value.cells] at hcs
    omega
  · simp [Value.cells] at hcs
    obtain ⟨rfl, rfl, rfl⟩ := hcs
    obtain ⟨rfl, _⟩ := Prod.mk.injEq .. ▸ hx
    have := hw ((List.length (ChangeShapes.lits (H := H) .u8 (List.take n zs)) + List.length (ChangeShapes.lits (H := H) .u8 (List.drop n zs))) * P.bytesOf e) (by simp [DataW.weights, ht])
    rw [hb] at this
    have hle : n ≤ zs.length := by rw [hlen]; split <;> omega
    simp [ChangeShapes.lits, List.length_take, List.length_drop, Nat.min_eq_left hle] at this
    have e : reachBytes = 140737488351232 := rfl
    omega
theorem weights_at {ts : List TypeId} {ds : List (DataW H)} (h : (DataW.weightsEach P ts ds).all (· ≤ reachBytes) = true) {j : Nat} {t : TypeId} {d : DataW H} (ht : ts[j]? = some t) (hd : ds[j]? = some d) : ∀ x ∈ d.weights P t, x ≤ reachBytes := fun x hx => by
  have := List.all_eq_true.1 h x (DataW.weights_mem_each ht hd x hx)
  simpa using this
end Go.Px
namespace Go.Proofs.YtkknkdjdneldlaaGreat
set_option maxRecDepth 20000
open Go.ChangeShapes Go.WideShapes Go.ChangeAt Go.RowKit Go.Px Go.Joins Go.Deep
set_option linter.unusedVariables false

set_option maxRecDepth 100000 in
theorem machineEntries_lifted (os : Os) (started : os.Started) (H : Type) (enc : TypeId × Value → H) :
    ReturnsInHanded {} Tryz.checked os 5 .any (Rows.machineEntriesSpec.pre6 enc Tryz.prog Tryz.f5 Rows.machineEntriesRow.domain false) (Rows.machineEntriesSpec.post enc Tryz.prog Tryz.f5 false true false false) := by
  refine returnsInHanded_of_change_sized (C := Tryz.checked) own started (by kernel_rfl) Tryz.func5
    (ChangeSpec.witness6 (enc := enc) (C := Tryz.checked) false ⟨#[], #[.agg #[.int .u8 0, .int .i64 0, .int .i64 0, .int .i64 0, .int .i64 0, .int .u8 0, .int .i64 0, .int .i64 0, .slice none 0 0, .slice none 0 0, .int .i64 0, .slice none 0 0], .agg #[.int .u8 0, .int .i64 0, .int .i64 0, .int .i64 0, .int .i64 0, .int .u8 0, .int .i64 0, .int .i64 0, .slice none 0 0, .slice none 0 0, .int .i64 0, .slice none 0 0], .slice none 0 0], []⟩ 8 (by kernel_rfl) (by kernel_rfl) (by kernel_rfl) (by kernel_rfl)) ?_
  intro W base args ds gs before hval0 hW _ hsz _
  have hval : ∀ (j : Nat) t v, Tryz.f5.params[j]? = some t → args[j]? = some v → Value.okWide Tryz.prog W .any base t v := hval0
  have hW' := hW
  obtain ⟨p, q, hA0, hV, rfl, hfz, hnd⟩ := hW
  have hA : DataW.TrodAll enc Tryz.prog W 0 (fun _ => true) true Tryz.f5.params.toList args.toList ds p := hA0
  rw [Tryz.params5] at hA hval
  obtain ⟨v0, l0, d0, e0, p0, q0, ha0, rfl, rfl, h0, r0⟩ := trodAll_cons hA
  obtain ⟨v1, l1, d1, e1, p1, q1, rfl, rfl, rfl, h1, r1⟩ := trodAll_cons r0
  obtain ⟨v2, l2, d2, e2, p2, q2, rfl, rfl, rfl, h2, r2⟩ := trodAll_cons r1
  obtain ⟨rfl, rfl, rfl⟩ := trodAll_nil r2
  obtain rfl : args = #[v0, v1, v2] := by cases args; simp_all
  obtain ⟨rfl, rfl⟩ := trodVars_none hV
  obtain ⟨⟨le⟩, rfl, _⟩ := okWide_struct Tryz.underlying49 (hval 0 49 v0 rfl rfl); obtain ⟨e, hx0⟩ := open_any (t := tyEntry) (T := 49) (by kernel_rfl) h0; have hy0 : tyEntry.Is _ _ e le := hx0
  obtain ⟨⟨lf⟩, rfl, _⟩ := okWide_struct Tryz.underlying49 (hval 1 49 v1 rfl rfl); obtain ⟨f, hx1⟩ := open_any (t := tyEntry) (T := 49) (by kernel_rfl) h1; have hy1 : tyEntry.Is _ _ f lf := hx1
  obtain ⟨A, m, c, bs, rfl, hn2, hnc2, hc2, hr2⟩ := open_bytes Tryz.underlying38 Tryz.underlying5 (by kernel_rfl) (hval 2 38 v2 rfl rfl) h2
  have hl1 := lo_of_ok Tryz.underlying38 (hval 2 38 _ rfl rfl)
  have hz1 := bytes_reach Tryz.underlying38 Tryz.underlying5 (by kernel_rfl) (by kernel_rfl) h2 (weights_at hsz (j := 2) rfl rfl)
  refine (machineEntries_walk A m c bs hy0 hy1 hn2 hnc2 (by omega) hc2 hr2 hl1).mono fun e W' ⟨he, hb⟩ => ?_
  subst he
  exact ⟨_, rfl, law_post laidOut rfl rfl Tryz.underlying4 (fun t ht => (show ∀ t ∈ Tryz.f5.params.toList, Tryz.prog.readableRec t = true ∧ t < Tryz.prog.types.size from by decide +kernel) t ht) hW' rfl hb⟩

theorem machineEntries_holds : Rows.MachineEntriesSaid :=
  OpenClaim.holds_of_wide 5 Tryz.f5 rfl rfl rfl rfl rfl rfl rfl ⟨rfl, rfl, rfl, rfl, rfl⟩ rfl rfl rfl rfl rfl (by kernel_rfl) Tryz.func5 (by kernel_rfl)
    (of_decide_eq_true (by kernel_rfl)) (by unfold Func.isWrapper; first | (rw [if_pos (by decide +kernel)]; kernel_rfl) | (rw [if_neg (by decide +kernel)]; exact ⟨rfl, rfl⟩))
    (fun os started H enc _ => machineEntries_lifted os started H enc)
end Go.Proofs.YtkknkdjdneldlaaGreat
