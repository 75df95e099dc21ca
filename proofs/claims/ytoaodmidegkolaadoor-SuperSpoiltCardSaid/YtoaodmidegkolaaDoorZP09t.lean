/- For every input the law SuperSpoilt returns true, and each argument reads afterwards as it read before. No condition; the package's table is as its text lays it. -/
import Derived.Laws.BitsAllLaws
import Derived.Laws.OwnMore
import Derived.Test.YtoaodmidegkolaaDoorK91
import Derived.Test.YtoaodmidegkolaaDoorK92
import Derived.Test.YtoaodmidegkolaaDoorK93
import Derived.Test.YtoaodmidegkolaaDoorK94
import Derived.Test.YtoaodmidegkolaaDoorK95
import Derived.Test.YtoaodmidegkolaaDoorK96
import Derived.Test.YtoaodmidegkolaaDoorK97
import Derived.Test.YtoaodmidegkolaaDoorK98
import Derived.Test.YtoaodmidegkolaaDoorK99
namespace Go.Px
open Go.RowKit

/-! ### hide -/
/-! ### addresses -/
/-! ### what a slice reads as: nil let in -/
section
variable {w w' : World} {A : Option Addr} {xs : List Value}
end

/-! ### rows that a call owns -/
section
variable {w w' : World} {base : Nat} {e : TypeId} {size n : Nat} {v : Value} {xs : List Value}
end

/-! ### bytes and integers -/
/-! ### facts of a slice's type -/
/-! ### append onto a row of the call's own -/
section
variable {P : Program} {w : World}
end

/-! ### places at which a walk stands still, to be led on by hand -/
section
variable {P : Program} {w : World} {ops : Array Oper} {rest : List Oper} {o : Oper} {a : Act} {Q : Exit → Act → World → Prop}
end

/-! ### a row that grows, round by round -/
section
variable {P : Program} {w wr : World} {v0 v : Value} {base e size n : Nat} {xs : List Value}
variable {ops : Array Oper} {rest : List Oper} {o : Oper} {a : Act} {Q : Exit → Act → World → Prop}
end

/-! ### a law's row from its walk -/
section
open Go.ChangeShapes Go.WideShapes Go.ChangeAt
variable {H : Type} {enc : TypeId × Value → H} {P : Program}
theorem trodAll_below (hl : laidOutB P = true) {W W' : World} (hb : Below W.heap.size W W') : ∀ {ts : List TypeId} {vs : List Value} {ds : List (DataW H)} {ps : List MemPlace},
    (∀ t ∈ ts, P.readableRec t = true ∧ t < P.types.size) → DataW.TrodAll enc P W 0 (fun _ => true) true ts vs ds ps → (∀ x ∈ ps, x.block < W.heap.size) →
    ∀ sp : Nat → Bool, (∀ p ∈ ps, sp p.block = true) → DataW.TrodAll enc P W' 0 sp true ts vs ds ps
  | [], vs, ds, ps, _, h, _, _, _ => by
    obtain ⟨rfl, rfl, rfl⟩ := trodAll_nil h
    exact trodAll_mk0
  | t :: ts, vs, ds, ps, hr, h, hlt, sp, hsp => by
    obtain ⟨v, vs', d, ds', p, q, rfl, rfl, rfl, h1, h2⟩ := trodAll_cons h
    have ht := hr t List.mem_cons_self
    refine trodAll_cons_mk ?_ (trodAll_below hl hb (fun t' ht' => hr t' (List.mem_cons_of_mem _ ht')) h2 (fun x hx => hlt x (List.mem_append_right _ hx)) sp (fun x hx => hsp x (List.mem_append_right _ hx)))
    exact WideElems.Trod_stays hl ht.1 ht.2 h1 (fun x hx => hb.same (hlt x (List.mem_append_left _ hx))) (fun x hx => hsp x (List.mem_append_left _ hx))
theorem wf_u64 {v : Int} (h : (Lit.int .u64 v).wf = true) : ∃ n : Nat, v = n ∧ n < 18446744073709551616 := by
  have hz : 0 ≤ v ∧ v ≤ 18446744073709551615 := by simpa [Lit.wf, IntKind.min, IntKind.max, IntKind.signed, IntKind.bits] using h
  exact ⟨v.toNat, by omega, by omega⟩
theorem wf_i64 {v : Int} (h : (Lit.int .i64 v).wf = true) : -9223372036854775808 ≤ v ∧ v ≤ 9223372036854775807 := by
  simpa [Lit.wf, IntKind.min, IntKind.max, IntKind.signed, IntKind.bits] using h
/-- WHAT A LAW OWES: 'it returns true, and nothing that was there has turned'. The rest of its row is the same for all laws that name no variable. -/
theorem law_post {f : Func} {s : ChangeSpec} {W W' : World} {args : Array Value} {ds gs : List (DataW H)} {before : List MemPlace} {tb : TypeId}
    (hl : laidOutB P = true) (hvars : s.vars = []) (hres : f.resultTypes = #[tb]) (htb : P.underlying tb = some .bool)
    (hr : ∀ t ∈ f.params.toList, P.readableRec t = true ∧ t < P.types.size)
    (hW : DataW.Whole enc P f.params.toList s.vars false W args.toList ds gs before)
    (hs : s.fn H (ds ++ gs) = { results := [.lit (.bool true)], args := ds, vars := [] })
    (hb : Below W.heap.size W W') : s.post enc P f false true false false W args (.bool true) W' := by
  have hW0 := hW
  obtain ⟨p, q, hA, hV, rfl, hfz, hnd⟩ := hW
  rw [hvars] at hV
  obtain ⟨rfl, rfl⟩ := trodVars_none hV
  have hlt : ∀ x ∈ p ++ [], x.block < W.heap.size := fun x hx => hW0.lt x hx
  have hold : ∀ p' ∈ p ++ [], (fun b => decide (b < W.heap.size)) p'.block = true := fun p' hp => by simpa using hlt p' hp
  refine ⟨ds, [], p ++ [], [], p, [], hW0, ?_, ?_, ?_, ?_, fun h => by cases h⟩
  · rw [hs, hres]
    exact trodAll_mk1 (shut_bool htb true)
  · rw [hs]
    exact trodAll_below hl hb hr hA (fun x hx => hlt x (List.mem_append_left _ hx)) _ (fun x hx => hold x (List.mem_append_left _ hx))
  · rw [hs, hvars]
    rfl
  · exact World.keptBut_mono (fun x hx => ⟨hx, .inr (.inl (by simpa using hx))⟩) (hb.frame (· ∈ p ++ []))
end
end Go.Px
namespace Go.Proofs.YtoaodmidegkolaaDoor
set_option maxRecDepth 20000
open Go.RowKit Go.Px
theorem laidOut : laidOutB Tryd.prog = true := by kernel_rfl
end Go.Proofs.YtoaodmidegkolaaDoor
namespace Go.Px
set_option maxRecDepth 20000
open Go.RowKit
theorem addr_add0 (g m : Nat) : (⟨g, 0, none⟩ : Addr).add m = ⟨g, m, none⟩ := by
  unfold Addr.add; split <;> simp_all

section
variable {w w' : World} {g : Nat} {vs : List Value} {T : TypeId}
end
section
variable {P : Program} {w : World} {ops : Array Oper} {rest : List Oper} {o : Oper} {a : Act} {Q : Exit → Act → World → Prop}
end
end Go.Px
namespace Go.Px
set_option maxRecDepth 20000
theorem wf_u8 {v : Int} (h : (Lit.int .u8 v).wf = true) : ∃ n : Nat, v = n ∧ n < 256 := by
  have hz : 0 ≤ v ∧ v ≤ 255 := by simpa [Lit.wf, IntKind.min, IntKind.max, IntKind.signed, IntKind.bits] using h
  exact ⟨v.toNat, by omega, by omega⟩
end Go.Px
namespace Go.Px
set_option maxRecDepth 20000
open Go.RowKit Go.ChangeShapes
variable {H : Type} {enc : TypeId × Value → H} {P : Program}
theorem open_bytesF {w : World} {base : Nat} {spare : Nat → Bool} {held : Bool} {t e : TypeId} (ht : P.underlying t = some (.slice e)) (he : P.underlying e = some (.int .u8)) (hc : P.cellsOf e = 1)
    {v : Value} {fuel : Nat} {x : DataW H × List MemPlace} (hf : DataW.trod enc P w base spare held fuel t [v] = some x) :
    ∃ (A : Option Addr) (n c : Nat) (bs : List UInt8), v = .slice A n c ∧ bs.length = n ∧ n ≤ c ∧ c ≤ 9223372036854775807 ∧ Rd w A (bys bs) := by
  rcases Go.ChangeShapes.open_ints ht he hc hf with ⟨hcs, _⟩ | ⟨a, len, cap, zs, hcs, _, hlc, hcm, hlen, _, hcell, hwf⟩
  · obtain rfl : v = .slice none 0 0 := by simpa using hcs
    exact ⟨none, 0, 0, [], rfl, rfl, by omega, by omega, Rd.nil⟩
  · obtain rfl : v = .slice (some a) len cap := by simpa using hcs
    have hle : len ≤ zs.length := by rw [hlen]; split <;> omega
    refine ⟨some a, len, cap, (zs.take len).map fun z => UInt8.ofNat z.toNat, rfl, by simp [Nat.min_eq_left hle], hlc, by unfold maxLen at hcm; omega, Rd.of_some fun j u hu => ?_⟩
    have hj : j < len := by
      have := (List.getElem?_eq_some_iff.1 hu).1
      simp [bys] at this; omega
    have hjz : j < zs.length := by omega
    have hw := hwf zs[j] (List.getElem_mem hjz)
    have hz : 0 ≤ zs[j] ∧ zs[j] ≤ 255 := by simpa [Lit.wf, IntKind.min, IntKind.max, IntKind.signed, IntKind.bits] using hw
    rw [hcell j hjz]
    simp only [bys, List.map_map, List.getElem?_map, List.getElem?_take, if_pos hj, List.getElem?_eq_getElem hjz, Option.map_some, Function.comp] at hu
    rw [← hu]
    simp only [List.getD, List.getElem?_eq_getElem hjz, Option.getD_some]
    congr 2
    have : (UInt8.ofNat (zs[j]).toNat).toNat = (zs[j]).toNat := by
      simp; omega
    rw [this]; omega
end Go.Px
namespace Go.Px
open Go.RowKit Go.ChangeShapes Go.WideShapes Go.ChangeAt Go.Deep
section
variable {w w' : World} {Q Q' : Nat → Prop} {t : Ty} {x : t.Den} {cs : List Value}
variable {xs : List t.Den} {vs : List Value}
end
theorem list_9 {cs : List Value} (h : cs.length = 9) : ∃ c0 c1 c2 c3 c4 c5 c6 c7 c8, cs = [c0, c1, c2, c3, c4, c5, c6, c7, c8] := by
  match cs, h with
  | [c0, c1, c2, c3, c4, c5, c6, c7, c8], _ => exact ⟨c0, c1, c2, c3, c4, c5, c6, c7, c8, rfl⟩
/-! ### those that came in -/
/-- Does a type have a shape? (A list of fields, each with the place of its first cell.) -/
def Ty.fits (P : Program) : Ty → List (TypeId × Nat) → Bool
  | .i64, [(T, _)] => match P.underlying T with | some (.int .i64) => P.cellsOf T == 1 | _ => false
  | .u8, [(T, _)] => match P.underlying T with | some (.int .u8) => P.cellsOf T == 1 | _ => false
  | .u32, [(T, _)] => match P.underlying T with | some (.int .u32) => P.cellsOf T == 1 | _ => false
  | .u64, [(T, _)] => match P.underlying T with | some (.int .u64) => P.cellsOf T == 1 | _ => false
  | .bool, [(T, _)] => match P.underlying T with | some .bool => P.cellsOf T == 1 | _ => false
  | .bytes, [(T, _)] => match P.underlying T with | some (.slice E) => (match P.underlying E with | some (.int .u8) => P.cellsOf E == 1 | _ => false) && P.cellsOf T == 1 | _ => false
  | .row t, [(T, _)] => match P.underlying T with | some (.slice E) => (P.cellsOf E == t.n && t.fits P [(E, 0)]) && P.cellsOf T == 1 | _ => false
  | .pr a b, (T, o) :: (T2, o2) :: L => (o2 == o + a.n && a.fits P [(T, o)]) && b.fits P ((T2, o2) :: L)
  | .st t, [(T, _)] => match P.underlying T with | some (.struct fs) => (P.cellsOf T == t.n && ((fs.toList.map fun f => (f.type, f.offset)).head?.map (·.2) == some 0)) && t.fits P (fs.toList.map fun f => (f.type, f.offset)) | _ => false
  | _, _ => false
variable {H : Type} {enc : TypeId × Value → H} {P : Program}
theorem wf_u32' {z : Int} (h : (Lit.int .u32 z).wf = true) : ∃ n : Nat, z = n ∧ n < 4294967296 := by
  have : 0 ≤ z ∧ z ≤ 4294967295 := by simpa [Lit.wf, IntKind.min, IntKind.max, IntKind.signed, IntKind.bits] using h
  exact ⟨z.toNat, by omega, by omega⟩
theorem fits_cells {P : Program} : ∀ {t : Ty} {T : TypeId} {o : Nat}, t.fits P [(T, o)] = true → P.cellsOf T = t.n := by
  intro t T o h
  cases t <;> simp only [Ty.fits] at h <;> (try split at h) <;> simp_all [Ty.n]
def TrodAt (enc : TypeId × Value → H) (P : Program) (w : World) (base : Nat) (spare : Nat → Bool) (held : Bool) (cs : List Value) (T : TypeId) (o : Nat) : Prop := ∃ fuel x, DataW.trod enc P w base spare held fuel T ((cs.drop o).take (P.cellsOf T)) = some x
theorem one1_of {p : Value → Prop} {cs : List Value} {c : Value} (h : cs = [c]) (hp : p c) : one1 p cs := by subst h; exact hp
def Ty.dft : (t : Ty) → t.Den
  | .i64 => (0 : Int)
  | .u8 | .u32 | .u64 => (0 : Nat)
  | .bool => false
  | .bytes => []
  | .row _ => []
  | .pr a b => (a.dft, b.dft)
  | .st t => t.dft
theorem rows_build {w : World} {Q : Nat → Prop} {t : Ty} (g : Nat → t.Den) (gs : Nat → List Value) : ∀ (n : Nat), (∀ i, i < n → t.Is w Q (g i) (gs i)) → t.Rows w Q ((List.range n).map g) ((List.range n).flatMap gs)
  | 0, _ => Ty.Rows.nil
  | n + 1, h => by
    rw [List.range_succ, List.map_append, List.flatMap_append]
    refine (rows_build g gs n (fun i hi => h i (by omega))).append ?_
    have := Ty.Rows.one (h n (by omega))
    simpa using this
theorem rd_build {w : World} {a : Addr} {m : Nat} {gs : Nat → List Value} : ∀ (n : Nat), (∀ i, i < n → (gs i).length = m) → (∀ i, i < n → ∀ r (u : Value), (gs i)[r]? = some u → w.cell? (a.add (m * i + r)) = some u) → Rd w (some a) ((List.range n).flatMap gs)
  | 0, _, _ => Rd.nil
  | n + 1, hl, h => by
    have ih := rd_build (w := w) (a := a) n (fun i hi => hl i (by omega)) (fun i hi => h i (by omega))
    have hlen : ((List.range n).flatMap gs).length = m * n := by
      clear ih
      induction n with
      | zero => simp
      | succ n ih =>
        rw [List.range_succ, List.flatMap_append, List.length_append, ih (fun i hi => hl i (by omega)) (fun i hi => h i (by omega))]
        simp [hl n (by omega), Nat.mul_succ]
    rw [List.range_succ, List.flatMap_append]
    refine Rd.of_some fun j u hu => ?_
    by_cases hj : j < ((List.range n).flatMap gs).length
    · rw [List.getElem?_append_left hj] at hu
      exact ih.at_ hu
    · rw [List.getElem?_append_right (by omega)] at hu
      simp only [List.flatMap_cons, List.flatMap_nil, List.append_nil] at hu
      have := h n (by omega) _ u hu
      rw [hlen] at this hj
      rwa [show m * n + (j - m * n) = j by omega] at this
theorem open_uni {w : World} {base : Nat} {spare : Nat → Bool} {held : Bool} : ∀ (t : Ty) (L : List (TypeId × Nat)) (cs : List Value), t.fits P L = true → (∀ T o, (T, o) ∈ L → TrodAt enc P w base spare held cs T o) →
    ∃ x : t.Den, t.Is w (fun _ => True) x ((cs.drop ((L.head?.map (·.2)).getD 0)).take t.n)
  | .i64, [(T, o)], cs, hf, h => by
    simp only [Ty.fits] at hf
    split at hf <;> simp_all
    rename_i hu
    obtain ⟨fuel, x, hx⟩ := h
    rw [hf] at hx
    obtain ⟨z, hz, _, hw⟩ := DataW.trod_int hu hx
    have := wf_i64 hw
    exact ⟨z, one1_of hz ⟨rfl, this.1, this.2⟩⟩
  | .u8, [(T, o)], cs, hf, h => by
    simp only [Ty.fits] at hf
    split at hf <;> simp_all
    rename_i hu
    obtain ⟨fuel, x, hx⟩ := h
    rw [hf] at hx
    obtain ⟨z, hz, _, hw⟩ := DataW.trod_int hu hx
    obtain ⟨n, rfl, hn⟩ := wf_u8 hw
    exact ⟨n, one1_of hz ⟨rfl, hn⟩⟩
  | .u32, [(T, o)], cs, hf, h => by
    simp only [Ty.fits] at hf
    split at hf <;> simp_all
    rename_i hu
    obtain ⟨fuel, x, hx⟩ := h
    rw [hf] at hx
    obtain ⟨z, hz, _, hw⟩ := DataW.trod_int hu hx
    obtain ⟨n, rfl, hn⟩ := wf_u32' hw
    exact ⟨n, one1_of hz ⟨rfl, hn⟩⟩
  | .u64, [(T, o)], cs, hf, h => by
    simp only [Ty.fits] at hf
    split at hf <;> simp_all
    rename_i hu
    obtain ⟨fuel, x, hx⟩ := h
    rw [hf] at hx
    obtain ⟨z, hz, _, hw⟩ := DataW.trod_int hu hx
    obtain ⟨n, rfl, hn⟩ := wf_u64 hw
    exact ⟨n, one1_of hz ⟨rfl, hn⟩⟩
  | .bool, [(T, o)], cs, hf, h => by
    simp only [Ty.fits] at hf
    split at hf <;> simp_all
    rename_i hu
    obtain ⟨fuel, x, hx⟩ := h
    rw [hf] at hx
    obtain ⟨z, hz, _⟩ := DataW.trod_bool hu hx
    have hzz : Ty.Is w (fun _ => True) .bool z (List.take (Ty.n .bool) (List.drop o cs)) := one1_of hz rfl
    cases z
    · exact .inl hzz
    · exact .inr hzz
  | .bytes, [(T, o)], cs, hf, h => by
    simp only [Ty.fits] at hf
    split at hf <;> simp_all
    rename_i E hu
    obtain ⟨h1, h2⟩ := hf
    split at h1 <;> simp_all
    rename_i he
    obtain ⟨fuel, x, hx⟩ := h
    rw [h2] at hx
    have hx' := hx
    rcases Go.ChangeShapes.open_ints hu he h1 hx with ⟨hcs, _⟩ | ⟨a, len, cap, zs, hcs, _⟩
    · rw [hcs] at hx'
      obtain ⟨A, n, c, bs, hv, q1, q2, q3, q4⟩ := open_bytesF hu he h1 hx'
      exact ⟨bs, one1_of hcs ⟨A, n, c, hv, q1, q2, q3, q4, fun _ _ _ => trivial⟩⟩
    · rw [hcs] at hx'
      obtain ⟨A, n, c, bs, hv, q1, q2, q3, q4⟩ := open_bytesF hu he h1 hx'
      exact ⟨bs, one1_of hcs ⟨A, n, c, hv, q1, q2, q3, q4, fun _ _ _ => trivial⟩⟩
  | .row t, [(T, o)], cs, hf, h => by
    simp only [Ty.fits] at hf
    split at hf <;> simp_all
    rename_i E hu
    obtain ⟨⟨h1, h3⟩, h2⟩ := hf
    obtain ⟨fuel, x, hx⟩ := h
    rw [h2] at hx
    rcases open_slice hu hx with ⟨hcs, _⟩ | ⟨a, n, c, m, n', D, Pl, hcs, _, hlc, hcm, hm, _, hel⟩
    · exact ⟨[], one1_of hcs ⟨none, 0, 0, [], rfl, rfl, by omega, by omega, Rd.nil, fun _ _ _ => trivial, by simp, fun j y hy => by simp at hy⟩⟩
    · have hall : ∀ i, ∃ (e : t.Den) (es : List Value), i < n → es.length = t.n ∧ t.Is w (fun _ => True) e es ∧ ∀ r (u : Value), es[r]? = some u → w.cell? (a.add (t.n * i + r)) = some u := by
        intro i
        by_cases hi : i < n
        · obtain ⟨cs', hc, ht⟩ := hel i (by rw [hm]; split <;> omega)
          rw [h1] at hc
          obtain ⟨_, hcl, hat⟩ := World.cells?_some hc
          obtain ⟨e, he⟩ := open_uni t [(E, 0)] cs' h3 (fun T o hTo => by
            simp at hTo
            obtain ⟨rfl, rfl⟩ := hTo
            exact ⟨n', _, by rw [List.drop_zero, h1, List.take_of_length_le (by omega)]; exact ht⟩)
          simp only [List.head?_cons, Option.map_some, Option.getD_some, List.drop_zero] at he
          rw [List.take_of_length_le (by omega)] at he
          refine ⟨e, cs', fun _ => ⟨hcl, he, fun r u hu => ?_⟩⟩
          obtain ⟨hr, rfl⟩ := List.getElem?_eq_some_iff.1 hu
          have := hat r (by omega)
          rw [Px.add_add, Nat.mul_comm] at this
          rw [this, List.getElem?_eq_getElem hr]
        · exact ⟨t.dft, [], fun h => absurd h hi⟩
      obtain ⟨g, hg⟩ := Classical.axiomOfChoice hall
      obtain ⟨gs, hg⟩ := Classical.axiomOfChoice hg
      have hR := rows_build (w := w) (Q := fun _ => True) g gs n (fun i hi => (hg i hi).2.1)
      refine ⟨(List.range n).map g, one1_of hcs ⟨some a, n, c, (List.range n).flatMap gs, rfl, by simp, hlc, by unfold maxLen at hcm; omega, ?_, fun _ _ _ => trivial, hR⟩⟩
      exact rd_build n (fun i hi => (hg i hi).1) (fun i hi => (hg i hi).2.2)
  | .pr a b, (T, o) :: (T2, o2) :: L, cs, hf, h => by
    simp only [Ty.fits, Bool.and_eq_true, beq_iff_eq] at hf
    obtain ⟨⟨ho, h1⟩, h2⟩ := hf
    obtain ⟨x, hx⟩ := open_uni a [(T, o)] cs h1 (fun T' o' hm => h T' o' (by simp at hm; simp [hm]))
    obtain ⟨y, hy⟩ := open_uni b ((T2, o2) :: L) cs h2 (fun T' o' hm => h T' o' (List.mem_cons_of_mem _ hm))
    refine ⟨(x, y), ?_, ?_⟩
    · show a.Is w _ x _
      simp only [List.head?_cons, Option.map_some, Option.getD_some] at hx ⊢
      rw [List.take_take, Nat.min_eq_left (by show a.n ≤ a.n + b.n; omega)]
      exact hx
    · show b.Is w _ y _
      simp only [List.head?_cons, Option.map_some, Option.getD_some] at hy ⊢
      rw [List.drop_take, List.drop_drop, show (Ty.pr a b).n - a.n = b.n from by show a.n + b.n - a.n = b.n; omega, ← ho]
      exact hy
  | .st t, [(T, o)], cs, hf, h => by
    simp only [Ty.fits] at hf
    split at hf <;> simp_all
    rename_i fs hu
    obtain ⟨⟨h1, h3⟩, h2⟩ := hf
    obtain ⟨fuel, x, hx⟩ := h
    obtain ⟨ys, n', _, _, hlen, hyl, hg⟩ := DataW.trod_struct hu hx
    obtain ⟨y, hy⟩ := open_uni t (fs.toList.map fun f => (f.type, f.offset)) ((cs.drop o).take (P.cellsOf T)) h2 (fun T' o' hm => by
      obtain ⟨f, hf, he⟩ := List.mem_map.1 hm
      injection he with he1 he2
      subst he1 he2
      obtain ⟨i, hi, hie⟩ := List.mem_iff_getElem.1 hf
      have hi' : i < fs.size := by simpa using hi
      have hgi := hg i f (by rw [Array.getElem?_eq_getElem hi']; simp at hie; rw [hie])
      rw [List.getElem?_eq_getElem (by rw [hyl]; exact hi')] at hgi
      exact ⟨n', _, hgi⟩)
    refine ⟨y, ?_⟩
    obtain ⟨hd, hh1, hh2⟩ := h3
    simp only [List.head?_map, hh1, Option.map_some, Option.getD_some, hh2, List.drop_zero, h1, List.take_take, Nat.min_self] at hy
    exact hy
theorem trod_len {w : World} {base : Nat} {spare : Nat → Bool} {held : Bool} {t : Ty} {T : TypeId} {o fuel : Nat} {cs : List Value} {x : DataW H × List MemPlace} (hf : t.fits P [(T, o)] = true) (h : DataW.trod enc P w base spare held fuel T cs = some x) : cs.length = P.cellsOf T := by
  rw [fits_cells hf]
  cases t <;> simp only [Ty.fits] at hf <;> (try split at hf) <;> simp_all
  all_goals first
    | (rename_i hu; obtain ⟨z, hz, _⟩ := DataW.trod_int hu h; rw [hz]; rfl)
    | (rename_i hu; obtain ⟨z, hz, _⟩ := DataW.trod_bool hu h; rw [hz]; rfl)
    | (rename_i hu; rcases open_slice hu h with ⟨hcs, _⟩ | ⟨a, n, c, m, n', D, Pl, hcs, _⟩ <;> (rw [hcs]; rfl))
    | (rename_i hu; obtain ⟨_, _, _, _, hl, _⟩ := DataW.trod_struct hu h; rw [hl]; exact hf.1.1)
/-- An argument that came in, of any shape. -/
theorem open_any {w : World} {base : Nat} {spare : Nat → Bool} {held : Bool} {t : Ty} {T : TypeId} (hf : t.fits P [(T, 0)] = true) {v : Value} {d : DataW H} {ps : List MemPlace} (h : DataW.Trod enc P w base spare held T v d ps) :
    ∃ x : t.Den, t.Is w (fun b => b < w.heap.size) x v.cells.toList := by
  obtain ⟨fuel, h⟩ := h
  have hl := trod_len hf h
  obtain ⟨x, hx⟩ := open_uni (enc := enc) (w := w) (base := base) (spare := spare) (held := held) t [(T, 0)] v.cells.toList hf (fun T' o' hm => by
    simp at hm
    obtain ⟨rfl, rfl⟩ := hm
    exact ⟨fuel, _, by rw [List.drop_zero, List.take_of_length_le (by omega)]; exact h⟩)
  refine ⟨x, ?_⟩
  simp only [List.head?_cons, Option.map_some, Option.getD_some, List.drop_zero] at hx
  rw [List.take_of_length_le (by rw [hl, fits_cells hf]; exact Nat.le_refl _)] at hx
  exact hx.low
end Go.Px
namespace Go.Px
set_option maxRecDepth 20000
open Go.RowKit
set_option linter.unusedVariables false
abbrev tySuper : Ty := .st (.pr .u64 (.pr .i64 (.pr .i64 (.pr .i64 (.pr .i64 (.pr .i64 (.pr .i64 (.pr .i64 .u32))))))))
abbrev SuperD : Type := Nat × Int × Int × Int × Int × Int × Int × Int × Nat
section
variable {w : World} {Q : Nat → Prop}
theorem Super_out {x : SuperD} {cs : List Value} (h : tySuper.Is w Q x cs) : ∃ (pSerial : Nat) (pEpoch : Int) (pView : Int) (pNormal : Int) (pTop : Int) (pBase : Int) (pArea : Int) (pStart : Int) (pChain : Nat), x = (pSerial, pEpoch, pView, pNormal, pTop, pBase, pArea, pStart, pChain) ∧ cs = [.int .u64 pSerial, .int .i64 pEpoch, .int .i64 pView, .int .i64 pNormal, .int .i64 pTop, .int .i64 pBase, .int .i64 pArea, .int .i64 pStart, .int .u32 pChain] ∧ pSerial < 18446744073709551616 ∧ -9223372036854775808 ≤ pEpoch ∧ pEpoch ≤ 9223372036854775807 ∧ -9223372036854775808 ≤ pView ∧ pView ≤ 9223372036854775807 ∧ -9223372036854775808 ≤ pNormal ∧ pNormal ≤ 9223372036854775807 ∧ -9223372036854775808 ≤ pTop ∧ pTop ≤ 9223372036854775807 ∧ -9223372036854775808 ≤ pBase ∧ pBase ≤ 9223372036854775807 ∧ -9223372036854775808 ≤ pArea ∧ pArea ≤ 9223372036854775807 ∧ -9223372036854775808 ≤ pStart ∧ pStart ≤ 9223372036854775807 ∧ pChain < 4294967296 := by
  obtain ⟨c0, c1, c2, c3, c4, c5, c6, c7, c8, rfl⟩ := list_9 (h.len : cs.length = 9)
  obtain ⟨pSerial, pEpoch, pView, pNormal, pTop, pBase, pArea, pStart, pChain⟩ := x
  obtain ⟨⟨rfl, hu_pSerial⟩, ⟨⟨rfl, h1_pEpoch, h2_pEpoch⟩, ⟨⟨rfl, h1_pView, h2_pView⟩, ⟨⟨rfl, h1_pNormal, h2_pNormal⟩, ⟨⟨rfl, h1_pTop, h2_pTop⟩, ⟨⟨rfl, h1_pBase, h2_pBase⟩, ⟨⟨rfl, h1_pArea, h2_pArea⟩, ⟨⟨rfl, h1_pStart, h2_pStart⟩, ⟨rfl, hu_pChain⟩⟩⟩⟩⟩⟩⟩⟩⟩ := h
  exact ⟨pSerial, pEpoch, pView, pNormal, pTop, pBase, pArea, pStart, pChain, rfl, rfl, hu_pSerial, h1_pEpoch, h2_pEpoch, h1_pView, h2_pView, h1_pNormal, h2_pNormal, h1_pTop, h2_pTop, h1_pBase, h2_pBase, h1_pArea, h2_pArea, h1_pStart, h2_pStart, hu_pChain⟩
end
end Go.Px
namespace Go.Px
set_option maxRecDepth 20000
/-! ### n bytes of zeros; joined sums -/
/-! ### a matrix stands for what it does -/
theorem Lin.comp {f g : Nat → Nat} (hf : Lin f) (hg : Lin g) : Lin (fun x => f (g x)) := fun a b => by
  show f (g (a ^^^ b)) = _
  rw [hg, hf]
/-! ### a burst of four bytes -/
end Go.Px
namespace Go.Px
set_option maxRecDepth 20000

theorem u8_xor_self0 (a y : UInt8) (h : a ^^^ y = a) : y = 0 := by
  have := congrArg (fun z => a ^^^ z) h
  simpa [← UInt8.xor_assoc] using this
end Go.Px
namespace Go.Proofs.YtoaodmidegkolaaDoor
set_option maxRecDepth 20000
open Go.RowKit Go.Px Go.Maps
set_option linter.unusedVariables false
theorem supB_spoilt {s : Sup} (hok : s.Ok) {j : Nat} (hj : j < 72) {y : UInt8} (hy : y ≠ (supB s).getD j 0) : sdecE ((supB s).set j y) ≠ 0 := by
  have hB : supB s = frmB 1 s.ser (bodN s.nums 8) := if_pos hok
  rw [hB] at hy ⊢
  have h8 := bodN_eight s.nums
  have h := frm_spoilt 1 s.ser (bodN s.nums 8) (by omega) j (by omega) y hy
  unfold sdecE
  rcases h with h | ⟨_, _, h⟩
  · rw [if_pos h]; exact h
  · by_cases h0 : rdE ((frmB 1 s.ser (bodN s.nums 8)).set j y) 0 ≠ 0
    · rw [if_pos h0]; exact h0
    · rw [if_neg h0, if_pos (Or.inr (by omega))]; decide
set_option maxRecDepth 20000 in
set_option maxHeartbeats 6400000 in
theorem superSpoilt_walk (s : Sup) (at_ x : Nat) (w : World) (hs : s.ser < 18446744073709551616) (hch : s.ch < 4294967296) (hat : at_ < 256) (hx : x < 256) (ht : Tab w) :
    Calls Tryd.prog 6 #[.agg s.cells.toArray, .int .u8 (at_ : Int), .int .u8 (x : Int)] w fun e w' => e = .returned (.bool true) ∧ Below w.heap.size w w' := by
  obtain ⟨w0, hw0⟩ : ∃ y, w.alloc (.cells s.cells.toArray 25) = y := ⟨_, rfl⟩
  obtain ⟨g, hg⟩ : ∃ g, w.heap.size = g := ⟨_, rfl⟩
  have hG : Blk w0 g s.cells 25 := by rw [← hw0, ← hg]; exact Blk.new w _ _
  have hb0 : Below w.heap.size w w0 := by rw [← hw0]; exact (Below.refl _ _).alloc (Nat.le_refl _) _
  have hz0 : w0.heap.size = g + 1 := by rw [← hw0, ← hg]; simp
  have HEN := hide (fun W (hW : Below w.heap.size w W) => senc_any s W hs hch (Rd.below ht hW))
  have HC2 := hide (fun W => rschk_any s W)
  have HAW := hide (awake09_any w0 (Rd.below ht hb0))
  have HT := hide (show ∀ W, Below w.heap.size w W → Tab W from fun W hW => Rd.below ht hW)
  have hsp : s.E = 0 → (supB s).length = 72 ∧ ∀ j, j < 72 → ∀ y, y ≠ (supB s).getD j 0 → sdecE ((supB s).set j y) ≠ 0 := fun he => ⟨supB_len (E_ok he), fun j hj y hy => supB_spoilt (E_ok he) hj hy⟩
  generalize s.E = er at HEN HC2 hsp
  generalize supB s = sb at HEN hsp
  obtain ⟨ser, ep, vw, nm, tp, bs, ar, st, ch⟩ := s
  have Hsp := hide hsp
  have Hw0 := hide hw0
  have Hg := hide hg
  have Hz0 := hide hz0
  clear hw0 hg hz0 ht hsp hs hch
  by_cases he : er = 0
  · subst he
    obtain ⟨hl, hsp⟩ := Hsp.out rfl
    have Hl := hide hl
    have Hsp2 := hide hsp
    rw [hl] at HEN
    by_cases hx0 : x = 0
    · subst hx0
      clear hl hsp
      go_enter Tryd.func6, Tryd.ntmps6
      go_wp2_with fail
      rw [Hw0.out]
      try rw [Hg.out]
      go_fit HAW.out
      rintro e w1 ⟨rfl, hb1⟩
      have hG1 := hG.below hb1
      have hb01 := hb0.trans (hb1.mono hb0.size)
      have y0 := Blk.cell hG1 (j := 0) rfl; have y1 := Blk.cell hG1 (j := 1) rfl; have y2 := Blk.cell hG1 (j := 2) rfl; have y3 := Blk.cell hG1 (j := 3) rfl; have y4 := Blk.cell hG1 (j := 4) rfl; have y5 := Blk.cell hG1 (j := 5) rfl; have y6 := Blk.cell hG1 (j := 6) rfl; have y7 := Blk.cell hG1 (j := 7) rfl; have y8 := Blk.cell hG1 (j := 8) rfl
      go_wp2_with fail
      go_fit (HEN.out w1 hb01)
      rintro e w2 ⟨v, rfl, hO, hb2⟩
      obtain ⟨A2, c2, rfl, _⟩ := own_out hO
      have hG2 := hG1.below hb2
      have hb02 := hb01.trans (hb2.mono hb01.size)
      clear hO y0 y1 y2 y3 y4 y5 y6 y7 y8 hG1
      have y0 := Blk.cell hG2 (j := 0) rfl; have y1 := Blk.cell hG2 (j := 1) rfl; have y2 := Blk.cell hG2 (j := 2) rfl; have y3 := Blk.cell hG2 (j := 3) rfl; have y4 := Blk.cell hG2 (j := 4) rfl; have y5 := Blk.cell hG2 (j := 5) rfl; have y6 := Blk.cell hG2 (j := 6) rfl; have y7 := Blk.cell hG2 (j := 7) rfl; have y8 := Blk.cell hG2 (j := 8) rfl
      go_wp2_with fail
      go_fit (HC2.out w2)
      rintro e w3 ⟨rfl, hb3⟩
      go_wp2
      go_ret
      exact ⟨by simp, hb02.trans (hb3.mono hb02.size)⟩
    · have qx : ((x : Int) == 0) = false := by simp; omega
      have hk : at_ % 72 < 72 := Nat.mod_lt _ (by omega)
      have hmod : ((at_ : Int) % 72) = ((at_ % 72 : Nat) : Int) := by simp
      have hmodt : ((at_ : Int).tmod 72) = ((at_ % 72 : Nat) : Int) := by rw [Int.tmod_eq_emod_of_nonneg (by omega)]; simp
      obtain ⟨j, hj⟩ : ∃ j, at_ % 72 = j := ⟨_, rfl⟩
      rw [hj] at hk hmod hmodt
      have hjl : j < sb.length := by omega
      obtain ⟨y, hy⟩ : ∃ y, sb[j] = y := ⟨_, rfl⟩
      have hgd : sb.getD j 0 = y := by rw [List.getD_eq_getElem?_getD, List.getElem?_eq_getElem hjl]; exact hy
      have hne : y ^^^ UInt8.ofNat x ≠ y := fun h => by
        have h0 := u8_xor_self0 _ _ h
        have h1 := congrArg UInt8.toNat h0
        rw [UInt8.toNat_ofNat_of_lt' hx] at h1
        exact hx0 h1
      have hbad := hsp j hk (y ^^^ UInt8.ofNat x) (by rw [hgd]; exact hne)
      have Hbad := hide hbad
      have Hmod := hide hmod
      have Hmodt := hide hmodt
      have Hjl := hide hjl
      have Hy := hide hy
      clear hl hsp hbad hmod hmodt hj hy hgd hne
      go_enter Tryd.func6, Tryd.ntmps6
      go_wp2_with fail
      rw [Hw0.out]
      try rw [Hg.out]
      go_fit HAW.out
      rintro e w1 ⟨rfl, hb1⟩
      have hG1 := hG.below hb1
      have hb01 := hb0.trans (hb1.mono hb0.size)
      have y0 := Blk.cell hG1 (j := 0) rfl; have y1 := Blk.cell hG1 (j := 1) rfl; have y2 := Blk.cell hG1 (j := 2) rfl; have y3 := Blk.cell hG1 (j := 3) rfl; have y4 := Blk.cell hG1 (j := 4) rfl; have y5 := Blk.cell hG1 (j := 5) rfl; have y6 := Blk.cell hG1 (j := 6) rfl; have y7 := Blk.cell hG1 (j := 7) rfl; have y8 := Blk.cell hG1 (j := 8) rfl
      go_wp2_with fail
      go_fit (HEN.out w1 hb01)
      rintro e X ⟨v, rfl, hO, hb2⟩
      have hb02 := hb01.trans (hb2.mono hb01.size)
      have hzw := hb01.size
      have hO' := hO
      rcases hO'.2 with ⟨_, hnn⟩ | ⟨gb, cap, cur, rfl, hbg, hg', hnc, hcm, hcs, htk⟩
      · omega
      have hcell : X.cell? ⟨gb, j, none⟩ = some (.int .u8 (y.toNat : Int)) := by
        have := hO.cells (g := gb) rfl j _ (bys_get Hjl.out)
        rwa [Hy.out, addr_add0] at this
      have hy256 := y.toNat_lt
      obtain ⟨yn, hyn⟩ : ∃ yn, y.toNat = yn := ⟨_, rfl⟩
      rw [hyn] at hcell hy256
      have hfz := hO.frozenAt j
      have hst := hO.stored j (.int .u8 (bits .xor .u8 (yn : Int) (x : Int)))
      have hset : (bys sb).set j (.int .u8 (bits .xor .u8 (yn : Int) (x : Int))) = bys (sb.set j (y ^^^ UInt8.ofNat x)) := by
        have : bits .xor .u8 (yn : Int) (x : Int) = (((y ^^^ UInt8.ofNat x).toNat : Nat) : Int) := by
          rw [u8_xor_nat _ _ (by rw [← hyn]; exact y.toNat_lt) hx, UInt8.toNat_xor, hyn, UInt8.toNat_ofNat_of_lt' hx]
        rw [this]
        simp only [bys, List.map_set]
      rw [hset] at hst
      obtain ⟨F, hFF⟩ : ∃ F, sb.set j (y ^^^ UInt8.ofNat x) = F := ⟨_, rfl⟩
      have hFl : F.length = 72 := by rw [← hFF, List.length_set, Hl.out]
      rw [hFF] at hst Hbad
      have HFl := hide hFl
      obtain ⟨Y, hY⟩ : ∃ Y, X.setCell ⟨gb, j, none⟩ (.int .u8 (bits .xor .u8 (yn : Int) (x : Int))) = Y := ⟨_, rfl⟩
      rw [hY] at hst
      obtain ⟨hoY, hgY⟩ := hst
      have hbY : Below w.heap.size w Y := hb02.grown hgY hb02.size (fun k hk => by injection hk with hk; omega)
      obtain ⟨Av, cv, hvv, _, hcv, hcmv, hrY, _⟩ := own_out hoY
      injection hvv with hv1 hv2 hv3
      subst hv1 hv3
      unfold maxLen at hcm
      have HD := hide (sdec_any (some ⟨gb, 0, none⟩) 72 cap F Y HFl.out (by omega) hnc hcm hrY (HT.out Y hbY))
      obtain ⟨DV, hDV⟩ : ∃ z, sdecV F = z := ⟨_, rfl⟩
      obtain ⟨DE, hDE⟩ : ∃ z, sdecE F = z := ⟨_, rfl⟩
      rw [hDV, hDE] at HD
      rw [hDE] at Hbad
      obtain ⟨p0, p1, p2, p3, p4, p5, p6, p7, p8⟩ := DV
      have hm1 := Hmod.out
      have hm2 := Hmodt.out
      have qd : (DE != 0) = true := by simpa using Hbad.out
      have HY := hide hY
      have hbYs := hbY.size
      clear hO hO' hcs htk hset hyn hFF hFl hv2 hgY hoY hrY hDV hDE y0 y1 y2 y3 y4 y5 y6 y7 y8 hg' hY
      go_wp2_with fail
      rw [HY.out]
      go_fit HD.out
      rintro e w5 ⟨rfl, hb5⟩
      have hb05 := hbY.trans (hb5.mono hbY.size)
      have hbX := hb05.alloc hb05.size (.cells #[.int .u64 (p0 : Int), .int .i64 p1, .int .i64 p2, .int .i64 p3, .int .i64 p4, .int .i64 p5, .int .i64 p6, .int .i64 p7, .int .u32 (p8 : Int)] 25)
      have HX := hide hbX
      clear hbX hb05 hb5
      go_wp2
      go_ret
      exact ⟨by simp, HX.out⟩
  · have q1 : (er != 0) = true := by simpa using he
    go_enter Tryd.func6, Tryd.ntmps6
    go_wp2_with fail
    rw [Hw0.out]
    try rw [Hg.out]
    go_fit HAW.out
    rintro e w1 ⟨rfl, hb1⟩
    have hG1 := hG.below hb1
    have hb01 := hb0.trans (hb1.mono hb0.size)
    have y0 := Blk.cell hG1 (j := 0) rfl; have y1 := Blk.cell hG1 (j := 1) rfl; have y2 := Blk.cell hG1 (j := 2) rfl; have y3 := Blk.cell hG1 (j := 3) rfl; have y4 := Blk.cell hG1 (j := 4) rfl; have y5 := Blk.cell hG1 (j := 5) rfl; have y6 := Blk.cell hG1 (j := 6) rfl; have y7 := Blk.cell hG1 (j := 7) rfl; have y8 := Blk.cell hG1 (j := 8) rfl
    go_wp2_with fail
    go_fit (HEN.out w1 hb01)
    rintro e w2 ⟨v, rfl, hO, hb2⟩
    obtain ⟨A2, c2, rfl, _⟩ := own_out hO
    have hG2 := hG1.below hb2
    have hb02 := hb01.trans (hb2.mono hb01.size)
    clear hO y0 y1 y2 y3 y4 y5 y6 y7 y8 hG1
    have y0 := Blk.cell hG2 (j := 0) rfl; have y1 := Blk.cell hG2 (j := 1) rfl; have y2 := Blk.cell hG2 (j := 2) rfl; have y3 := Blk.cell hG2 (j := 3) rfl; have y4 := Blk.cell hG2 (j := 4) rfl; have y5 := Blk.cell hG2 (j := 5) rfl; have y6 := Blk.cell hG2 (j := 6) rfl; have y7 := Blk.cell hG2 (j := 7) rfl; have y8 := Blk.cell hG2 (j := 8) rfl
    go_wp2_with fail
    go_fit (HC2.out w2)
    rintro e w3 ⟨rfl, hb3⟩
    go_wp2
    go_ret
    exact ⟨by simp, hb02.trans (hb3.mono hb02.size)⟩
end Go.Proofs.YtoaodmidegkolaaDoor
namespace Go.Proofs.YtoaodmidegkolaaDoor
set_option maxRecDepth 20000
open Go.ChangeShapes Go.WideShapes Go.ChangeAt Go.RowKit Go.Px Go.Deep
set_option linter.unusedVariables false

theorem superSpoilt_met (os : Os) : laidMet Tryd.prog Rows.superSpoiltRow.laid ((tabWorld os).forCall (fun _ _ => 0) ⟨#[], #[.agg #[.int .u64 0, .int .i64 0, .int .i64 0, .int .i64 0, .int .i64 0, .int .i64 0, .int .i64 0, .int .i64 0, .int .u32 0], .int .u8 0, .int .u8 0], []⟩).memory :=
  laidMet_of_run' 8 (by kernel_rfl) (by kernel_rfl)
theorem superSpoilt_reads (os : Os) {H : Type} (enc : TypeId × Value → H) : ∃ places, DataW.whole enc Tryd.prog ((tabWorld os).forCall (fun _ _ => 0) ⟨#[], #[.agg #[.int .u64 0, .int .i64 0, .int .i64 0, .int .i64 0, .int .i64 0, .int .i64 0, .int .i64 0, .int .i64 0, .int .u32 0], .int .u8 0, .int .u8 0], []⟩).memory Tryd.f6.params.toList Rows.superSpoiltSpec.vars false (#[.agg #[.int .u64 0, .int .i64 0, .int .i64 0, .int .i64 0, .int .i64 0, .int .i64 0, .int .i64 0, .int .i64 0, .int .u32 0], .int .u8 0, .int .u8 0] : Array Value).toList 8 = some ([.agg [.lit (.int .u64 0), .lit (.int .i64 0), .lit (.int .i64 0), .lit (.int .i64 0), .lit (.int .i64 0), .lit (.int .i64 0), .lit (.int .i64 0), .lit (.int .i64 0), .lit (.int .u32 0)], .lit (.int .u8 0), .lit (.int .u8 0)], [], places) :=
  ⟨[], by kernel_rfl⟩
theorem superSpoilt_contract (H : Type) (enc : TypeId × Value → H) (W : World) (base : Nat) (args : Array Value) (ds gs : List (DataW H)) (before : List MemPlace)
    (hval0 : ∀ (j : Nat) t v, Tryd.f6.params[j]? = some t → args[j]? = some v → Value.okWide Tryd.prog W .any base t v)
    (hW : DataW.Whole enc Tryd.prog Tryd.f6.params.toList Rows.superSpoiltSpec.vars false W args.toList ds gs before) (hL : laidMetH Tryd.prog Rows.superSpoiltRow.laid W) :
    Calls Tryd.prog 6 args W fun e W' => ∃ v, e = .returned v ∧ Rows.superSpoiltSpec.post enc Tryd.prog Tryd.f6 false true false false W args v W' := by
  have hT : Tab W := tab_of_laid hL
  have hval : ∀ (j : Nat) t v, Tryd.f6.params[j]? = some t → args[j]? = some v → Value.okWide Tryd.prog W .any base t v := hval0
  have hW' := hW
  obtain ⟨p, q, hA0, hV, rfl, hfz, hnd⟩ := hW
  have hA : DataW.TrodAll enc Tryd.prog W 0 (fun _ => true) true Tryd.f6.params.toList args.toList ds p := hA0
  rw [Tryd.params6] at hA hval
  obtain ⟨v0, l0, d0, e0, p0, q0, ha0, rfl, rfl, h0, r0⟩ := trodAll_cons hA
  obtain ⟨v1, l1, d1, e1, p1, q1, rfl, rfl, rfl, h1, r1⟩ := trodAll_cons r0
  obtain ⟨v2, l2, d2, e2, p2, q2, rfl, rfl, rfl, h2, r2⟩ := trodAll_cons r1
  obtain ⟨rfl, rfl, rfl⟩ := trodAll_nil r2
  obtain rfl : args = #[v0, v1, v2] := by cases args; simp_all
  obtain ⟨rfl, rfl⟩ := trodVars_none hV
  obtain ⟨⟨ls⟩, rfl, _⟩ := okWide_struct Tryd.underlying25 (hval 0 25 v0 rfl rfl); obtain ⟨s, hx0⟩ := open_any (t := tySuper) (T := 25) (by kernel_rfl) h0; have hy0 : tySuper.Is _ _ s ls := hx0
  obtain ⟨z1, rfl, rfl, rfl, w1⟩ := open_int Tryd.underlying5 (hval 1 5 v1 rfl rfl) h1
  obtain ⟨a, rfl, hu1⟩ := wf_u8 w1
  obtain ⟨z2, rfl, rfl, rfl, w2⟩ := open_int Tryd.underlying5 (hval 2 5 v2 rfl rfl) h2
  obtain ⟨x, rfl, hu2⟩ := wf_u8 w2
  obtain ⟨ser, ep, vw, nm, tp, bs', ar, st, ch, rfl, rfl, hser, _, _, _, _, _, _, _, _, _, _, _, _, _, _, hch⟩ := Super_out hy0
  refine (superSpoilt_walk ⟨ser, ep, vw, nm, tp, bs', ar, st, ch⟩ a x W hser hch hu1 hu2 hT).mono fun e W' ⟨he, hb⟩ => ?_
  subst he
  exact ⟨_, rfl, law_post laidOut rfl rfl Tryd.underlying4 (fun t ht => (show ∀ t ∈ Tryd.f6.params.toList, Tryd.prog.readableRec t = true ∧ t < Tryd.prog.types.size from by decide +kernel) t ht) hW' rfl hb⟩

set_option maxRecDepth 100000 in
theorem superSpoilt_lifted (os : Os) (started : os.Started) (H : Type) (enc : TypeId × Value → H) (F : Stop.Interp) :
    ReturnsInHanded {} Tryd.checked os 6 .any ((OpenSpec.ofChange Rows.superSpoiltSpec).preRow enc Tryd.prog Tryd.f6 Rows.superSpoiltRow.domain false Rows.superSpoiltRow.laid) (((OpenSpec.ofChange Rows.superSpoiltSpec).at F).post enc Tryd.prog Tryd.f6 false true false false) := by
  obtain ⟨places, hx⟩ := superSpoilt_reads os enc
  refine returnsInHanded_of_row (C := Tryd.checked) (s := OpenSpec.ofChange Rows.superSpoiltSpec) own started (by kernel_rfl) Tryd.func6
    (witness_row_at (enc := enc) (C := Tryd.checked) false (tabWorld os) #[.agg #[.int .u64 0, .int .i64 0, .int .i64 0, .int .i64 0, .int .i64 0, .int .i64 0, .int .i64 0, .int .i64 0, .int .u32 0], .int .u8 0, .int .u8 0] rfl (by kernel_rfl) (by kernel_rfl) (by kernel_rfl)
      (OpenSpec.preRow_of_cond 8 hx (by kernel_rfl) (fun k hk => by cases hk) (by kernel_rfl) (superSpoilt_met os))) ?_
  intro W base args ds gs before hval hW _ _ _ hL _ _
  exact superSpoilt_contract H enc W base args ds gs before hval hW hL

theorem superSpoilt_said : Rows.SuperSpoiltSaid :=
  OpenClaim.holds_of_cond 6 Tryd.f6 rfl rfl rfl rfl rfl rfl rfl ⟨rfl, rfl, rfl, rfl, rfl⟩ rfl rfl rfl rfl rfl (by kernel_rfl) Tryd.func6 (by kernel_rfl)
    (of_decide_eq_true (by kernel_rfl)) (by unfold Func.isWrapper; first | (rw [if_pos (by decide +kernel)]; kernel_rfl) | (rw [if_neg (by decide +kernel)]; exact ⟨rfl, rfl⟩))
    (fun os started H enc _ F => by rw [OpenClaim.pre_eq_preRow]; exact superSpoilt_lifted os started H enc F)

theorem superSpoilt_plain (f : FuncId) (fn : Func) (hf : Tryd.pinned.checked.prog.funcNamed "plinth/plinthlaw09.SuperSpoilt" = some f) (hfn : Tryd.pinned.checked.prog.funcs[f]? = some fn) :
    false = Tryd.pinned.checked.prog.looks [] ∧ ∀ (j : Nat) t, fn.params[j]? = some t → Tryd.pinned.checked.prog.wantsStandIn t = false := by
  obtain rfl : f = 6 := Option.some.inj ((show Tryd.prog.funcNamed "plinth/plinthlaw09.SuperSpoilt" = some 6 by kernel_rfl).symm.trans hf) |>.symm
  obtain rfl : fn = Tryd.f6 := (Option.some.inj (Tryd.func6.symm.trans hfn)).symm
  refine ⟨by kernel_rfl, fun j t ht => ?_⟩
  have hm : t ∈ Tryd.f6.params.toList := by
    have := Array.mem_of_getElem? ht
    simpa using this
  exact (show ∀ t ∈ Tryd.f6.params.toList, Tryd.prog.wantsStandIn t = false by decide +kernel) t hm

theorem superSpoilt_card : Rows.SuperSpoiltCardSaid :=
  Claim7.holds_tied_plain_at .later [] _ _ _ _ superSpoilt_said (fun _ h => by cases h) (by kernel_rfl) (fun _ h => by cases h) superSpoilt_row_tie rfl ⟨rfl, rfl⟩ (by kernel_rfl) rfl superSpoilt_plain (by kernel_rfl)
end Go.Proofs.YtoaodmidegkolaaDoor
