/- For every input the law MachineRuns returns true, and each argument reads afterwards as it read before. No condition. -/
import Derived.Deep.RegionHeldLaw
import Derived.Deep.CutRange
import Derived.Test.YtkknkdjdneldlaaGreatRows
import Derived.Test.YtkknkdjdneldlaaGreatK71
import Derived.Test.YtkknkdjdneldlaaGreatK72
import Derived.Test.YtkknkdjdneldlaaGreatK73
import Derived.Test.YtkknkdjdneldlaaGreatK74
import Derived.Test.YtkknkdjdneldlaaGreatK75
import Derived.Test.YtkknkdjdneldlaaGreatK76
import Derived.Test.YtkknkdjdneldlaaGreatK77
import Derived.Test.YtkknkdjdneldlaaGreatK78
import Derived.Test.YtkknkdjdneldlaaGreatK79
import Derived.Test.YtkknkdjdneldlaaGreatK710
import Derived.Test.YtkknkdjdneldlaaGreatK711
import Derived.Test.YtkknkdjdneldlaaGreatK712
import Derived.Test.YtkknkdjdneldlaaGreatK713
import Derived.Test.YtkknkdjdneldlaaGreatK714
import Derived.Test.YtkknkdjdneldlaaGreatK715
namespace Go.Px
open Go.RowKit

/-! ### hide -/
/-! ### addresses -/
/-! ### what a slice reads as: nil let in -/
section
variable {w w' : World} {A : Option Addr} {xs : List Value}
end

/-! ### rows that a call owns -/
section
variable {w w' : World} {base : Nat} {e : TypeId} {size n : Nat} {v : Value} {xs : List Value}
end

/-! ### bytes and integers -/
/-! ### facts of a slice's type -/
/-! ### append onto a row of the call's own -/
section
variable {P : Program} {w : World}
end

/-! ### places at which a walk stands still, to be led on by hand -/
section
variable {P : Program} {w : World} {ops : Array Oper} {rest : List Oper} {o : Oper} {a : Act} {Q : Exit → Act → World → Prop}
end

/-! ### a row that grows, round by round -/
section
variable {P : Program} {w wr : World} {v0 v : Value} {base e size n : Nat} {xs : List Value}
variable {ops : Array Oper} {rest : List Oper} {o : Oper} {a : Act} {Q : Exit → Act → World → Prop}
end

/-! ### a law's row from its walk -/
section
open Go.ChangeShapes Go.WideShapes Go.ChangeAt
variable {H : Type} {enc : TypeId × Value → H} {P : Program}
theorem trodAll_below (hl : laidOutB P = true) {W W' : World} (hb : Below W.heap.size W W') : ∀ {ts : List TypeId} {vs : List Value} {ds : List (DataW H)} {ps : List MemPlace},
    (∀ t ∈ ts, P.readableRec t = true ∧ t < P.types.size) → DataW.TrodAll enc P W 0 (fun _ => true) true ts vs ds ps → (∀ x ∈ ps, x.block < W.heap.size) →
    ∀ sp : Nat → Bool, (∀ p ∈ ps, sp p.block = true) → DataW.TrodAll enc P W' 0 sp true ts vs ds ps
  | [], vs, ds, ps, _, h, _, _, _ => by
    obtain ⟨rfl, rfl, rfl⟩ := trodAll_nil h
    exact trodAll_mk0
  | t :: ts, vs, ds, ps, hr, h, hlt, sp, hsp => by
    obtain ⟨v, vs', d, ds', p, q, rfl, rfl, rfl, h1, h2⟩ := trodAll_cons h
    have ht := hr t List.mem_cons_self
    refine trodAll_cons_mk ?_ (trodAll_below hl hb (fun t' ht' => hr t' (List.mem_cons_of_mem _ ht')) h2 (fun x hx => hlt x (List.mem_append_right _ hx)) sp (fun x hx => hsp x (List.mem_append_right _ hx)))
    exact WideElems.Trod_stays hl ht.1 ht.2 h1 (fun x hx => hb.same (hlt x (List.mem_append_left _ hx))) (fun x hx => hsp x (List.mem_append_left _ hx))
theorem wf_u64 {v : Int} (h : (Lit.int .u64 v).wf = true) : ∃ n : Nat, v = n ∧ n < 18446744073709551616 := by
  have hz : 0 ≤ v ∧ v ≤ 18446744073709551615 := by simpa [Lit.wf, IntKind.min, IntKind.max, IntKind.signed, IntKind.bits] using h
  exact ⟨v.toNat, by omega, by omega⟩
theorem wf_i64 {v : Int} (h : (Lit.int .i64 v).wf = true) : -9223372036854775808 ≤ v ∧ v ≤ 9223372036854775807 := by
  simpa [Lit.wf, IntKind.min, IntKind.max, IntKind.signed, IntKind.bits] using h
/-- WHAT A LAW OWES: 'it returns true, and nothing that was there has turned'. The rest of its row is the same for all laws that name no variable. -/
theorem law_post {f : Func} {s : ChangeSpec} {W W' : World} {args : Array Value} {ds gs : List (DataW H)} {before : List MemPlace} {tb : TypeId}
    (hl : laidOutB P = true) (hvars : s.vars = []) (hres : f.resultTypes = #[tb]) (htb : P.underlying tb = some .bool)
    (hr : ∀ t ∈ f.params.toList, P.readableRec t = true ∧ t < P.types.size)
    (hW : DataW.Whole enc P f.params.toList s.vars false W args.toList ds gs before)
    (hs : s.fn H (ds ++ gs) = { results := [.lit (.bool true)], args := ds, vars := [] })
    (hb : Below W.heap.size W W') : s.post enc P f false true false false W args (.bool true) W' := by
  have hW0 := hW
  obtain ⟨p, q, hA, hV, rfl, hfz, hnd⟩ := hW
  rw [hvars] at hV
  obtain ⟨rfl, rfl⟩ := trodVars_none hV
  have hlt : ∀ x ∈ p ++ [], x.block < W.heap.size := fun x hx => hW0.lt x hx
  have hold : ∀ p' ∈ p ++ [], (fun b => decide (b < W.heap.size)) p'.block = true := fun p' hp => by simpa using hlt p' hp
  refine ⟨ds, [], p ++ [], [], p, [], hW0, ?_, ?_, ?_, ?_, fun h => by cases h⟩
  · rw [hs, hres]
    exact trodAll_mk1 (shut_bool htb true)
  · rw [hs]
    exact trodAll_below hl hb hr hA (fun x hx => hlt x (List.mem_append_left _ hx)) _ (fun x hx => hold x (List.mem_append_left _ hx))
  · rw [hs, hvars]
    rfl
  · exact World.keptBut_mono (fun x hx => ⟨hx, .inr (.inl (by simpa using hx))⟩) (hb.frame (· ∈ p ++ []))
end
end Go.Px
namespace Go.Px
set_option maxRecDepth 20000
theorem wf_u8 {v : Int} (h : (Lit.int .u8 v).wf = true) : ∃ n : Nat, v = n ∧ n < 256 := by
  have hz : 0 ≤ v ∧ v ≤ 255 := by simpa [Lit.wf, IntKind.min, IntKind.max, IntKind.signed, IntKind.bits] using h
  exact ⟨v.toNat, by omega, by omega⟩
end Go.Px
namespace Go.Px
set_option maxRecDepth 20000
open Go.RowKit Go.ChangeShapes
variable {H : Type} {enc : TypeId × Value → H} {P : Program}
theorem open_bytesF {w : World} {base : Nat} {spare : Nat → Bool} {held : Bool} {t e : TypeId} (ht : P.underlying t = some (.slice e)) (he : P.underlying e = some (.int .u8)) (hc : P.cellsOf e = 1)
    {v : Value} {fuel : Nat} {x : DataW H × List MemPlace} (hf : DataW.trod enc P w base spare held fuel t [v] = some x) :
    ∃ (A : Option Addr) (n c : Nat) (bs : List UInt8), v = .slice A n c ∧ bs.length = n ∧ n ≤ c ∧ c ≤ 9223372036854775807 ∧ Rd w A (bys bs) := by
  rcases Go.ChangeShapes.open_ints ht he hc hf with ⟨hcs, _⟩ | ⟨a, len, cap, zs, hcs, _, hlc, hcm, hlen, _, hcell, hwf⟩
  · obtain rfl : v = .slice none 0 0 := by simpa using hcs
    exact ⟨none, 0, 0, [], rfl, rfl, by omega, by omega, Rd.nil⟩
  · obtain rfl : v = .slice (some a) len cap := by simpa using hcs
    have hle : len ≤ zs.length := by rw [hlen]; split <;> omega
    refine ⟨some a, len, cap, (zs.take len).map fun z => UInt8.ofNat z.toNat, rfl, by simp [Nat.min_eq_left hle], hlc, by unfold maxLen at hcm; omega, Rd.of_some fun j u hu => ?_⟩
    have hj : j < len := by
      have := (List.getElem?_eq_some_iff.1 hu).1
      simp [bys] at this; omega
    have hjz : j < zs.length := by omega
    have hw := hwf zs[j] (List.getElem_mem hjz)
    have hz : 0 ≤ zs[j] ∧ zs[j] ≤ 255 := by simpa [Lit.wf, IntKind.min, IntKind.max, IntKind.signed, IntKind.bits] using hw
    rw [hcell j hjz]
    simp only [bys, List.map_map, List.getElem?_map, List.getElem?_take, if_pos hj, List.getElem?_eq_getElem hjz, Option.map_some, Function.comp] at hu
    rw [← hu]
    simp only [List.getD, List.getElem?_eq_getElem hjz, Option.getD_some]
    congr 2
    have : (UInt8.ofNat (zs[j]).toNat).toNat = (zs[j]).toNat := by
      simp; omega
    rw [this]; omega
end Go.Px
namespace Go.Px
open Go.RowKit Go.ChangeShapes Go.WideShapes Go.ChangeAt Go.Deep
section
variable {w w' : World} {Q Q' : Nat → Prop} {t : Ty} {x : t.Den} {cs : List Value}
variable {xs : List t.Den} {vs : List Value}
/-- .. where they lie, in a slice that begins at a: the walk writes the first one's address so, and the others' .. -/
theorem el_0 {a : Addr} (hat : ∀ (j : Nat) (u : Value), vs[j]? = some u → w'.cell? (a.add j) = some u) {n k : Nat} {u : Value} (h : vs[n * k + 0]? = some u) : w'.cell? (a.add (k * n)) = some u := by
  rw [Nat.mul_comm]; exact hat _ _ h
theorem el_S {a : Addr} (hat : ∀ (j : Nat) (u : Value), vs[j]? = some u → w'.cell? (a.add j) = some u) {n k i : Nat} {u : Value} (h : vs[n * k + (i + 1)]? = some u) : w'.cell? ⟨(a.add (k * n)).block, (a.add (k * n)).off + (i + 1), none⟩ = some u := by
  have := hat _ _ h
  have e : a.add (n * k + (i + 1)) = ⟨(a.add (k * n)).block, (a.add (k * n)).off + (i + 1), none⟩ := by
    unfold Addr.add
    rw [if_neg (by omega)]
    split
    · rename_i h0
      rw [Nat.mul_comm] at h0
      rw [h0, Nat.zero_add]
    · show (⟨a.block, a.off + (n * k + (i + 1)), none⟩ : Addr) = ⟨a.block, a.off + k * n + (i + 1), none⟩
      rw [Nat.mul_comm, Nat.add_assoc]
  rw [← e]; exact this
end
/-! ### those that came in -/
/-- Does a type have a shape? (A list of fields, each with the place of its first cell.) -/
def Ty.fits (P : Program) : Ty → List (TypeId × Nat) → Bool
  | .i64, [(T, _)] => match P.underlying T with | some (.int .i64) => P.cellsOf T == 1 | _ => false
  | .u8, [(T, _)] => match P.underlying T with | some (.int .u8) => P.cellsOf T == 1 | _ => false
  | .u32, [(T, _)] => match P.underlying T with | some (.int .u32) => P.cellsOf T == 1 | _ => false
  | .u64, [(T, _)] => match P.underlying T with | some (.int .u64) => P.cellsOf T == 1 | _ => false
  | .bool, [(T, _)] => match P.underlying T with | some .bool => P.cellsOf T == 1 | _ => false
  | .bytes, [(T, _)] => match P.underlying T with | some (.slice E) => (match P.underlying E with | some (.int .u8) => P.cellsOf E == 1 | _ => false) && P.cellsOf T == 1 | _ => false
  | .row t, [(T, _)] => match P.underlying T with | some (.slice E) => (P.cellsOf E == t.n && t.fits P [(E, 0)]) && P.cellsOf T == 1 | _ => false
  | .pr a b, (T, o) :: (T2, o2) :: L => (o2 == o + a.n && a.fits P [(T, o)]) && b.fits P ((T2, o2) :: L)
  | .st t, [(T, _)] => match P.underlying T with | some (.struct fs) => (P.cellsOf T == t.n && ((fs.toList.map fun f => (f.type, f.offset)).head?.map (·.2) == some 0)) && t.fits P (fs.toList.map fun f => (f.type, f.offset)) | _ => false
  | _, _ => false
variable {H : Type} {enc : TypeId × Value → H} {P : Program}
theorem wf_u32' {z : Int} (h : (Lit.int .u32 z).wf = true) : ∃ n : Nat, z = n ∧ n < 4294967296 := by
  have : 0 ≤ z ∧ z ≤ 4294967295 := by simpa [Lit.wf, IntKind.min, IntKind.max, IntKind.signed, IntKind.bits] using h
  exact ⟨z.toNat, by omega, by omega⟩
theorem fits_cells {P : Program} : ∀ {t : Ty} {T : TypeId} {o : Nat}, t.fits P [(T, o)] = true → P.cellsOf T = t.n := by
  intro t T o h
  cases t <;> simp only [Ty.fits] at h <;> (try split at h) <;> simp_all [Ty.n]
def TrodAt (enc : TypeId × Value → H) (P : Program) (w : World) (base : Nat) (spare : Nat → Bool) (held : Bool) (cs : List Value) (T : TypeId) (o : Nat) : Prop := ∃ fuel x, DataW.trod enc P w base spare held fuel T ((cs.drop o).take (P.cellsOf T)) = some x
theorem one1_of {p : Value → Prop} {cs : List Value} {c : Value} (h : cs = [c]) (hp : p c) : one1 p cs := by subst h; exact hp
def Ty.dft : (t : Ty) → t.Den
  | .i64 => (0 : Int)
  | .u8 | .u32 | .u64 => (0 : Nat)
  | .bool => false
  | .bytes => []
  | .row _ => []
  | .pr a b => (a.dft, b.dft)
  | .st t => t.dft
theorem rows_build {w : World} {Q : Nat → Prop} {t : Ty} (g : Nat → t.Den) (gs : Nat → List Value) : ∀ (n : Nat), (∀ i, i < n → t.Is w Q (g i) (gs i)) → t.Rows w Q ((List.range n).map g) ((List.range n).flatMap gs)
  | 0, _ => Ty.Rows.nil
  | n + 1, h => by
    rw [List.range_succ, List.map_append, List.flatMap_append]
    refine (rows_build g gs n (fun i hi => h i (by omega))).append ?_
    have := Ty.Rows.one (h n (by omega))
    simpa using this
theorem rd_build {w : World} {a : Addr} {m : Nat} {gs : Nat → List Value} : ∀ (n : Nat), (∀ i, i < n → (gs i).length = m) → (∀ i, i < n → ∀ r (u : Value), (gs i)[r]? = some u → w.cell? (a.add (m * i + r)) = some u) → Rd w (some a) ((List.range n).flatMap gs)
  | 0, _, _ => Rd.nil
  | n + 1, hl, h => by
    have ih := rd_build (w := w) (a := a) n (fun i hi => hl i (by omega)) (fun i hi => h i (by omega))
    have hlen : ((List.range n).flatMap gs).length = m * n := by
      clear ih
      induction n with
      | zero => simp
      | succ n ih =>
        rw [List.range_succ, List.flatMap_append, List.length_append, ih (fun i hi => hl i (by omega)) (fun i hi => h i (by omega))]
        simp [hl n (by omega), Nat.mul_succ]
    rw [List.range_succ, List.flatMap_append]
    refine Rd.of_some fun j u hu => ?_
    by_cases hj : j < ((List.range n).flatMap gs).length
    · rw [List.getElem?_append_left hj] at hu
      exact ih.at_ hu
    · rw [List.getElem?_append_right (by omega)] at hu
      simp only [List.flatMap_cons, List.flatMap_nil, List.append_nil] at hu
      have := h n (by omega) _ u hu
      rw [hlen] at this hj
      rwa [show m * n + (j - m * n) = j by omega] at this
theorem open_uni {w : World} {base : Nat} {spare : Nat → Bool} {held : Bool} : ∀ (t : Ty) (L : List (TypeId × Nat)) (cs : List Value), t.fits P L = true → (∀ T o, (T, o) ∈ L → TrodAt enc P w base spare held cs T o) →
    ∃ x : t.Den, t.Is w (fun _ => True) x ((cs.drop ((L.head?.map (·.2)).getD 0)).take t.n)
  | .i64, [(T, o)], cs, hf, h => by
    simp only [Ty.fits] at hf
    split at hf <;> simp_all
    rename_i hu
    obtain ⟨fuel, x, hx⟩ := h
    rw [hf] at hx
    obtain ⟨z, hz, _, hw⟩ := DataW.trod_int hu hx
    have := wf_i64 hw
    exact ⟨z, one1_of hz ⟨rfl, this.1, this.2⟩⟩
  | .u8, [(T, o)], cs, hf, h => by
    simp only [Ty.fits] at hf
    split at hf <;> simp_all
    rename_i hu
    obtain ⟨fuel, x, hx⟩ := h
    rw [hf] at hx
    obtain ⟨z, hz, _, hw⟩ := DataW.trod_int hu hx
    obtain ⟨n, rfl, hn⟩ := wf_u8 hw
    exact ⟨n, one1_of hz ⟨rfl, hn⟩⟩
  | .u32, [(T, o)], cs, hf, h => by
    simp only [Ty.fits] at hf
    split at hf <;> simp_all
    rename_i hu
    obtain ⟨fuel, x, hx⟩ := h
    rw [hf] at hx
    obtain ⟨z, hz, _, hw⟩ := DataW.trod_int hu hx
    obtain ⟨n, rfl, hn⟩ := wf_u32' hw
    exact ⟨n, one1_of hz ⟨rfl, hn⟩⟩
  | .u64, [(T, o)], cs, hf, h => by
    simp only [Ty.fits] at hf
    split at hf <;> simp_all
    rename_i hu
    obtain ⟨fuel, x, hx⟩ := h
    rw [hf] at hx
    obtain ⟨z, hz, _, hw⟩ := DataW.trod_int hu hx
    obtain ⟨n, rfl, hn⟩ := wf_u64 hw
    exact ⟨n, one1_of hz ⟨rfl, hn⟩⟩
  | .bool, [(T, o)], cs, hf, h => by
    simp only [Ty.fits] at hf
    split at hf <;> simp_all
    rename_i hu
    obtain ⟨fuel, x, hx⟩ := h
    rw [hf] at hx
    obtain ⟨z, hz, _⟩ := DataW.trod_bool hu hx
    have hzz : Ty.Is w (fun _ => True) .bool z (List.take (Ty.n .bool) (List.drop o cs)) := one1_of hz rfl
    cases z
    · exact .inl hzz
    · exact .inr hzz
  | .bytes, [(T, o)], cs, hf, h => by
    simp only [Ty.fits] at hf
    split at hf <;> simp_all
    rename_i E hu
    obtain ⟨h1, h2⟩ := hf
    split at h1 <;> simp_all
    rename_i he
    obtain ⟨fuel, x, hx⟩ := h
    rw [h2] at hx
    have hx' := hx
    rcases Go.ChangeShapes.open_ints hu he h1 hx with ⟨hcs, _⟩ | ⟨a, len, cap, zs, hcs, _⟩
    · rw [hcs] at hx'
      obtain ⟨A, n, c, bs, hv, q1, q2, q3, q4⟩ := open_bytesF hu he h1 hx'
      exact ⟨bs, one1_of hcs ⟨A, n, c, hv, q1, q2, q3, q4, fun _ _ _ => trivial⟩⟩
    · rw [hcs] at hx'
      obtain ⟨A, n, c, bs, hv, q1, q2, q3, q4⟩ := open_bytesF hu he h1 hx'
      exact ⟨bs, one1_of hcs ⟨A, n, c, hv, q1, q2, q3, q4, fun _ _ _ => trivial⟩⟩
  | .row t, [(T, o)], cs, hf, h => by
    simp only [Ty.fits] at hf
    split at hf <;> simp_all
    rename_i E hu
    obtain ⟨⟨h1, h3⟩, h2⟩ := hf
    obtain ⟨fuel, x, hx⟩ := h
    rw [h2] at hx
    rcases open_slice hu hx with ⟨hcs, _⟩ | ⟨a, n, c, m, n', D, Pl, hcs, _, hlc, hcm, hm, _, hel⟩
    · exact ⟨[], one1_of hcs ⟨none, 0, 0, [], rfl, rfl, by omega, by omega, Rd.nil, fun _ _ _ => trivial, by simp, fun j y hy => by simp at hy⟩⟩
    · have hall : ∀ i, ∃ (e : t.Den) (es : List Value), i < n → es.length = t.n ∧ t.Is w (fun _ => True) e es ∧ ∀ r (u : Value), es[r]? = some u → w.cell? (a.add (t.n * i + r)) = some u := by
        intro i
        by_cases hi : i < n
        · obtain ⟨cs', hc, ht⟩ := hel i (by rw [hm]; split <;> omega)
          rw [h1] at hc
          obtain ⟨_, hcl, hat⟩ := World.cells?_some hc
          obtain ⟨e, he⟩ := open_uni t [(E, 0)] cs' h3 (fun T o hTo => by
            simp at hTo
            obtain ⟨rfl, rfl⟩ := hTo
            exact ⟨n', _, by rw [List.drop_zero, h1, List.take_of_length_le (by omega)]; exact ht⟩)
          simp only [List.head?_cons, Option.map_some, Option.getD_some, List.drop_zero] at he
          rw [List.take_of_length_le (by omega)] at he
          refine ⟨e, cs', fun _ => ⟨hcl, he, fun r u hu => ?_⟩⟩
          obtain ⟨hr, rfl⟩ := List.getElem?_eq_some_iff.1 hu
          have := hat r (by omega)
          rw [Px.add_add, Nat.mul_comm] at this
          rw [this, List.getElem?_eq_getElem hr]
        · exact ⟨t.dft, [], fun h => absurd h hi⟩
      obtain ⟨g, hg⟩ := Classical.axiomOfChoice hall
      obtain ⟨gs, hg⟩ := Classical.axiomOfChoice hg
      have hR := rows_build (w := w) (Q := fun _ => True) g gs n (fun i hi => (hg i hi).2.1)
      refine ⟨(List.range n).map g, one1_of hcs ⟨some a, n, c, (List.range n).flatMap gs, rfl, by simp, hlc, by unfold maxLen at hcm; omega, ?_, fun _ _ _ => trivial, hR⟩⟩
      exact rd_build n (fun i hi => (hg i hi).1) (fun i hi => (hg i hi).2.2)
  | .pr a b, (T, o) :: (T2, o2) :: L, cs, hf, h => by
    simp only [Ty.fits, Bool.and_eq_true, beq_iff_eq] at hf
    obtain ⟨⟨ho, h1⟩, h2⟩ := hf
    obtain ⟨x, hx⟩ := open_uni a [(T, o)] cs h1 (fun T' o' hm => h T' o' (by simp at hm; simp [hm]))
    obtain ⟨y, hy⟩ := open_uni b ((T2, o2) :: L) cs h2 (fun T' o' hm => h T' o' (List.mem_cons_of_mem _ hm))
    refine ⟨(x, y), ?_, ?_⟩
    · show a.Is w _ x _
      simp only [List.head?_cons, Option.map_some, Option.getD_some] at hx ⊢
      rw [List.take_take, Nat.min_eq_left (by show a.n ≤ a.n + b.n; omega)]
      exact hx
    · show b.Is w _ y _
      simp only [List.head?_cons, Option.map_some, Option.getD_some] at hy ⊢
      rw [List.drop_take, List.drop_drop, show (Ty.pr a b).n - a.n = b.n from by show a.n + b.n - a.n = b.n; omega, ← ho]
      exact hy
  | .st t, [(T, o)], cs, hf, h => by
    simp only [Ty.fits] at hf
    split at hf <;> simp_all
    rename_i fs hu
    obtain ⟨⟨h1, h3⟩, h2⟩ := hf
    obtain ⟨fuel, x, hx⟩ := h
    obtain ⟨ys, n', _, _, hlen, hyl, hg⟩ := DataW.trod_struct hu hx
    obtain ⟨y, hy⟩ := open_uni t (fs.toList.map fun f => (f.type, f.offset)) ((cs.drop o).take (P.cellsOf T)) h2 (fun T' o' hm => by
      obtain ⟨f, hf, he⟩ := List.mem_map.1 hm
      injection he with he1 he2
      subst he1 he2
      obtain ⟨i, hi, hie⟩ := List.mem_iff_getElem.1 hf
      have hi' : i < fs.size := by simpa using hi
      have hgi := hg i f (by rw [Array.getElem?_eq_getElem hi']; simp at hie; rw [hie])
      rw [List.getElem?_eq_getElem (by rw [hyl]; exact hi')] at hgi
      exact ⟨n', _, hgi⟩)
    refine ⟨y, ?_⟩
    obtain ⟨hd, hh1, hh2⟩ := h3
    simp only [List.head?_map, hh1, Option.map_some, Option.getD_some, hh2, List.drop_zero, h1, List.take_take, Nat.min_self] at hy
    exact hy
theorem trod_len {w : World} {base : Nat} {spare : Nat → Bool} {held : Bool} {t : Ty} {T : TypeId} {o fuel : Nat} {cs : List Value} {x : DataW H × List MemPlace} (hf : t.fits P [(T, o)] = true) (h : DataW.trod enc P w base spare held fuel T cs = some x) : cs.length = P.cellsOf T := by
  rw [fits_cells hf]
  cases t <;> simp only [Ty.fits] at hf <;> (try split at hf) <;> simp_all
  all_goals first
    | (rename_i hu; obtain ⟨z, hz, _⟩ := DataW.trod_int hu h; rw [hz]; rfl)
    | (rename_i hu; obtain ⟨z, hz, _⟩ := DataW.trod_bool hu h; rw [hz]; rfl)
    | (rename_i hu; rcases open_slice hu h with ⟨hcs, _⟩ | ⟨a, n, c, m, n', D, Pl, hcs, _⟩ <;> (rw [hcs]; rfl))
    | (rename_i hu; obtain ⟨_, _, _, _, hl, _⟩ := DataW.trod_struct hu h; rw [hl]; exact hf.1.1)
/-- An argument that came in, of any shape. -/
theorem open_any {w : World} {base : Nat} {spare : Nat → Bool} {held : Bool} {t : Ty} {T : TypeId} (hf : t.fits P [(T, 0)] = true) {v : Value} {d : DataW H} {ps : List MemPlace} (h : DataW.Trod enc P w base spare held T v d ps) :
    ∃ x : t.Den, t.Is w (fun b => b < w.heap.size) x v.cells.toList := by
  obtain ⟨fuel, h⟩ := h
  have hl := trod_len hf h
  obtain ⟨x, hx⟩ := open_uni (enc := enc) (w := w) (base := base) (spare := spare) (held := held) t [(T, 0)] v.cells.toList hf (fun T' o' hm => by
    simp at hm
    obtain ⟨rfl, rfl⟩ := hm
    exact ⟨fuel, _, by rw [List.drop_zero, List.take_of_length_le (by omega)]; exact h⟩)
  refine ⟨x, ?_⟩
  simp only [List.head?_cons, Option.map_some, Option.getD_some, List.drop_zero] at hx
  rw [List.take_of_length_le (by rw [hl, fits_cells hf]; exact Nat.le_refl _)] at hx
  exact hx.low
end Go.Px
namespace Go.Px
set_option maxRecDepth 20000
open Go.RowKit
set_option linter.unusedVariables false
theorem row_out {w : World} {Q : Nat → Prop} {t : Ty} {xs : List t.Den} {A : Option Addr} {n c : Nat} (h : (Ty.row t).Is w Q xs [.slice A n c]) : ∃ vs, xs.length = n ∧ n ≤ c ∧ c ≤ 9223372036854775807 ∧ Rd w A vs ∧ (xs ≠ [] → ∀ a, A = some a → Q a.block) ∧ t.Rows w Q xs vs := by
  obtain ⟨A', n', c', vs, hv, h1, h2, h3, h4, h5, h6⟩ := h
  injection hv with e1 e2 e3
  subst e1 e2 e3
  exact ⟨vs, h1, h2, h3, h4, h5, h6⟩
section
variable {w : World} {Q : Nat → Prop}
end
end Go.Px
namespace Go.Proofs.YtkknkdjdneldlaaGreat
set_option maxRecDepth 20000
open Go.RowKit Go.Px
theorem laidOut : laidOutB Tryz.prog = true := by kernel_rfl
end Go.Proofs.YtkknkdjdneldlaaGreat
namespace Go.Proofs.YtkknkdjdneldlaaGreat
set_option maxRecDepth 20000
open Go.RowKit Go.Px
set_option linter.unusedVariables false
theorem eqR_self (k : Nat) (ds : List UInt8) : eqR k ds k ds = true := by unfold eqR; simp
end Go.Proofs.YtkknkdjdneldlaaGreat
namespace Go.Proofs.YtkknkdjdneldlaaGreat
set_option maxRecDepth 20000
open Go.RowKit Go.Px Go.Maps
set_option linter.unusedVariables false
theorem cell_alloc7 {w : World} {a : Addr} {u : Value} (h : w.cell? a = some u) (o : Obj) : (w.alloc o).cell? a = some u := below_cell ((Below.refl _ _).alloc (Nat.le_refl _) o) h
set_option maxRecDepth 20000 in
set_option maxHeartbeats 12800000 in
theorem machineRuns_walk (A1 : Option Addr) (n1 c1 : Nat) (es1 : List EntryD) (vs1 : List Value) (w : World) {Q : Nat → Prop} {x : StateD} {cs : List Value} (h : tyState.Is w Q x cs) (hA1 : EntsAt w w.heap.size A1 n1 es1 vs1) (hn1 : n1 ≤ 9223372036854775807) :
    Calls Tryz.prog 3 #[.agg cs.toArray, .slice A1 n1 c1] w fun x w' => x = .returned (.bool true) ∧ Below w.heap.size w w' := by
  have h' := h
  obtain ⟨sNum, sShapeBlocks, sShapeSize, sPages, sPagesA, sPagesn, sPagesc, sPagesv, sRows, sRowsA, sRowsn, sRowsc, sRowsv, sGroupEpoch, sGroupMembers, sGroupMembersA, sGroupMembersn, sGroupMembersc, sGroupMembersv, rfl, rfl, h1_sNum, h2_sNum, h1_sShapeBlocks, h2_sShapeBlocks, h1_sShapeSize, h2_sShapeSize, hl_sPages, hc_sPages, hm_sPages, hr_sPages, hq_sPages, he_sPages, hl_sRows, hc_sRows, hm_sRows, hr_sRows, hq_sRows, he_sRows, h1_sGroupEpoch, h2_sGroupEpoch, hl_sGroupMembers, hc_sGroupMembers, hm_sGroupMembers, hr_sGroupMembers, hq_sGroupMembers, he_sGroupMembers⟩ := State_out h'
  obtain ⟨w0, hw0⟩ : ∃ x, w.alloc (.cells #[.int .i64 sNum, .int .i64 sShapeBlocks, .int .i64 sShapeSize, .slice sPagesA sPagesn sPagesc, .slice sRowsA sRowsn sRowsc, .int .i64 sGroupEpoch, .slice sGroupMembersA sGroupMembersn sGroupMembersc] 30) = x := ⟨_, rfl⟩
  have hBS : Blk w0 w.heap.size [.int .i64 sNum, .int .i64 sShapeBlocks, .int .i64 sShapeSize, .slice sPagesA sPagesn sPagesc, .slice sRowsA sRowsn sRowsc, .int .i64 sGroupEpoch, .slice sGroupMembersA sGroupMembersn sGroupMembersc] 30 := by rw [← hw0]; exact Blk.new w [.int .i64 sNum, .int .i64 sShapeBlocks, .int .i64 sShapeSize, .slice sPagesA sPagesn sPagesc, .slice sRowsA sRowsn sRowsc, .int .i64 sGroupEpoch, .slice sGroupMembersA sGroupMembersn sGroupMembersc] _
  have hbw0 : Below w.heap.size w w0 := by rw [← hw0]; exact (Below.refl _ _).alloc (Nat.le_refl _) _
  have h0 := h.below hbw0
  have z0 := hbw0.size
  have Hw0 := hide hw0
  clear hw0 h'
  go_enter Tryz.func3, Tryz.ntmps3
  go_wp2_with fail
  rw [Hw0.out]
  go_fit (awake07_any w0)
  rintro x w1 ⟨rfl, hb1⟩
  have hb01 := hbw0.trans (hb1.mono hbw0.size)
  have z1 := hb1.size
  have hB1 := hBS.below hb1
  have y0 := Blk.cell hB1 (j := 0) rfl; have y1 := Blk.cell hB1 (j := 1) rfl; have y2 := Blk.cell hB1 (j := 2) rfl; have y3 := Blk.cell hB1 (j := 3) rfl; have y4 := Blk.cell hB1 (j := 4) rfl; have y5 := Blk.cell hB1 (j := 5) rfl; have y6 := Blk.cell hB1 (j := 6) rfl
  go_wp2_with fail
  go_fit (begin7_any (h0.below hb1))
  rintro x w2 (⟨rfl, hb2⟩ | ⟨f, rf, lo, rfl, hx, hM2, hR2, hlo, hb2⟩)
  · go_wp2
    go_ret
    exact ⟨rfl, hb01.trans (hb2.mono (by omega))⟩
  have hb02 := hb01.trans (hb2.mono (by omega))
  have z2 := hb2.size
  have hfit0 := fit_of hx
  obtain ⟨a0, ha0⟩ : ∃ y, MA.of (sNum, (sShapeBlocks, sShapeSize), sPages, sRows, (sGroupEpoch, sGroupMembers)) = y := ⟨_, rfl⟩
  rw [ha0] at hM2 hR2 hfit0
  obtain ⟨L0, hL0⟩ : ∃ y, w1.heap.size = y := ⟨_, rfl⟩
  rw [hL0] at hM2 hlo
  have hwL : w.heap.size ≤ L0 := by omega
  have hwlo : w.heap.size ≤ lo := by omega
  have hlow := hM2.low
  have hrlow := hR2.low
  have hwz : w.heap.size ≤ w2.heap.size := by omega
  have hW0 : ∀ b, f.W b ∨ rf.W b → w.heap.size ≤ b := fun b h2 => by
    rcases h2 with h2 | h2
    · have := hlow b h2; omega
    · have := hrlow b h2; omega
  clear hL0 y0 y1 y2 y3 y4 y5 y6
  go_wp2
  go_loopw [8] (fun iv wr => ∃ (i : Nat) (a : MA) (N : Nat), i ≤ n1 ∧ i ≤ 100 ∧ N ≤ 64 + i ∧ iv = .int .i64 i ∧ MX wr L0 rf.W f a N ∧ RMX wr lo f.W rf a ∧ a.Fit ∧ Fr (fun b => f.W b ∨ rf.W b) w2 wr ∧ Below w.heap.size w wr) (fun iv _ => n1 - (intOf iv).toNat)
  case atStart => exact ⟨0, a0, 64, by omega, by omega, by omega, rfl, hM2, hR2, hfit0, Fr.refl _ _, hb02⟩
  case round =>
    obtain ⟨i, a, N, hi1, hi2, hN, rfl, hM, hR, hfit, FW, hBw⟩ := hrel
    have zW := FW.size
    by_cases hlt : i < n1 ∧ i < 100
    · obtain ⟨hlt1, hlt2⟩ := hlt
      obtain ⟨e, p, cs, he, hAp, hI, hc⟩ := hA1.at_all hlt1
      subst hAp
      have HI := hide hI
      have hI' := (hI wr hBw).1
      obtain ⟨eKind, eNum, eView, eClient, eSerial, eOpKind, eOpAt, eOpN, eOpData, eOpDataA, eOpDatan, eOpDatac, eOpOld, eOpOldA, eOpOldn, eOpOldc, eGroupEpoch, eGroupMembers, eGroupMembersA, eGroupMembersn, eGroupMembersc, eGroupMembersv, rfl, rfl, hu_eKind, h1_eNum, h2_eNum, h1_eView, h2_eView, h1_eClient, h2_eClient, h1_eSerial, h2_eSerial, hu_eOpKind, h1_eOpAt, h2_eOpAt, h1_eOpN, h2_eOpN, hl_eOpData, hc_eOpData, hm_eOpData, hr_eOpData, hq_eOpData, hl_eOpOld, hc_eOpOld, hm_eOpOld, hr_eOpOld, hq_eOpOld, h1_eGroupEpoch, h2_eGroupEpoch, hl_eGroupMembers, hc_eGroupMembers, hm_eGroupMembers, hr_eGroupMembers, hq_eGroupMembers, he_eGroupMembers⟩ := Entry_out hI'
      have hat := (HI.out wr hBw).2
      have y0 := el_0 (n := 12) hat (hc 0 _ rfl); have y1 := el_S (n := 12) (i := 0) hat (hc 1 _ rfl); have y2 := el_S (n := 12) (i := 1) hat (hc 2 _ rfl); have y3 := el_S (n := 12) (i := 2) hat (hc 3 _ rfl); have y4 := el_S (n := 12) (i := 3) hat (hc 4 _ rfl); have y5 := el_S (n := 12) (i := 4) hat (hc 5 _ rfl); have y6 := el_S (n := 12) (i := 5) hat (hc 6 _ rfl); have y7 := el_S (n := 12) (i := 6) hat (hc 7 _ rfl); have y8 := el_S (n := 12) (i := 7) hat (hc 8 _ rfl); have y9 := el_S (n := 12) (i := 8) hat (hc 9 _ rfl); have y10 := el_S (n := 12) (i := 9) hat (hc 10 _ rfl); have y11 := el_S (n := 12) (i := 10) hat (hc 11 _ rfl)
      have PA := mapply_at hR hM hfit (HI.out wr hBw).1 hwL (by omega) hBw (by omega)
      have PB := fun (X : World) (h1 : RMX X lo f.W rf a) (h2 : MX X L0 rf.W f (MA.apply a (eKind, eNum, eView, eClient, eSerial, (eOpKind, eOpAt, eOpN, eOpData, eOpOld), (eGroupEpoch, eGroupMembers))).1 (N + 1)) (h3 : Below w.heap.size w X) (h4 : w.heap.size ≤ X.heap.size) => rapply_at h1 h2 hfit.ok (HI.out X h3).1 hwL hwlo h3 h4
      generalize MA.apply a _ = AP at PA PB
      obtain ⟨a', er, k, bs⟩ := AP
      simp only at PA PB
      have HPA := hide PA
      have HPB := hide PB
      clear hat hI hM hR PA PB
      go_wp2_with fail
      go_fit HPA.out
      rintro x w5 ⟨A5, c5, rfl, k1, k2, k3, k4, hM5, hfit5, hR5, F5, hB5⟩
      have z5 := F5.size
      have hbA : Below w5.heap.size w5 (w5.alloc (.cells #[.int .u8 k, .slice A5 bs.length c5] 40)) := (Below.refl _ _).alloc (Nat.le_refl _) _
      have hB5a : Below w.heap.size w (w5.alloc (.cells #[.int .u8 k, .slice A5 bs.length c5] 40)) := hB5.trans (hbA.mono (by omega))
      have hKA := Blk.new w5 [.int .u8 k, .slice A5 bs.length c5] 40
      have hrA := k3.below hbA
      have hnA : ¬ rf.W w5.heap.size := fun hW => by have := hR5.lts _ hW; omega
      have HP6 := hide (HPB.out _ (hR5.below hbA) (hM5.below hbA) hB5a (by have := hbA.size; omega))
      have hat := (HI.out _ hB5a).2
      have HM5 := hide hM5
      have HR5 := hide hR5
      clear k1 k2 k3 y0 y1 y2 y3 y4 y5 y6 y7 y8 y9 y10 y11 hM5 hR5
      have y0 := el_0 (n := 12) hat (hc 0 _ rfl); have y1 := el_S (n := 12) (i := 0) hat (hc 1 _ rfl); have y2 := el_S (n := 12) (i := 1) hat (hc 2 _ rfl); have y3 := el_S (n := 12) (i := 2) hat (hc 3 _ rfl); have y4 := el_S (n := 12) (i := 3) hat (hc 4 _ rfl); have y5 := el_S (n := 12) (i := 4) hat (hc 5 _ rfl); have y6 := el_S (n := 12) (i := 5) hat (hc 6 _ rfl); have y7 := el_S (n := 12) (i := 6) hat (hc 7 _ rfl); have y8 := el_S (n := 12) (i := 7) hat (hc 8 _ rfl); have y9 := el_S (n := 12) (i := 8) hat (hc 9 _ rfl); have y10 := el_S (n := 12) (i := 9) hat (hc 10 _ rfl); have y11 := el_S (n := 12) (i := 10) hat (hc 11 _ rfl)
      clear hat
      go_wp2_with fail
      go_fit HP6.out
      rintro x w6 ⟨A6, c6, rfl, m1, m2, m3, hR6, hM6, F6, hB6⟩
      have hKA6 := hKA.fr F6 hnA
      have hrA6 := hrA.fr F6 (fun _ x hx => k4 x hx)
      have FW6 := (FW.trans (F5.mono fun b hb => .inl hb)).trans ((Fr.of_below hbA).trans (F6.mono fun b hb => .inr hb))
      obtain ⟨g9, hg9⟩ : ∃ y, w5.heap.size = y := ⟨_, rfl⟩
      rw [hg9] at hKA6 ⊢
      obtain ⟨w7, hw7⟩ : ∃ y, (w6.alloc (.cells #[.int .u8 k, .slice A6 bs.length c6] 40)) = y := ⟨_, rfl⟩
      have hKB7 : Blk w7 w6.heap.size [.int .u8 k, .slice A6 bs.length c6] 40 := by rw [← hw7]; exact Blk.new w6 [.int .u8 k, .slice A6 bs.length c6] _
      have hbB : Below w6.heap.size w6 w7 := by rw [← hw7]; exact (Below.refl _ _).alloc (Nat.le_refl _) _
      have hB7 := hB6.trans (hbB.mono (by have := hB6.size; omega))
      have hKA7 := hKA6.below hbB
      have hrA7 := hrA6.below hbB
      have hrB7 := m3.below hbB
      have hM7 := hM6.below hbB
      have hR7 := hR6.below hbB
      have FW7 := hide (FW6.trans (Fr.of_below hbB))
      have z7 := hB7.size
      have Hw7 := hide hw7
      have KC := hide (show ∀ X, Below w7.heap.size w7 X → (X.cell? ⟨(p.add (i * 12)).block, (p.add (i * 12)).off + 3, none⟩ = some (.int .i64 eClient) ∧ X.cell? ⟨(p.add (i * 12)).block, (p.add (i * 12)).off + 4, none⟩ = some (.int .i64 eSerial)) from fun X hX => ⟨el_S (n := 12) (i := 2) (HI.out X (hB7.trans (hX.mono (by omega)))).2 (hc 3 _ rfl), el_S (n := 12) (i := 3) (HI.out X (hB7.trans (hX.mono (by omega)))).2 (hc 4 _ rfl)⟩)
      have PT := fun (X : World) (hX : Below w7.heap.size w7 X) => mask_by (hM7.below hX) eClient eSerial
      have PR := fun (X Z : World) (hX : Below w7.heap.size w7 X) (hZ : Below X.heap.size X Z) => rask_by (((hR7.below hX).avoid (Z := fun b => X.heap.size ≤ b) (fun b hb => hb)).below hZ) hfit5.ok eClient eSerial
      generalize askV (tmOf a'.rows) a'.rows.length eClient eSerial = V at PT PR
      obtain ⟨V1, V2, V3, V4⟩ := V
      simp only at PT PR
      have PT7 := hide PT
      have PR7 := hide PR
      have HM7 := hide hM7
      have HR7 := hide hR7
      have HF := hide hfit5
      clear y0 y1 y2 y3 y4 y5 y6 y7 y8 y9 y10 y11 m1 m2 m3 hrA hKA hKA6 hrA6 FW6 hM6 hR6 hM7 hR7 PT PR hw7 hbA hB5a hnA k4 F5 F6 hg9 hfit5
      have y3 := (KC.out w7 (Below.refl _ _)).1
      have y4 := (KC.out w7 (Below.refl _ _)).2
      go_wp2_with fail
      rw [Hw7.out]
      have S0 := KC.out w7.drew (Below.refl _ _).drew
      have KAw7 := hide (show ∀ (X : World) (o : Obj), (X.cell? ⟨(p.add (i * 12)).block, (p.add (i * 12)).off + 3, none⟩ = some (.int .i64 eClient) ∧ X.cell? ⟨(p.add (i * 12)).block, (p.add (i * 12)).off + 4, none⟩ = some (.int .i64 eSerial)) → ((X.alloc o).cell? ⟨(p.add (i * 12)).block, (p.add (i * 12)).off + 3, none⟩ = some (.int .i64 eClient) ∧ (X.alloc o).cell? ⟨(p.add (i * 12)).block, (p.add (i * 12)).off + 4, none⟩ = some (.int .i64 eSerial)) from fun X o h => ⟨cell_alloc7 h.1 o, cell_alloc7 h.2 o⟩)
      have hp7 : (p.add (i * 12)).block < w7.heap.size := by have hh := World.block_lt_of_cell? w7 _ (KC.out w7 (Below.refl _ _)).1; exact hh
      have KSw7 := hide (show ∀ (X : World) (v0 v1 : Value), (X.cell? ⟨(p.add (i * 12)).block, (p.add (i * 12)).off + 3, none⟩ = some (.int .i64 eClient) ∧ X.cell? ⟨(p.add (i * 12)).block, (p.add (i * 12)).off + 4, none⟩ = some (.int .i64 eSerial)) → (((X.setCell ⟨w7.heap.size, 0, none⟩ v0).setCell ⟨w7.heap.size, 1, none⟩ v1).cell? ⟨(p.add (i * 12)).block, (p.add (i * 12)).off + 3, none⟩ = some (.int .i64 eClient) ∧ ((X.setCell ⟨w7.heap.size, 0, none⟩ v0).setCell ⟨w7.heap.size, 1, none⟩ v1).cell? ⟨(p.add (i * 12)).block, (p.add (i * 12)).off + 4, none⟩ = some (.int .i64 eSerial)) from fun X v0 v1 h => ⟨cell_far2 v0 v1 h.1 (by show (p.add (i * 12)).block ≠ _; omega), cell_far2 v0 v1 h.2 (by show (p.add (i * 12)).block ≠ _; omega)⟩)
      go_cut [13, 14, 15] from 34 to 130 (fun s13 s14 s15 wx => ∃ (g14 : Nat) (D8 : Option Addr) (dc8 : Nat), s13 = .int .i64 V1 ∧ s14 = .pointer (some ⟨g14, 0, none⟩) ∧ s15 = .int .i64 V2 ∧ Blk wx g14 [.int .u8 V3, .slice D8 V4.length dc8] 40 ∧ Rd wx D8 (bys V4) ∧ Below w7.heap.size w7 wx)
      case first =>
        have hbdw7 : Below w7.heap.size w7 (w7.alloc (.cells #[.int .u8 0, .slice none 0 0] 40)).drew := ((Below.refl _ _).alloc (Nat.le_refl _) _).drew
        have S5w7 := KC.out _ hbdw7
        have S6w7 := KC.out (w7.alloc (.cells #[.int .u8 0, .slice none 0 0] 40)) ((Below.refl _ _).alloc (Nat.le_refl _) _)
        have bdw7 : Blk (w7.alloc (.cells #[.int .u8 0, .slice none 0 0] 40)).drew w7.heap.size [.int .u8 0, .slice none 0 0] 40 := Blk.new w7 [.int .u8 0, .slice none 0 0] _
        have edw7 : (w7.alloc (.cells #[.int .u8 0, .slice none 0 0] 40)).drew.heap.size = w7.heap.size + 1 := World.size_alloc _ _
        go_region_held_law (fun X => X.cell? ⟨(p.add (i * 12)).block, (p.add (i * 12)).off + 3, none⟩ = some (.int .i64 eClient) ∧ X.cell? ⟨(p.add (i * 12)).block, (p.add (i * 12)).off + 4, none⟩ = some (.int .i64 eSerial)) (first | with_reducible assumption | exact S5w7 | exact KAw7.out _ _ (by with_reducible assumption) | exact KSw7.out _ _ _ (by with_reducible assumption)) (first
          | (go_at_call 12; refine (PT7.out _ (Below.refl _ _).drew).mono ?_; rintro xx w9a ⟨D8, dc8, rfl, hask⟩; have hbx := (Below.refl _ w7).drew.trans hask.2.2.2.2; have Hask := hide hask; clear hask; have tkA : True := trivial; have S8w7 := KC.out _ hbx)
          | (go_at_call 12; refine (PT7.out _ hbdw7).mono ?_; rintro xx w9a ⟨D8, dc8, rfl, hask⟩; have hbx := hbdw7.trans (hask.2.2.2.2.mono hbdw7.size); have bdx := bdw7.below hask.2.2.2.2; have Hask := hide hask; clear hask; have tkB : True := trivial; have S8w7 := KC.out _ hbx; have r0 := bdx.cell (j := 0) rfl; have r1 := bdx.cell (j := 1) rfl; have q0 := bdx.frozen 0; have q1 := bdx.frozen 1))
        all_goals
          have hask := Hask.out
          have hxs := hbx.size
          first
          | (clear tkA
             have hbA : Below w9a.heap.size w9a (w9a.alloc (.cells #[.int .u8 V3, .slice D8 V4.length dc8] 40)) := (Below.refl _ _).alloc (Nat.le_refl _) _
             have hKw9 := Blk.new w9a [.int .u8 V3, .slice D8 V4.length dc8] 40
             have hrw9 := hask.2.2.1.below hbA
             have hbw9 := hbx.trans (hbA.mono hxs)
             obtain ⟨w9, hww9⟩ : ∃ y, w9a.alloc (.cells #[.int .u8 V3, .slice D8 V4.length dc8] 40) = y := ⟨_, rfl⟩
             rw [hww9] at hKw9 hrw9 hbw9 ⊢
             obtain ⟨g14, hgg14⟩ : ∃ y, w9a.heap.size = y := ⟨_, rfl⟩
             rw [hgg14] at hKw9 ⊢
             clear hgg14 hww9 hbA)
          | (clear tkB
             have F8 : Fr (fun b => b = w7.heap.size) w9a ((w9a.setCell ⟨w7.heap.size, 0, none⟩ (.int .u8 V3)).setCell ⟨w7.heap.size, 1, none⟩ (.slice D8 V4.length dc8)) := (Fr.setg _ w7.heap.size 0 _).trans (Fr.setg _ w7.heap.size 1 _)
             have hKw9 := (bdx.set 0 (.int .u8 V3)).set 1 (.slice D8 V4.length dc8)
             have hrw9 := hask.2.2.1.fr F8 (fun hne a' ha (hb : a'.block = w7.heap.size) => by have := hask.2.2.2.1 a' ha; omega)
             have hbw9 : Below w7.heap.size w7 ((w9a.setCell ⟨w7.heap.size, 0, none⟩ (.int .u8 V3)).setCell ⟨w7.heap.size, 1, none⟩ (.slice D8 V4.length dc8)) := F8.below hbx hxs (fun k hk => by omega)
             obtain ⟨w9, hww9⟩ : ∃ y, ((w9a.setCell ⟨w7.heap.size, 0, none⟩ (.int .u8 V3)).setCell ⟨w7.heap.size, 1, none⟩ (.slice D8 V4.length dc8)) = y := ⟨_, rfl⟩
             rw [hww9] at hKw9 hrw9 hbw9 ⊢
             clear r0 r1 q0 q1 F8 hww9 bdx
             obtain ⟨g14, hgg14⟩ : ∃ y, w7.heap.size = y := ⟨_, rfl⟩
             have hK' : Blk w9 g14 [.int .u8 V3, .slice D8 V4.length dc8] 40 := by rw [← hgg14]; exact hKw9
             clear hKw9
             have hKw9 := hK'
             clear hK'
             rw [hgg14]
             clear hgg14)
          clear hask Hask hbx hxs bdw7 edw7 hbdw7 S5w7 S6w7
        all_goals
          go_wp2_with fail
          go_meet
          exact ⟨g14, D8, dc8, rfl, rfl, rfl, hKw9, hrw9, hbw9⟩
      case rest =>
        rename World => w9
        obtain ⟨g14, D8, dc8, rfl, rfl, rfl, hKw9, hrw9, hbw9⟩ := hcut
        clear S0 KAw7 KSw7 y3 y4
        obtain ⟨rv, GG, gcc, hRB, hG, hg1, hg2⟩ := HR7.out.cells
        have KC9 := hide (show ∀ X, Below w9.heap.size w9 X → (X.cell? ⟨rf.rb, 2, none⟩ = some (.pointer (some ⟨rf.rt, 0, none⟩)) ∧ X.cell? ⟨(p.add (i * 12)).block, (p.add (i * 12)).off + 3, none⟩ = some (.int .i64 eClient) ∧ X.cell? ⟨(p.add (i * 12)).block, (p.add (i * 12)).off + 4, none⟩ = some (.int .i64 eSerial)) from fun X hX => ⟨((hRB.below hbw9).below hX).cell (j := 2) rfl, KC.out X (hbw9.trans (hX.mono hbw9.size))⟩)
        have KAw9 := hide (show ∀ (X : World) (o : Obj), (X.cell? ⟨rf.rb, 2, none⟩ = some (.pointer (some ⟨rf.rt, 0, none⟩)) ∧ X.cell? ⟨(p.add (i * 12)).block, (p.add (i * 12)).off + 3, none⟩ = some (.int .i64 eClient) ∧ X.cell? ⟨(p.add (i * 12)).block, (p.add (i * 12)).off + 4, none⟩ = some (.int .i64 eSerial)) → ((X.alloc o).cell? ⟨rf.rb, 2, none⟩ = some (.pointer (some ⟨rf.rt, 0, none⟩)) ∧ (X.alloc o).cell? ⟨(p.add (i * 12)).block, (p.add (i * 12)).off + 3, none⟩ = some (.int .i64 eClient) ∧ (X.alloc o).cell? ⟨(p.add (i * 12)).block, (p.add (i * 12)).off + 4, none⟩ = some (.int .i64 eSerial)) from fun X o h => ⟨cell_alloc7 h.1 o, cell_alloc7 h.2.1 o, cell_alloc7 h.2.2 o⟩)
        have hs9 := hbw9.size
        have hp9 : rf.rb < w7.heap.size := hRB.lt
        have KSw9 := hide (show ∀ (X : World) (v0 v1 : Value), (X.cell? ⟨rf.rb, 2, none⟩ = some (.pointer (some ⟨rf.rt, 0, none⟩)) ∧ X.cell? ⟨(p.add (i * 12)).block, (p.add (i * 12)).off + 3, none⟩ = some (.int .i64 eClient) ∧ X.cell? ⟨(p.add (i * 12)).block, (p.add (i * 12)).off + 4, none⟩ = some (.int .i64 eSerial)) → (((X.setCell ⟨w9.heap.size, 0, none⟩ v0).setCell ⟨w9.heap.size, 1, none⟩ v1).cell? ⟨rf.rb, 2, none⟩ = some (.pointer (some ⟨rf.rt, 0, none⟩)) ∧ ((X.setCell ⟨w9.heap.size, 0, none⟩ v0).setCell ⟨w9.heap.size, 1, none⟩ v1).cell? ⟨(p.add (i * 12)).block, (p.add (i * 12)).off + 3, none⟩ = some (.int .i64 eClient) ∧ ((X.setCell ⟨w9.heap.size, 0, none⟩ v0).setCell ⟨w9.heap.size, 1, none⟩ v1).cell? ⟨(p.add (i * 12)).block, (p.add (i * 12)).off + 4, none⟩ = some (.int .i64 eSerial)) from fun X v0 v1 h => ⟨cell_far2 v0 v1 h.1 (by show rf.rb ≠ _; omega), cell_far2 v0 v1 h.2.1 (by show (p.add (i * 12)).block ≠ _; omega), cell_far2 v0 v1 h.2.2 (by show (p.add (i * 12)).block ≠ _; omega)⟩)
        have PR9 := hide (fun (Z : World) (hZ : Below w9.heap.size w9 Z) => PR7.out w9 Z hbw9 hZ)
        have HRB := hide hRB
        clear hRB hG hg1 hg2
        have S9 := KC9.out w9 (Below.refl _ _)
        have S9d := KC9.out w9.drew (Below.refl _ _).drew
        go_wp2_with fail
        go_cut [16, 17, 18] from 34 to 130 (fun s16 s17 s18 wx => ∃ (g17 : Nat) (D10 : Option Addr) (d10 dc10 : Nat), s16 = .int .i64 V1 ∧ s17 = .pointer (some ⟨g17, 0, none⟩) ∧ s18 = .int .i64 V2 ∧ Blk wx g17 [.int .u8 V3, .slice D10 d10 dc10] 40 ∧ Rd wx D10 (bys V4) ∧ V4.length = d10 ∧ Below w9.heap.size w9 wx)
        case first =>
          have hbdw9 : Below w9.heap.size w9 (w9.alloc (.cells #[.int .u8 0, .slice none 0 0] 40)).drew := ((Below.refl _ _).alloc (Nat.le_refl _) _).drew
          have S5w9 := KC9.out _ hbdw9
          have S6w9 := KC9.out (w9.alloc (.cells #[.int .u8 0, .slice none 0 0] 40)) ((Below.refl _ _).alloc (Nat.le_refl _) _)
          have bdw9 : Blk (w9.alloc (.cells #[.int .u8 0, .slice none 0 0] 40)).drew w9.heap.size [.int .u8 0, .slice none 0 0] 40 := Blk.new w9 [.int .u8 0, .slice none 0 0] _
          have edw9 : (w9.alloc (.cells #[.int .u8 0, .slice none 0 0] 40)).drew.heap.size = w9.heap.size + 1 := World.size_alloc _ _
          go_region_held_law (fun X => X.cell? ⟨rf.rb, 2, none⟩ = some (.pointer (some ⟨rf.rt, 0, none⟩)) ∧ X.cell? ⟨(p.add (i * 12)).block, (p.add (i * 12)).off + 3, none⟩ = some (.int .i64 eClient) ∧ X.cell? ⟨(p.add (i * 12)).block, (p.add (i * 12)).off + 4, none⟩ = some (.int .i64 eSerial)) (first | with_reducible assumption | exact S5w9 | exact KAw9.out _ _ (by with_reducible assumption) | exact KSw9.out _ _ _ (by with_reducible assumption)) (first
            | (go_at_call 13; refine (PR9.out _ (Below.refl _ _).drew).mono ?_; rintro xx w11a ⟨D10, d10, dc10, rfl, hask⟩; have hbx := (Below.refl _ w9).drew.trans hask.2.2.2; have Hask := hide hask; clear hask; have tkA : True := trivial; have S8w9 := KC9.out _ hbx)
            | (go_at_call 13; refine (PR9.out _ hbdw9).mono ?_; rintro xx w11a ⟨D10, d10, dc10, rfl, hask⟩; have hbx := hbdw9.trans (hask.2.2.2.mono hbdw9.size); have bdx := bdw9.below hask.2.2.2; have Hask := hide hask; clear hask; have tkB : True := trivial; have S8w9 := KC9.out _ hbx; have r0 := bdx.cell (j := 0) rfl; have r1 := bdx.cell (j := 1) rfl; have q0 := bdx.frozen 0; have q1 := bdx.frozen 1))
          all_goals
            have hask := Hask.out
            have hxs := hbx.size
            first
            | (clear tkA
               have hbA : Below w11a.heap.size w11a (w11a.alloc (.cells #[.int .u8 V3, .slice D10 d10 dc10] 40)) := (Below.refl _ _).alloc (Nat.le_refl _) _
               have hKw11 := Blk.new w11a [.int .u8 V3, .slice D10 d10 dc10] 40
               have hrw11 := hask.2.1.below hbA
               have hbw11 := hbx.trans (hbA.mono hxs)
               obtain ⟨w11, hww11⟩ : ∃ y, w11a.alloc (.cells #[.int .u8 V3, .slice D10 d10 dc10] 40) = y := ⟨_, rfl⟩
               rw [hww11] at hKw11 hrw11 hbw11 ⊢
               obtain ⟨g17, hgg17⟩ : ∃ y, w11a.heap.size = y := ⟨_, rfl⟩
               rw [hgg17] at hKw11 ⊢
               clear hgg17 hww11 hbA)
            | (clear tkB
               have F8 : Fr (fun b => b = w9.heap.size) w11a ((w11a.setCell ⟨w9.heap.size, 0, none⟩ (.int .u8 V3)).setCell ⟨w9.heap.size, 1, none⟩ (.slice D10 d10 dc10)) := (Fr.setg _ w9.heap.size 0 _).trans (Fr.setg _ w9.heap.size 1 _)
               have hKw11 := (bdx.set 0 (.int .u8 V3)).set 1 (.slice D10 d10 dc10)
               have hrw11 := hask.2.1.fr F8 (fun hne a' ha (hb : a'.block = w9.heap.size) => hask.2.2.1 (fun e0 => hne (by rw [e0]; rfl)) a' ha (.inr (by omega)))
               have hbw11 : Below w9.heap.size w9 ((w11a.setCell ⟨w9.heap.size, 0, none⟩ (.int .u8 V3)).setCell ⟨w9.heap.size, 1, none⟩ (.slice D10 d10 dc10)) := F8.below hbx hxs (fun k hk => by omega)
               obtain ⟨w11, hww11⟩ : ∃ y, ((w11a.setCell ⟨w9.heap.size, 0, none⟩ (.int .u8 V3)).setCell ⟨w9.heap.size, 1, none⟩ (.slice D10 d10 dc10)) = y := ⟨_, rfl⟩
               rw [hww11] at hKw11 hrw11 hbw11 ⊢
               clear r0 r1 q0 q1 F8 hww11 bdx
               obtain ⟨g17, hgg17⟩ : ∃ y, w9.heap.size = y := ⟨_, rfl⟩
               have hK' : Blk w11 g17 [.int .u8 V3, .slice D10 d10 dc10] 40 := by rw [← hgg17]; exact hKw11
               clear hKw11
               have hKw11 := hK'
               clear hK'
               rw [hgg17]
               clear hgg17)
            have hask' := hide hask.1; clear hask Hask hbx hxs bdw9 edw9 hbdw9 S5w9 S6w9
          all_goals
            go_wp2_with fail
            go_meet
            exact ⟨g17, D10, d10, dc10, rfl, rfl, rfl, hKw11, hrw11, hask'.out, hbw11⟩
        case rest =>
          rename World => w11
          obtain ⟨g17, D10, d10, dc10, rfl, rfl, rfl, hKw11, hrw11, hd10, hbw11⟩ := hcut
          have Hd10 := hide hd10
          clear S9 S9d KAw9 KSw9 hd10
          have hb711 := hbw9.trans (hbw11.mono hs9)
          have hM11 := HM7.out.below hb711
          have hKA11 := hKA7.below hb711
          have hKB11 := hKB7.below hb711
          have hrA11 := hrA7.below hb711
          have hrB11 := hrB7.below hb711
          have hK9' := hKw9.below hbw11
          have hr9' := hrw9.below hbw11
          have hRB11 := HRB.out.below hb711
          have HS1 := hide (show ∀ x : InC (fun W => Below w11.heap.size w11 W), Calls Tryz.prog 14 #[.agg #[.int .u8 k, .slice A5 bs.length c5], .agg #[.int .u8 k, .slice A6 bs.length c6]] x.W fun e w' => e = .returned (.bool true) ∧ Below x.W.heap.size x.W w' from fun x => by have hh := rsames_any k A5 bs.length c5 bs k A6 bs.length c6 bs x.W rfl rfl (hrA11.below x.h) (hrB11.below x.h); rw [eqR_self] at hh; exact hh)
          have HS2 := hide (show ∀ x : InC (fun W => Below w11.heap.size w11 W), Calls Tryz.prog 14 #[.agg #[.int .u8 V3, .slice D8 V4.length dc8], .agg #[.int .u8 V3, .slice D10 d10 dc10]] x.W fun e w' => e = .returned (.bool true) ∧ Below x.W.heap.size x.W w' from fun x => by have hh := rsames_any V3 D8 V4.length dc8 V4 V3 D10 d10 dc10 V4 x.W rfl Hd10.out (hr9'.below x.h) (hrw11.below x.h); rw [eqR_self] at hh; exact hh)
          have HN := hide (show ∀ x : InC (fun W => Below w11.heap.size w11 W), Calls Tryz.prog 15 #[.pointer (some ⟨f.mb, 0, none⟩)] x.W fun e w' => e = .returned (.int .i64 a'.num) ∧ x.W = w' from fun x => mnum_by (hM11.below x.h))
          have u0 : ∀ x : InC (fun W => Below w11.heap.size w11 W), x.W.cell? ⟨g9, 0, none⟩ = some (.int .u8 k) := fun x => ((hKA11).below x.h).cell (j := 0) rfl
          have u1 : ∀ x : InC (fun W => Below w11.heap.size w11 W), x.W.cell? ⟨g9, 1, none⟩ = some (.slice A5 bs.length c5) := fun x => ((hKA11).below x.h).cell (j := 1) rfl
          have v0 : ∀ x : InC (fun W => Below w11.heap.size w11 W), x.W.cell? ⟨w6.heap.size, 0, none⟩ = some (.int .u8 k) := fun x => ((hKB11).below x.h).cell (j := 0) rfl
          have v1 : ∀ x : InC (fun W => Below w11.heap.size w11 W), x.W.cell? ⟨w6.heap.size, 1, none⟩ = some (.slice A6 bs.length c6) := fun x => ((hKB11).below x.h).cell (j := 1) rfl
          have s0 : ∀ x : InC (fun W => Below w11.heap.size w11 W), x.W.cell? ⟨g14, 0, none⟩ = some (.int .u8 V3) := fun x => ((hK9').below x.h).cell (j := 0) rfl
          have s1 : ∀ x : InC (fun W => Below w11.heap.size w11 W), x.W.cell? ⟨g14, 1, none⟩ = some (.slice D8 V4.length dc8) := fun x => ((hK9').below x.h).cell (j := 1) rfl
          have t0 : ∀ x : InC (fun W => Below w11.heap.size w11 W), x.W.cell? ⟨g17, 0, none⟩ = some (.int .u8 V3) := fun x => ((hKw11).below x.h).cell (j := 0) rfl
          have t1 : ∀ x : InC (fun W => Below w11.heap.size w11 W), x.W.cell? ⟨g17, 1, none⟩ = some (.slice D10 d10 dc10) := fun x => ((hKw11).below x.h).cell (j := 1) rfl
          have r0 : ∀ x : InC (fun W => Below w11.heap.size w11 W), x.W.cell? ⟨rf.rb, 0, none⟩ = some (.int .i64 a'.num) := fun x => (hRB11.below x.h).cell (j := 0) rfl
          have qe : (er != er) = false := by simp
          have q1 : (V1 != V1) = false := by simp
          have q2 : (V2 != V2) = false := by simp
          have qn : (a'.num != a'.num) = false := by simp
          go_wp2_with fail
          refine wp_region_in (fun W => Below w11.heap.size w11 W) (Below.refl _ _).drew (by kernel_rfl) (by kernel_rfl) ?_
          repeat (go_big_quiet_step (first
            | (go_at_call 14; with_reducible exact Calls.in_below (HS1.out _))
            | (go_at_call 14; with_reducible exact Calls.in_below (HS2.out _))
            | (go_at_call 15; exact Calls.in_same (HN.out _))))
          refine wpQuiet_nil ?_
          intro _ hw'
          obtain ⟨nq, hw''⟩ := hw'
          subst hw''
          have hbq := nq.h
          obtain ⟨w12, hw12⟩ : ∃ y, nq.W = y := ⟨_, rfl⟩
          rw [hw12] at hbq ⊢
          have hb712 := hb711.trans (hbq.mono hb711.size)
          go_wp2
          go_roundw
          case rel => exact ⟨i + 1, a', N + 1, by omega, by omega, by omega, by go_num, HM7.out.below hb712, HR7.out.below hb712, HF.out, FW7.out.trans (Fr.of_below hb712), hB7.trans (hb712.mono z7)⟩
          case measure => simp [intOf]; omega
    · rcases (show i = n1 ∨ (i < n1 ∧ i = 100) by omega) with rfl | ⟨hl2, rfl⟩
      all_goals
        clear hfit0
        have hok := hide hfit.ok
        obtain ⟨rv, GG, gcc, hRB, hG, hg1, hg2⟩ := hR.cells
        have KC := hide (show ∀ X, Below wr.heap.size wr X → (X.cell? ⟨rf.rb, 3, none⟩ = some (.int .i64 a.ep) ∧ X.cell? ⟨rf.rb, 4, none⟩ = some (.slice GG a.ms.length gcc)) from fun X hX => ⟨(hRB.below hX).cell (j := 3) rfl, (hRB.below hX).cell (j := 4) rfl⟩)
        have S0 := KC.out wr.drew (Below.refl _ _).drew
        have HM := hide hM
        have HR := hide hR
        have HG := hide hG
        have Hg := hide (And.intro hg1 hg2)
        clear hM hR hRB hG hg1 hg2 hM2 hR2
        obtain ⟨ep, hep⟩ : ∃ y, a.ep = y := ⟨_, rfl⟩
        obtain ⟨ms, hms⟩ : ∃ y, a.ms = y := ⟨_, rfl⟩
        rw [hep, hms] at KC S0
        have Hep := hide hep
        have Hms := hide hms
        clear hep hms
        go_wp2_with fail
        go_region_held_law (fun X => X.cell? ⟨rf.rb, 3, none⟩ = some (.int .i64 ep) ∧ X.cell? ⟨rf.rb, 4, none⟩ = some (.slice GG ms.length gcc)) (first | with_reducible assumption) (first
          | (go_at_call 17; refine (mstate_by (HM.out.below (Below.refl _ _).drew) hok.out rfl 0).mono ?_; rintro xx w10 ⟨cs10, rfl, hS10, hb10⟩; have F10 := hide ((Below.refl _ wr).drew.trans hb10); have S10 := KC.out w10 F10.out; have HS10 := hide hS10; clear hS10 hb10)
          | (go_at_call 18; refine (rstate_by (HR.out.below F10.out) hok.out rfl 0).mono ?_; rintro xx w11 ⟨cs11, rfl, hS11, hb11⟩; have F11 := hide (F10.out.trans (hb11.mono F10.out.size)); have S11 := KC.out w11 F11.out; have HS11 := hide hS11; have HB11 := hide hb11; clear hS11 hb11)
          | (go_at_call 16; refine (sameSt_any (HS10.out.below HB11.out) HS11.out rfl).mono ?_; rintro xx w12 ⟨rfl, hb12⟩; have F12 := hide (F11.out.trans (hb12.mono F11.out.size)); have S12 := KC.out w12 F12.out; clear hb12)
          | (go_at_call 20; refine (mgroup_by (HM.out.below F12.out)).mono ?_; rw [Hep.out, Hms.out]; rintro xx w13 ⟨A13, c13, rfl, hl13, hm13, hr13, hb13⟩; have F13 := hide (F12.out.trans (hb13.mono F12.out.size)); have S13 := KC.out w13 F13.out; have H13 := hide (And.intro hl13 (And.intro hm13 hr13)); clear hl13 hm13 hr13 hb13)
          | (go_at_call 19; refine (rsameg_any ep A13 ms.length c13 ms ep GG ms.length gcc ms _ rfl rfl (by have := H13.out.1; have := H13.out.2.1; omega) (by have := H13.out.1; have := H13.out.2.1; omega) H13.out.2.2 (by have hh := HG.out.below F13.out; rw [Hms.out] at hh; exact hh)).mono ?_; rw [eqG_self]; rintro xx w14 ⟨rfl, hb14⟩; have F14 := hide (F13.out.trans (hb14.mono F13.out.size)); have S14 := KC.out w14 F14.out; clear hb14))
        all_goals
          go_wp2
          go_ret
          exact ⟨rfl, hBw.trans (F14.out.mono hBw.size)⟩
end Go.Proofs.YtkknkdjdneldlaaGreat
namespace Go.Proofs.YtkknkdjdneldlaaGreat
set_option maxRecDepth 20000
open Go.ChangeShapes Go.WideShapes Go.ChangeAt Go.RowKit Go.Px Go.Joins Go.Deep
set_option linter.unusedVariables false

set_option maxRecDepth 100000 in
theorem machineRuns_lifted (os : Os) (started : os.Started) (H : Type) (enc : TypeId × Value → H) :
    ReturnsInHanded {} Tryz.checked os 3 .any (Rows.machineRunsSpec.pre6 enc Tryz.prog Tryz.f3 Rows.machineRunsRow.domain false) (Rows.machineRunsSpec.post enc Tryz.prog Tryz.f3 false true false false) := by
  refine returnsInHanded_of_change (C := Tryz.checked) own started (by kernel_rfl) Tryz.func3
    (ChangeSpec.witness6 (enc := enc) (C := Tryz.checked) false ⟨#[], #[.agg #[.int .i64 0, .int .i64 0, .int .i64 0, .slice none 0 0, .slice none 0 0, .int .i64 0, .slice none 0 0], .slice none 0 0], []⟩ 8 (by kernel_rfl) (by kernel_rfl) (by kernel_rfl) (by kernel_rfl)) ?_
  intro W base args ds gs before hval0 hW _ hweigh
  have hval : ∀ (j : Nat) t v, Tryz.f3.params[j]? = some t → args[j]? = some v → Value.okWide Tryz.prog W .any base t v := hval0
  have hW' := hW
  obtain ⟨p, q, hA0, hV, rfl, hfz, hnd⟩ := hW
  have hA : DataW.TrodAll enc Tryz.prog W 0 (fun _ => true) true Tryz.f3.params.toList args.toList ds p := hA0
  rw [Tryz.params3] at hA hval
  obtain ⟨v0, l0, d0, e0, p0, q0, ha0, rfl, rfl, h0, r0⟩ := trodAll_cons hA
  obtain ⟨v1, l1, d1, e1, p1, q1, rfl, rfl, rfl, h1, r1⟩ := trodAll_cons r0
  obtain ⟨rfl, rfl, rfl⟩ := trodAll_nil r1
  obtain rfl : args = #[v0, v1] := by cases args; simp_all
  obtain ⟨rfl, rfl⟩ := trodVars_none hV
  obtain ⟨⟨ls⟩, rfl, _⟩ := okWide_struct Tryz.underlying30 (hval 0 30 v0 rfl rfl); obtain ⟨s, hx0⟩ := open_any (t := tyState) (T := 30) (by kernel_rfl) h0; have hy0 : tyState.Is _ _ s ls := hx0
  obtain ⟨bA, bn, bc, rfl⟩ := okWide_slice Tryz.underlying31 (hval 1 31 v1 rfl rfl); obtain ⟨b, hx1⟩ := open_any (t := (.row tyEntry)) (T := 31) (by kernel_rfl) h1; obtain ⟨bv, hl_b, hc_b, hm_b, hr_b, hq_b, he_b⟩ := row_out hx1
  refine (machineRuns_walk bA bn bc b bv W hy0 (entsAt_of hl_b hr_b he_b) (by omega)).mono fun e W' ⟨he, hb⟩ => ?_
  subst he
  exact ⟨_, rfl, law_post laidOut rfl rfl Tryz.underlying4 (fun t ht => (show ∀ t ∈ Tryz.f3.params.toList, Tryz.prog.readableRec t = true ∧ t < Tryz.prog.types.size from by decide +kernel) t ht) hW' rfl hb⟩

theorem machineRuns_holds : Rows.MachineRunsSaid :=
  OpenClaim.holds_of_wide 3 Tryz.f3 rfl rfl rfl rfl rfl rfl rfl ⟨rfl, rfl, rfl, rfl, rfl⟩ rfl rfl rfl rfl rfl (by kernel_rfl) Tryz.func3 (by kernel_rfl)
    (of_decide_eq_true (by kernel_rfl)) (by unfold Func.isWrapper; first | (rw [if_pos (by decide +kernel)]; kernel_rfl) | (rw [if_neg (by decide +kernel)]; exact ⟨rfl, rfl⟩))
    (fun os started H enc _ => machineRuns_lifted os started H enc)
end Go.Proofs.YtkknkdjdneldlaaGreat
