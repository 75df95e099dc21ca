/- For every input the law MachineOnce returns true, and each argument reads afterwards as it read before. No condition. -/
import Derived.Test.YtkknkdjdneldlaaRows
import Derived.Test.YtkknkdjdneldlaaK71
import Derived.Test.YtkknkdjdneldlaaK72
import Derived.Test.YtkknkdjdneldlaaK73
import Derived.Test.YtkknkdjdneldlaaK74
import Derived.Test.YtkknkdjdneldlaaK75
import Derived.Test.YtkknkdjdneldlaaK76
import Derived.Test.YtkknkdjdneldlaaK77
import Derived.Test.YtkknkdjdneldlaaK78
import Derived.Test.YtkknkdjdneldlaaK79
import Derived.Test.YtkknkdjdneldlaaK710
import Derived.Test.YtkknkdjdneldlaaK711
namespace Go.Px
open Go.RowKit

/-! ### hide -/
/-! ### addresses -/
/-! ### what a slice reads as: nil let in -/
section
variable {w w' : World} {A : Option Addr} {xs : List Value}
end

/-! ### rows that a call owns -/
section
variable {w w' : World} {base : Nat} {e : TypeId} {size n : Nat} {v : Value} {xs : List Value}
end

/-! ### bytes and integers -/
/-! ### facts of a slice's type -/
/-! ### append onto a row of the call's own -/
section
variable {P : Program} {w : World}
end

/-! ### places at which a walk stands still, to be led on by hand -/
section
variable {P : Program} {w : World} {ops : Array Oper} {rest : List Oper} {o : Oper} {a : Act} {Q : Exit → Act → World → Prop}
end

/-! ### a row that grows, round by round -/
section
variable {P : Program} {w wr : World} {v0 v : Value} {base e size n : Nat} {xs : List Value}
variable {ops : Array Oper} {rest : List Oper} {o : Oper} {a : Act} {Q : Exit → Act → World → Prop}
end

/-! ### a law's row from its walk -/
section
open Go.ChangeShapes Go.WideShapes Go.ChangeAt
variable {H : Type} {enc : TypeId × Value → H} {P : Program}
theorem trodAll_below (hl : laidOutB P = true) {W W' : World} (hb : Below W.heap.size W W') : ∀ {ts : List TypeId} {vs : List Value} {ds : List (DataW H)} {ps : List MemPlace},
    (∀ t ∈ ts, P.readableRec t = true ∧ t < P.types.size) → DataW.TrodAll enc P W 0 (fun _ => true) true ts vs ds ps → (∀ x ∈ ps, x.block < W.heap.size) →
    ∀ sp : Nat → Bool, (∀ p ∈ ps, sp p.block = true) → DataW.TrodAll enc P W' 0 sp true ts vs ds ps
  | [], vs, ds, ps, _, h, _, _, _ => by
    obtain ⟨rfl, rfl, rfl⟩ := trodAll_nil h
    exact trodAll_mk0
  | t :: ts, vs, ds, ps, hr, h, hlt, sp, hsp => by
    obtain ⟨v, vs', d, ds', p, q, rfl, rfl, rfl, h1, h2⟩ := trodAll_cons h
    have ht := hr t List.mem_cons_self
    refine trodAll_cons_mk ?_ (trodAll_below hl hb (fun t' ht' => hr t' (List.mem_cons_of_mem _ ht')) h2 (fun x hx => hlt x (List.mem_append_right _ hx)) sp (fun x hx => hsp x (List.mem_append_right _ hx)))
    exact WideElems.Trod_stays hl ht.1 ht.2 h1 (fun x hx => hb.same (hlt x (List.mem_append_left _ hx))) (fun x hx => hsp x (List.mem_append_left _ hx))
theorem wf_u64 {v : Int} (h : (Lit.int .u64 v).wf = true) : ∃ n : Nat, v = n ∧ n < 18446744073709551616 := by
  have hz : 0 ≤ v ∧ v ≤ 18446744073709551615 := by simpa [Lit.wf, IntKind.min, IntKind.max, IntKind.signed, IntKind.bits] using h
  exact ⟨v.toNat, by omega, by omega⟩
theorem wf_i64 {v : Int} (h : (Lit.int .i64 v).wf = true) : -9223372036854775808 ≤ v ∧ v ≤ 9223372036854775807 := by
  simpa [Lit.wf, IntKind.min, IntKind.max, IntKind.signed, IntKind.bits] using h
/-- WHAT A LAW OWES: 'it returns true, and nothing that was there has turned'. The rest of its row is the same for all laws that name no variable. -/
theorem law_post {f : Func} {s : ChangeSpec} {W W' : World} {args : Array Value} {ds gs : List (DataW H)} {before : List MemPlace} {tb : TypeId}
    (hl : laidOutB P = true) (hvars : s.vars = []) (hres : f.resultTypes = #[tb]) (htb : P.underlying tb = some .bool)
    (hr : ∀ t ∈ f.params.toList, P.readableRec t = true ∧ t < P.types.size)
    (hW : DataW.Whole enc P f.params.toList s.vars false W args.toList ds gs before)
    (hs : s.fn H (ds ++ gs) = { results := [.lit (.bool true)], args := ds, vars := [] })
    (hb : Below W.heap.size W W') : s.post enc P f false true false false W args (.bool true) W' := by
  have hW0 := hW
  obtain ⟨p, q, hA, hV, rfl, hfz, hnd⟩ := hW
  rw [hvars] at hV
  obtain ⟨rfl, rfl⟩ := trodVars_none hV
  have hlt : ∀ x ∈ p ++ [], x.block < W.heap.size := fun x hx => hW0.lt x hx
  have hold : ∀ p' ∈ p ++ [], (fun b => decide (b < W.heap.size)) p'.block = true := fun p' hp => by simpa using hlt p' hp
  refine ⟨ds, [], p ++ [], [], p, [], hW0, ?_, ?_, ?_, ?_, fun h => by cases h⟩
  · rw [hs, hres]
    exact trodAll_mk1 (shut_bool htb true)
  · rw [hs]
    exact trodAll_below hl hb hr hA (fun x hx => hlt x (List.mem_append_left _ hx)) _ (fun x hx => hold x (List.mem_append_left _ hx))
  · rw [hs, hvars]
    rfl
  · exact World.keptBut_mono (fun x hx => ⟨hx, .inr (.inl (by simpa using hx))⟩) (hb.frame (· ∈ p ++ []))
end
end Go.Px
namespace Go.Px
set_option maxRecDepth 20000
theorem wf_u8 {v : Int} (h : (Lit.int .u8 v).wf = true) : ∃ n : Nat, v = n ∧ n < 256 := by
  have hz : 0 ≤ v ∧ v ≤ 255 := by simpa [Lit.wf, IntKind.min, IntKind.max, IntKind.signed, IntKind.bits] using h
  exact ⟨v.toNat, by omega, by omega⟩
end Go.Px
namespace Go.Px
set_option maxRecDepth 20000
open Go.RowKit Go.ChangeShapes
variable {H : Type} {enc : TypeId × Value → H} {P : Program}
theorem open_bytesF {w : World} {base : Nat} {spare : Nat → Bool} {held : Bool} {t e : TypeId} (ht : P.underlying t = some (.slice e)) (he : P.underlying e = some (.int .u8)) (hc : P.cellsOf e = 1)
    {v : Value} {fuel : Nat} {x : DataW H × List MemPlace} (hf : DataW.trod enc P w base spare held fuel t [v] = some x) :
    ∃ (A : Option Addr) (n c : Nat) (bs : List UInt8), v = .slice A n c ∧ bs.length = n ∧ n ≤ c ∧ c ≤ 9223372036854775807 ∧ Rd w A (bys bs) := by
  rcases Go.ChangeShapes.open_ints ht he hc hf with ⟨hcs, _⟩ | ⟨a, len, cap, zs, hcs, _, hlc, hcm, hlen, _, hcell, hwf⟩
  · obtain rfl : v = .slice none 0 0 := by simpa using hcs
    exact ⟨none, 0, 0, [], rfl, rfl, by omega, by omega, Rd.nil⟩
  · obtain rfl : v = .slice (some a) len cap := by simpa using hcs
    have hle : len ≤ zs.length := by rw [hlen]; split <;> omega
    refine ⟨some a, len, cap, (zs.take len).map fun z => UInt8.ofNat z.toNat, rfl, by simp [Nat.min_eq_left hle], hlc, by unfold maxLen at hcm; omega, Rd.of_some fun j u hu => ?_⟩
    have hj : j < len := by
      have := (List.getElem?_eq_some_iff.1 hu).1
      simp [bys] at this; omega
    have hjz : j < zs.length := by omega
    have hw := hwf zs[j] (List.getElem_mem hjz)
    have hz : 0 ≤ zs[j] ∧ zs[j] ≤ 255 := by simpa [Lit.wf, IntKind.min, IntKind.max, IntKind.signed, IntKind.bits] using hw
    rw [hcell j hjz]
    simp only [bys, List.map_map, List.getElem?_map, List.getElem?_take, if_pos hj, List.getElem?_eq_getElem hjz, Option.map_some, Function.comp] at hu
    rw [← hu]
    simp only [List.getD, List.getElem?_eq_getElem hjz, Option.getD_some]
    congr 2
    have : (UInt8.ofNat (zs[j]).toNat).toNat = (zs[j]).toNat := by
      simp; omega
    rw [this]; omega
end Go.Px
namespace Go.Px
open Go.RowKit Go.ChangeShapes Go.WideShapes Go.ChangeAt Go.Deep
section
variable {w w' : World} {Q Q' : Nat → Prop} {t : Ty} {x : t.Den} {cs : List Value}
variable {xs : List t.Den} {vs : List Value}
/-- .. where they lie, in a slice that begins at a: the walk writes the first one's address so, and the others' .. -/
theorem el_0 {a : Addr} (hat : ∀ (j : Nat) (u : Value), vs[j]? = some u → w'.cell? (a.add j) = some u) {n k : Nat} {u : Value} (h : vs[n * k + 0]? = some u) : w'.cell? (a.add (k * n)) = some u := by
  rw [Nat.mul_comm]; exact hat _ _ h
theorem el_S {a : Addr} (hat : ∀ (j : Nat) (u : Value), vs[j]? = some u → w'.cell? (a.add j) = some u) {n k i : Nat} {u : Value} (h : vs[n * k + (i + 1)]? = some u) : w'.cell? ⟨(a.add (k * n)).block, (a.add (k * n)).off + (i + 1), none⟩ = some u := by
  have := hat _ _ h
  have e : a.add (n * k + (i + 1)) = ⟨(a.add (k * n)).block, (a.add (k * n)).off + (i + 1), none⟩ := by
    unfold Addr.add
    rw [if_neg (by omega)]
    split
    · rename_i h0
      rw [Nat.mul_comm] at h0
      rw [h0, Nat.zero_add]
    · show (⟨a.block, a.off + (n * k + (i + 1)), none⟩ : Addr) = ⟨a.block, a.off + k * n + (i + 1), none⟩
      rw [Nat.mul_comm, Nat.add_assoc]
  rw [← e]; exact this
end
/-! ### those that came in -/
/-- Does a type have a shape? (A list of fields, each with the place of its first cell.) -/
def Ty.fits (P : Program) : Ty → List (TypeId × Nat) → Bool
  | .i64, [(T, _)] => match P.underlying T with | some (.int .i64) => P.cellsOf T == 1 | _ => false
  | .u8, [(T, _)] => match P.underlying T with | some (.int .u8) => P.cellsOf T == 1 | _ => false
  | .u32, [(T, _)] => match P.underlying T with | some (.int .u32) => P.cellsOf T == 1 | _ => false
  | .u64, [(T, _)] => match P.underlying T with | some (.int .u64) => P.cellsOf T == 1 | _ => false
  | .bool, [(T, _)] => match P.underlying T with | some .bool => P.cellsOf T == 1 | _ => false
  | .bytes, [(T, _)] => match P.underlying T with | some (.slice E) => (match P.underlying E with | some (.int .u8) => P.cellsOf E == 1 | _ => false) && P.cellsOf T == 1 | _ => false
  | .row t, [(T, _)] => match P.underlying T with | some (.slice E) => (P.cellsOf E == t.n && t.fits P [(E, 0)]) && P.cellsOf T == 1 | _ => false
  | .pr a b, (T, o) :: (T2, o2) :: L => (o2 == o + a.n && a.fits P [(T, o)]) && b.fits P ((T2, o2) :: L)
  | .st t, [(T, _)] => match P.underlying T with | some (.struct fs) => (P.cellsOf T == t.n && ((fs.toList.map fun f => (f.type, f.offset)).head?.map (·.2) == some 0)) && t.fits P (fs.toList.map fun f => (f.type, f.offset)) | _ => false
  | _, _ => false
variable {H : Type} {enc : TypeId × Value → H} {P : Program}
theorem wf_u32' {z : Int} (h : (Lit.int .u32 z).wf = true) : ∃ n : Nat, z = n ∧ n < 4294967296 := by
  have : 0 ≤ z ∧ z ≤ 4294967295 := by simpa [Lit.wf, IntKind.min, IntKind.max, IntKind.signed, IntKind.bits] using h
  exact ⟨z.toNat, by omega, by omega⟩
theorem fits_cells {P : Program} : ∀ {t : Ty} {T : TypeId} {o : Nat}, t.fits P [(T, o)] = true → P.cellsOf T = t.n := by
  intro t T o h
  cases t <;> simp only [Ty.fits] at h <;> (try split at h) <;> simp_all [Ty.n]
def TrodAt (enc : TypeId × Value → H) (P : Program) (w : World) (base : Nat) (spare : Nat → Bool) (held : Bool) (cs : List Value) (T : TypeId) (o : Nat) : Prop := ∃ fuel x, DataW.trod enc P w base spare held fuel T ((cs.drop o).take (P.cellsOf T)) = some x
theorem one1_of {p : Value → Prop} {cs : List Value} {c : Value} (h : cs = [c]) (hp : p c) : one1 p cs := by subst h; exact hp
def Ty.dft : (t : Ty) → t.Den
  | .i64 => (0 : Int)
  | .u8 | .u32 | .u64 => (0 : Nat)
  | .bool => false
  | .bytes => []
  | .row _ => []
  | .pr a b => (a.dft, b.dft)
  | .st t => t.dft
theorem rows_build {w : World} {Q : Nat → Prop} {t : Ty} (g : Nat → t.Den) (gs : Nat → List Value) : ∀ (n : Nat), (∀ i, i < n → t.Is w Q (g i) (gs i)) → t.Rows w Q ((List.range n).map g) ((List.range n).flatMap gs)
  | 0, _ => Ty.Rows.nil
  | n + 1, h => by
    rw [List.range_succ, List.map_append, List.flatMap_append]
    refine (rows_build g gs n (fun i hi => h i (by omega))).append ?_
    have := Ty.Rows.one (h n (by omega))
    simpa using this
theorem rd_build {w : World} {a : Addr} {m : Nat} {gs : Nat → List Value} : ∀ (n : Nat), (∀ i, i < n → (gs i).length = m) → (∀ i, i < n → ∀ r (u : Value), (gs i)[r]? = some u → w.cell? (a.add (m * i + r)) = some u) → Rd w (some a) ((List.range n).flatMap gs)
  | 0, _, _ => Rd.nil
  | n + 1, hl, h => by
    have ih := rd_build (w := w) (a := a) n (fun i hi => hl i (by omega)) (fun i hi => h i (by omega))
    have hlen : ((List.range n).flatMap gs).length = m * n := by
      clear ih
      induction n with
      | zero => simp
      | succ n ih =>
        rw [List.range_succ, List.flatMap_append, List.length_append, ih (fun i hi => hl i (by omega)) (fun i hi => h i (by omega))]
        simp [hl n (by omega), Nat.mul_succ]
    rw [List.range_succ, List.flatMap_append]
    refine Rd.of_some fun j u hu => ?_
    by_cases hj : j < ((List.range n).flatMap gs).length
    · rw [List.getElem?_append_left hj] at hu
      exact ih.at_ hu
    · rw [List.getElem?_append_right (by omega)] at hu
      simp only [List.flatMap_cons, List.flatMap_nil, List.append_nil] at hu
      have := h n (by omega) _ u hu
      rw [hlen] at this hj
      rwa [show m * n + (j - m * n) = j by omega] at this
theorem open_uni {w : World} {base : Nat} {spare : Nat → Bool} {held : Bool} : ∀ (t : Ty) (L : List (TypeId × Nat)) (cs : List Value), t.fits P L = true → (∀ T o, (T, o) ∈ L → TrodAt enc P w base spare held cs T o) →
    ∃ x : t.Den, t.Is w (fun _ => True) x ((cs.drop ((L.head?.map (·.2)).getD 0)).take t.n)
  | .i64, [(T, o)], cs, hf, h => by
    simp only [Ty.fits] at hf
    split at hf <;> simp_all
    rename_i hu
    obtain ⟨fuel, x, hx⟩ := h
    rw [hf] at hx
    obtain ⟨z, hz, _, hw⟩ := DataW.trod_int hu hx
    have := wf_i64 hw
    exact ⟨z, one1_of hz ⟨rfl, this.1, this.2⟩⟩
  | .u8, [(T, o)], cs, hf, h => by
    simp only [Ty.fits] at hf
    split at hf <;> simp_all
    rename_i hu
    obtain ⟨fuel, x, hx⟩ := h
    rw [hf] at hx
    obtain ⟨z, hz, _, hw⟩ := DataW.trod_int hu hx
    obtain ⟨n, rfl, hn⟩ := wf_u8 hw
    exact ⟨n, one1_of hz ⟨rfl, hn⟩⟩
  | .u32, [(T, o)], cs, hf, h => by
    simp only [Ty.fits] at hf
    split at hf <;> simp_all
    rename_i hu
    obtain ⟨fuel, x, hx⟩ := h
    rw [hf] at hx
    obtain ⟨z, hz, _, hw⟩ := DataW.trod_int hu hx
    obtain ⟨n, rfl, hn⟩ := wf_u32' hw
    exact ⟨n, one1_of hz ⟨rfl, hn⟩⟩
  | .u64, [(T, o)], cs, hf, h => by
    simp only [Ty.fits] at hf
    split at hf <;> simp_all
    rename_i hu
    obtain ⟨fuel, x, hx⟩ := h
    rw [hf] at hx
    obtain ⟨z, hz, _, hw⟩ := DataW.trod_int hu hx
    obtain ⟨n, rfl, hn⟩ := wf_u64 hw
    exact ⟨n, one1_of hz ⟨rfl, hn⟩⟩
  | .bool, [(T, o)], cs, hf, h => by
    simp only [Ty.fits] at hf
    split at hf <;> simp_all
    rename_i hu
    obtain ⟨fuel, x, hx⟩ := h
    rw [hf] at hx
    obtain ⟨z, hz, _⟩ := DataW.trod_bool hu hx
    have hzz : Ty.Is w (fun _ => True) .bool z (List.take (Ty.n .bool) (List.drop o cs)) := one1_of hz rfl
    cases z
    · exact .inl hzz
    · exact .inr hzz
  | .bytes, [(T, o)], cs, hf, h => by
    simp only [Ty.fits] at hf
    split at hf <;> simp_all
    rename_i E hu
    obtain ⟨h1, h2⟩ := hf
    split at h1 <;> simp_all
    rename_i he
    obtain ⟨fuel, x, hx⟩ := h
    rw [h2] at hx
    have hx' := hx
    rcases Go.ChangeShapes.open_ints hu he h1 hx with ⟨hcs, _⟩ | ⟨a, len, cap, zs, hcs, _⟩
    · rw [hcs] at hx'
      obtain ⟨A, n, c, bs, hv, q1, q2, q3, q4⟩ := open_bytesF hu he h1 hx'
      exact ⟨bs, one1_of hcs ⟨A, n, c, hv, q1, q2, q3, q4, fun _ _ _ => trivial⟩⟩
    · rw [hcs] at hx'
      obtain ⟨A, n, c, bs, hv, q1, q2, q3, q4⟩ := open_bytesF hu he h1 hx'
      exact ⟨bs, one1_of hcs ⟨A, n, c, hv, q1, q2, q3, q4, fun _ _ _ => trivial⟩⟩
  | .row t, [(T, o)], cs, hf, h => by
    simp only [Ty.fits] at hf
    split at hf <;> simp_all
    rename_i E hu
    obtain ⟨⟨h1, h3⟩, h2⟩ := hf
    obtain ⟨fuel, x, hx⟩ := h
    rw [h2] at hx
    rcases open_slice hu hx with ⟨hcs, _⟩ | ⟨a, n, c, m, n', D, Pl, hcs, _, hlc, hcm, hm, _, hel⟩
    · exact ⟨[], one1_of hcs ⟨none, 0, 0, [], rfl, rfl, by omega, by omega, Rd.nil, fun _ _ _ => trivial, by simp, fun j y hy => by simp at hy⟩⟩
    · have hall : ∀ i, ∃ (e : t.Den) (es : List Value), i < n → es.length = t.n ∧ t.Is w (fun _ => True) e es ∧ ∀ r (u : Value), es[r]? = some u → w.cell? (a.add (t.n * i + r)) = some u := by
        intro i
        by_cases hi : i < n
        · obtain ⟨cs', hc, ht⟩ := hel i (by rw [hm]; split <;> omega)
          rw [h1] at hc
          obtain ⟨_, hcl, hat⟩ := World.cells?_some hc
          obtain ⟨e, he⟩ := open_uni t [(E, 0)] cs' h3 (fun T o hTo => by
            simp at hTo
            obtain ⟨rfl, rfl⟩ := hTo
            exact ⟨n', _, by rw [List.drop_zero, h1, List.take_of_length_le (by omega)]; exact ht⟩)
          simp only [List.head?_cons, Option.map_some, Option.getD_some, List.drop_zero] at he
          rw [List.take_of_length_le (by omega)] at he
          refine ⟨e, cs', fun _ => ⟨hcl, he, fun r u hu => ?_⟩⟩
          obtain ⟨hr, rfl⟩ := List.getElem?_eq_some_iff.1 hu
          have := hat r (by omega)
          rw [Px.add_add, Nat.mul_comm] at this
          rw [this, List.getElem?_eq_getElem hr]
        · exact ⟨t.dft, [], fun h => absurd h hi⟩
      obtain ⟨g, hg⟩ := Classical.axiomOfChoice hall
      obtain ⟨gs, hg⟩ := Classical.axiomOfChoice hg
      have hR := rows_build (w := w) (Q := fun _ => True) g gs n (fun i hi => (hg i hi).2.1)
      refine ⟨(List.range n).map g, one1_of hcs ⟨some a, n, c, (List.range n).flatMap gs, rfl, by simp, hlc, by unfold maxLen at hcm; omega, ?_, fun _ _ _ => trivial, hR⟩⟩
      exact rd_build n (fun i hi => (hg i hi).1) (fun i hi => (hg i hi).2.2)
  | .pr a b, (T, o) :: (T2, o2) :: L, cs, hf, h => by
    simp only [Ty.fits, Bool.and_eq_true, beq_iff_eq] at hf
    obtain ⟨⟨ho, h1⟩, h2⟩ := hf
    obtain ⟨x, hx⟩ := open_uni a [(T, o)] cs h1 (fun T' o' hm => h T' o' (by simp at hm; simp [hm]))
    obtain ⟨y, hy⟩ := open_uni b ((T2, o2) :: L) cs h2 (fun T' o' hm => h T' o' (List.mem_cons_of_mem _ hm))
    refine ⟨(x, y), ?_, ?_⟩
    · show a.Is w _ x _
      simp only [List.head?_cons, Option.map_some, Option.getD_some] at hx ⊢
      rw [List.take_take, Nat.min_eq_left (by show a.n ≤ a.n + b.n; omega)]
      exact hx
    · show b.Is w _ y _
      simp only [List.head?_cons, Option.map_some, Option.getD_some] at hy ⊢
      rw [List.drop_take, List.drop_drop, show (Ty.pr a b).n - a.n = b.n from by show a.n + b.n - a.n = b.n; omega, ← ho]
      exact hy
  | .st t, [(T, o)], cs, hf, h => by
    simp only [Ty.fits] at hf
    split at hf <;> simp_all
    rename_i fs hu
    obtain ⟨⟨h1, h3⟩, h2⟩ := hf
    obtain ⟨fuel, x, hx⟩ := h
    obtain ⟨ys, n', _, _, hlen, hyl, hg⟩ := DataW.trod_struct hu hx
    obtain ⟨y, hy⟩ := open_uni t (fs.toList.map fun f => (f.type, f.offset)) ((cs.drop o).take (P.cellsOf T)) h2 (fun T' o' hm => by
      obtain ⟨f, hf, he⟩ := List.mem_map.1 hm
      injection he with he1 he2
      subst he1 he2
      obtain ⟨i, hi, hie⟩ := List.mem_iff_getElem.1 hf
      have hi' : i < fs.size := by simpa using hi
      have hgi := hg i f (by rw [Array.getElem?_eq_getElem hi']; simp at hie; rw [hie])
      rw [List.getElem?_eq_getElem (by rw [hyl]; exact hi')] at hgi
      exact ⟨n', _, hgi⟩)
    refine ⟨y, ?_⟩
    obtain ⟨hd, hh1, hh2⟩ := h3
    simp only [List.head?_map, hh1, Option.map_some, Option.getD_some, hh2, List.drop_zero, h1, List.take_take, Nat.min_self] at hy
    exact hy
theorem trod_len {w : World} {base : Nat} {spare : Nat → Bool} {held : Bool} {t : Ty} {T : TypeId} {o fuel : Nat} {cs : List Value} {x : DataW H × List MemPlace} (hf : t.fits P [(T, o)] = true) (h : DataW.trod enc P w base spare held fuel T cs = some x) : cs.length = P.cellsOf T := by
  rw [fits_cells hf]
  cases t <;> simp only [Ty.fits] at hf <;> (try split at hf) <;> simp_all
  all_goals first
    | (rename_i hu; obtain ⟨z, hz, _⟩ := DataW.trod_int hu h; rw [hz]; rfl)
    | (rename_i hu; obtain ⟨z, hz, _⟩ := DataW.trod_bool hu h; rw [hz]; rfl)
    | (rename_i hu; rcases open_slice hu h with ⟨hcs, _⟩ | ⟨a, n, c, m, n', D, Pl, hcs, _⟩ <;> (rw [hcs]; rfl))
    | (rename_i hu; obtain ⟨_, _, _, _, hl, _⟩ := DataW.trod_struct hu h; rw [hl]; exact hf.1.1)
/-- An argument that came in, of any shape. -/
theorem open_any {w : World} {base : Nat} {spare : Nat → Bool} {held : Bool} {t : Ty} {T : TypeId} (hf : t.fits P [(T, 0)] = true) {v : Value} {d : DataW H} {ps : List MemPlace} (h : DataW.Trod enc P w base spare held T v d ps) :
    ∃ x : t.Den, t.Is w (fun b => b < w.heap.size) x v.cells.toList := by
  obtain ⟨fuel, h⟩ := h
  have hl := trod_len hf h
  obtain ⟨x, hx⟩ := open_uni (enc := enc) (w := w) (base := base) (spare := spare) (held := held) t [(T, 0)] v.cells.toList hf (fun T' o' hm => by
    simp at hm
    obtain ⟨rfl, rfl⟩ := hm
    exact ⟨fuel, _, by rw [List.drop_zero, List.take_of_length_le (by omega)]; exact h⟩)
  refine ⟨x, ?_⟩
  simp only [List.head?_cons, Option.map_some, Option.getD_some, List.drop_zero] at hx
  rw [List.take_of_length_le (by rw [hl, fits_cells hf]; exact Nat.le_refl _)] at hx
  exact hx.low
end Go.Px
namespace Go.Px
set_option maxRecDepth 20000
open Go.RowKit
set_option linter.unusedVariables false
theorem row_out {w : World} {Q : Nat → Prop} {t : Ty} {xs : List t.Den} {A : Option Addr} {n c : Nat} (h : (Ty.row t).Is w Q xs [.slice A n c]) : ∃ vs, xs.length = n ∧ n ≤ c ∧ c ≤ 9223372036854775807 ∧ Rd w A vs ∧ (xs ≠ [] → ∀ a, A = some a → Q a.block) ∧ t.Rows w Q xs vs := by
  obtain ⟨A', n', c', vs, hv, h1, h2, h3, h4, h5, h6⟩ := h
  injection hv with e1 e2 e3
  subst e1 e2 e3
  exact ⟨vs, h1, h2, h3, h4, h5, h6⟩
section
variable {w : World} {Q : Nat → Prop}
end
end Go.Px
namespace Go.Proofs.Ytkknkdjdneldlaa
set_option maxRecDepth 20000
open Go.RowKit Go.Px
theorem laidOut : laidOutB Try.prog = true := by kernel_rfl
end Go.Proofs.Ytkknkdjdneldlaa
namespace Go.Proofs.Ytkknkdjdneldlaa
set_option maxRecDepth 20000
open Go.RowKit Go.Px
set_option linter.unusedVariables false
theorem eqR_self (k : Nat) (ds : List UInt8) : eqR k ds k ds = true := by unfold eqR; simp
end Go.Proofs.Ytkknkdjdneldlaa
namespace Go.Proofs.Ytkknkdjdneldlaa
set_option maxRecDepth 20000
open Go.RowKit Go.Px Go.Maps
set_option linter.unusedVariables false
theorem state_renum {w : World} {Q : Nat → Prop} {x : StateD} {c0 : Value} {cs : List Value} (h : tyState.Is w Q x (c0 :: cs)) {n : Int} (hn : -9223372036854775808 ≤ n ∧ n ≤ 9223372036854775807) : tyState.Is w Q (n, x.2) (.int .i64 n :: cs) := by
  obtain ⟨h1, h2⟩ := h
  exact ⟨⟨rfl, hn⟩, h2⟩
theorem state_head {w : World} {Q : Nat → Prop} {x : StateD} {c0 : Value} {cs : List Value} (h : tyState.Is w Q x (c0 :: cs)) : c0 = .int .i64 x.1 := by
  obtain ⟨⟨h1, _⟩, h2⟩ := h
  exact h1
theorem MIs.avoidLow {Z Y : Nat → Prop} {w : World} {L : Nat} {f : MFp} {a : MA} {N NN B : Nat} {D : DataW Value} {G : Option Addr} {gn gc : Nat} (h : MIs w L Y f a N NN B D G gn gc) (hZ : ∀ b, Z b → b < L) : MIs w L (fun b => Y b ∨ Z b) f a N NN B D G gn gc := by
  obtain ⟨y1, y2, y3, y4, y5, y6⟩ := h.yA
  obtain ⟨l1, l2, l3⟩ := h.lo
  obtain ⟨b1, b2, b3, b4⟩ := h.hiB
  obtain ⟨c1, c2⟩ := h.tab.hB
  have no : ∀ b, L ≤ b → ¬ Y b → ¬ (Y b ∨ Z b) := fun b h1 h2 h3 => by
    rcases h3 with h3 | h3
    · exact h2 h3
    · have := hZ b h3; omega
  exact { h with
    gA := fun a' ha => by
      obtain ⟨g1, g2, g3, g4, g5⟩ := h.gA a' ha
      exact ⟨g1, g2, g3, g4, no _ (by omega) g5⟩
    dA := fun c s k bs A d dc hm hat hne a' ha => by
      have h1 := h.dA c s k bs A d dc hm hat hne a' ha
      have h2 := h.tab.dataB c s k bs A d dc hm hat hne a' ha
      exact ⟨h1.1, no _ (by omega) h1.2⟩
    yA := ⟨no _ (by omega) y1, no _ (by omega) y2, no _ (by omega) y3, no _ (by omega) y4, no _ (by omega) y5, no _ (by omega) y6⟩ }
theorem MX.avoidLow {Z Y : Nat → Prop} {w : World} {L : Nat} {f : MFp} {a : MA} {N : Nat} (h : MX w L Y f a N) (hZ : ∀ b, Z b → b < L) : MX w L (fun b => Y b ∨ Z b) f a N := by
  obtain ⟨NN, B, D, G, gn, gc, h⟩ := h
  exact ⟨NN, B, D, G, gn, gc, h.avoidLow hZ⟩
theorem apply_code {a : MA} {e : EntryD} (h : entryB e = false) : a.apply e = (a, 71, 0, []) := by
  unfold MA.apply; rw [if_neg (by rw [h]; decide)]
set_option maxRecDepth 20000 in
set_option maxHeartbeats 25600000 in
theorem machineOnce_walk (A1 : Option Addr) (n1 c1 : Nat) (es1 : List EntryD) (vs1 : List Value) (w : World) {Q Q' : Nat → Prop} {x : StateD} {cs : List Value} {e : EntryD} {ds : List Value} (h : tyState.Is w Q x cs) (hE : tyEntry.Is w Q' e ds) (hA1 : EntsAt w w.heap.size A1 n1 es1 vs1) (hn1 : n1 ≤ 9223372036854775807) :
    Calls Try.prog 4 #[.agg cs.toArray, .agg ds.toArray, .slice A1 n1 c1] w fun x w' => x = .returned (.bool true) ∧ Below w.heap.size w w' := by
  have h' := h
  obtain ⟨sNum, sShapeBlocks, sShapeSize, sPages, sPagesA, sPagesn, sPagesc, sPagesv, sRows, sRowsA, sRowsn, sRowsc, sRowsv, sGroupEpoch, sGroupMembers, sGroupMembersA, sGroupMembersn, sGroupMembersc, sGroupMembersv, rfl, rfl, h1_sNum, h2_sNum, h1_sShapeBlocks, h2_sShapeBlocks, h1_sShapeSize, h2_sShapeSize, hl_sPages, hc_sPages, hm_sPages, hr_sPages, hq_sPages, he_sPages, hl_sRows, hc_sRows, hm_sRows, hr_sRows, hq_sRows, he_sRows, h1_sGroupEpoch, h2_sGroupEpoch, hl_sGroupMembers, hc_sGroupMembers, hm_sGroupMembers, hr_sGroupMembers, hq_sGroupMembers, he_sGroupMembers⟩ := State_out h'
  have hE' := hE
  obtain ⟨eKind, eNum, eView, eClient, eSerial, eOpKind, eOpAt, eOpN, eOpData, eOpDataA, eOpDatan, eOpDatac, eOpOld, eOpOldA, eOpOldn, eOpOldc, eGroupEpoch, eGroupMembers, eGroupMembersA, eGroupMembersn, eGroupMembersc, eGroupMembersv, rfl, rfl, hu_eKind, h1_eNum, h2_eNum, h1_eView, h2_eView, h1_eClient, h2_eClient, h1_eSerial, h2_eSerial, hu_eOpKind, h1_eOpAt, h2_eOpAt, h1_eOpN, h2_eOpN, hl_eOpData, hc_eOpData, hm_eOpData, hr_eOpData, hq_eOpData, hl_eOpOld, hc_eOpOld, hm_eOpOld, hr_eOpOld, hq_eOpOld, h1_eGroupEpoch, h2_eGroupEpoch, hl_eGroupMembers, hc_eGroupMembers, hm_eGroupMembers, hr_eGroupMembers, hq_eGroupMembers, he_eGroupMembers⟩ := Entry_out hE'
  obtain ⟨gE, hgE⟩ : ∃ y, w.heap.size + 1 = y := ⟨_, rfl⟩
  obtain ⟨w0, hw0⟩ : ∃ x, (w.alloc (.cells #[.int .i64 sNum, .int .i64 sShapeBlocks, .int .i64 sShapeSize, .slice sPagesA sPagesn sPagesc, .slice sRowsA sRowsn sRowsc, .int .i64 sGroupEpoch, .slice sGroupMembersA sGroupMembersn sGroupMembersc] 39)).alloc (.cells #[.int .u8 eKind, .int .i64 eNum, .int .i64 eView, .int .i64 eClient, .int .i64 eSerial, .int .u8 eOpKind, .int .i64 eOpAt, .int .i64 eOpN, .slice eOpDataA eOpDatan eOpDatac, .slice eOpOldA eOpOldn eOpOldc, .int .i64 eGroupEpoch, .slice eGroupMembersA eGroupMembersn eGroupMembersc] 50) = x := ⟨_, rfl⟩
  have hBS : Blk w0 w.heap.size [.int .i64 sNum, .int .i64 sShapeBlocks, .int .i64 sShapeSize, .slice sPagesA sPagesn sPagesc, .slice sRowsA sRowsn sRowsc, .int .i64 sGroupEpoch, .slice sGroupMembersA sGroupMembersn sGroupMembersc] 39 := by rw [← hw0]; exact (Blk.new w [.int .i64 sNum, .int .i64 sShapeBlocks, .int .i64 sShapeSize, .slice sPagesA sPagesn sPagesc, .slice sRowsA sRowsn sRowsc, .int .i64 sGroupEpoch, .slice sGroupMembersA sGroupMembersn sGroupMembersc] _).alloc _
  have hBE : Blk w0 gE [.int .u8 eKind, .int .i64 eNum, .int .i64 eView, .int .i64 eClient, .int .i64 eSerial, .int .u8 eOpKind, .int .i64 eOpAt, .int .i64 eOpN, .slice eOpDataA eOpDatan eOpDatac, .slice eOpOldA eOpOldn eOpOldc, .int .i64 eGroupEpoch, .slice eGroupMembersA eGroupMembersn eGroupMembersc] 50 := by
    rw [← hw0, ← hgE]
    have := Blk.new (w.alloc (.cells #[.int .i64 sNum, .int .i64 sShapeBlocks, .int .i64 sShapeSize, .slice sPagesA sPagesn sPagesc, .slice sRowsA sRowsn sRowsc, .int .i64 sGroupEpoch, .slice sGroupMembersA sGroupMembersn sGroupMembersc] 39)) [.int .u8 eKind, .int .i64 eNum, .int .i64 eView, .int .i64 eClient, .int .i64 eSerial, .int .u8 eOpKind, .int .i64 eOpAt, .int .i64 eOpN, .slice eOpDataA eOpDatan eOpDatac, .slice eOpOldA eOpOldn eOpOldc, .int .i64 eGroupEpoch, .slice eGroupMembersA eGroupMembersn eGroupMembersc] 50
    rwa [World.size_alloc] at this
  have hbw0 : Below w.heap.size w w0 := by rw [← hw0]; exact ((Below.refl _ _).alloc (Nat.le_refl _) _).alloc (by simp) _
  have zz0 : w0.heap.size = gE + 1 := by rw [← hw0, World.size_alloc, World.size_alloc, hgE]
  have h0 := h.below hbw0
  have hE0 := hE.low.below hbw0
  have z0 := hbw0.size
  have Hw0 := hide hw0
  clear hw0
  go_enter Try.func4, Try.ntmps4
  go_wp2_with fail
  rw [Hw0.out]
  go_fit (awake07_any w0)
  rintro x w1 ⟨rfl, hb1⟩
  have hb01 := hbw0.trans (hb1.mono hbw0.size)
  have z1 := hb1.size
  have hB1 := hBS.below hb1
  have y0 := Blk.cell hB1 (j := 0) rfl; have y1 := Blk.cell hB1 (j := 1) rfl; have y2 := Blk.cell hB1 (j := 2) rfl; have y3 := Blk.cell hB1 (j := 3) rfl; have y4 := Blk.cell hB1 (j := 4) rfl; have y5 := Blk.cell hB1 (j := 5) rfl; have y6 := Blk.cell hB1 (j := 6) rfl
  go_wp2_with fail
  go_fit (begin7_any (h0.below hb1))
  rintro x w2 (⟨rfl, hb2⟩ | ⟨f, rf, lo, rfl, hx, hM2, hR2, hlo, hb2⟩)
  · go_wp2
    go_ret
    exact ⟨rfl, hb01.trans (hb2.mono (by omega))⟩
  have hb02 := hb01.trans (hb2.mono (by omega))
  have z2 := hb2.size
  have hfit0 := fit_of hx
  obtain ⟨a0, ha0⟩ : ∃ y, MA.of (sNum, (sShapeBlocks, sShapeSize), sPages, sRows, (sGroupEpoch, sGroupMembers)) = y := ⟨_, rfl⟩
  have hn0 : a0.num = sNum := by rw [← ha0]; rfl
  rw [ha0] at hM2 hfit0
  obtain ⟨L0, hL0⟩ : ∃ y, w1.heap.size = y := ⟨_, rfl⟩
  rw [hL0] at hM2
  have hwL : w.heap.size ≤ L0 := by omega
  have hlow := hM2.low
  have hrlt : ∀ b, rf.W b → b < w2.heap.size := hR2.lts
  have hwz : w.heap.size ≤ w2.heap.size := by omega
  have gEL : gE < L0 := by omega
  have hM2 := hM2.avoidLow (Z := fun b => b < L0) (fun b hb => hb)
  have hLz : L0 ≤ w2.heap.size := by omega
  have hM2lt := hM2.lts
  have hnW : ∀ b, b < L0 → ¬ f.W b := fun b h1 h2 => by have := hlow b h2; omega
  have hBE2 := (hBE.below hb1).below hb2
  have hI2 := (hE0.below hb1).below hb2
  clear hR2 hL0 y0 y1 y2 y3 y4 y5 y6
  have yn := (hB1.below hb2).cell (j := 0) rfl
  by_cases hq : 1099511627776 < sNum
  · go_wp2
    go_ret
    exact ⟨rfl, hb02⟩
  have hnum := numB_out hfit0.ok.num
  have hqa : ¬ 1099511627776 < a0.num := by rw [hn0]; exact hq
  clear hn0
  obtain ⟨NN9, B9, D9, G9, gn9, gc9, hMI⟩ := hM2
  have HNum := hide (num7_any hMI)
  have hM2 : MX w2 L0 (fun b => rf.W b ∨ b < L0) f a0 64 := ⟨NN9, B9, D9, G9, gn9, gc9, hMI⟩
  clear hMI
  go_wp2_with fail
  go_fit HNum.out
  rintro x w2' ⟨rfl, rfl⟩
  have x1 := hBE2.cell (j := 1) rfl
  have xf := hBE2.frozen 1
  have hX' := hBE2.set 1 (.int .i64 (a0.num + 1))
  have y0 := Blk.cell hX' (j := 0) rfl; have y1 := Blk.cell hX' (j := 1) rfl; have y2 := Blk.cell hX' (j := 2) rfl; have y3 := Blk.cell hX' (j := 3) rfl; have y4 := Blk.cell hX' (j := 4) rfl; have y5 := Blk.cell hX' (j := 5) rfl; have y6 := Blk.cell hX' (j := 6) rfl; have y7 := Blk.cell hX' (j := 7) rfl; have y8 := Blk.cell hX' (j := 8) rfl; have y9 := Blk.cell hX' (j := 9) rfl; have y10 := Blk.cell hX' (j := 10) rfl; have y11 := Blk.cell hX' (j := 11) rfl
  obtain ⟨w3, hw3⟩ : ∃ y, w2.setCell ⟨gE, 1, none⟩ (.int .i64 (a0.num + 1)) = y := ⟨_, rfl⟩
  have F3 : Fr (fun b => b = gE) w2 w3 := by rw [← hw3]; exact Fr.setg w2 gE 1 _
  have hE3 : Blk w3 gE [.int .u8 eKind, .int .i64 (a0.num + 1), .int .i64 eView, .int .i64 eClient, .int .i64 eSerial, .int .u8 eOpKind, .int .i64 eOpAt, .int .i64 eOpN, .slice eOpDataA eOpDatan eOpDatac, .slice eOpOldA eOpOldn eOpOldc, .int .i64 eGroupEpoch, .slice eGroupMembersA eGroupMembersn eGroupMembersc] 50 := by rw [← hw3]; exact hX'
  have hM3 := hM2.fr F3 (fun b hb _ => .inr (by omega))
  have hI3 := entry_renum (hI2.fr F3 (fun b hb => by omega)) (n := a0.num + 1) (by omega)
  have hB3 : Below w.heap.size w w3 := F3.below hb02 (by omega) (fun k hk => by omega)
  have z3 := F3.size
  have Hw3 := hide hw3
  obtain ⟨NN9, B9, D9, G9, gn9, gc9, hMI⟩ := hM3
  have HAsk := hide (ask7_any hMI eClient eSerial)
  have hM3 : MX w3 L0 (fun b => rf.W b ∨ b < L0) f a0 64 := ⟨NN9, B9, D9, G9, gn9, gc9, hMI⟩
  generalize hV : askV (tmOf a0.rows) a0.rows.length eClient eSerial = V at HAsk
  obtain ⟨V1, V2, V3, V4⟩ := V
  simp only at HAsk
  have HV := hide hV
  clear hw3 hX' hM2 HNum hMI hV
  go_wp2_with fail
  rw [Hw3.out]
  clear x1 xf y0 y1 y2 y3 y4 y5 y6 y7 y8 y9 y10 y11 yn
  go_fit HAsk.out
  rintro x w4 ⟨A4, c4, rfl, q1, q2, q3, q4, hb4⟩
  clear q1 q2 q3 q4
  have hB4 := hB3.trans (hb4.mono hB3.size)
  have z4 := hb4.size
  obtain ⟨w5, hw5⟩ : ∃ y, w4.alloc (.cells #[.int .u8 V3, .slice A4 V4.length c4] 57) = y := ⟨_, rfl⟩
  have hb45 : Below w4.heap.size w4 w5 := by rw [← hw5]; exact (Below.refl _ _).alloc (Nat.le_refl _) _
  have hb35 := hb4.trans (hb45.mono hb4.size)
  have hM5 := hM3.below hb35
  have hE5 := hE3.below hb35
  have hI5 := hI3.below hb35
  have hB5 := hB3.trans (hb35.mono hB3.size)
  have z5 := hb45.size
  have yy := (hE3.below hb4).alloc (.cells #[.int .u8 V3, .slice A4 V4.length c4] 57)
  have y0 := Blk.cell yy (j := 0) rfl; have y1 := Blk.cell yy (j := 1) rfl; have y2 := Blk.cell yy (j := 2) rfl; have y3 := Blk.cell yy (j := 3) rfl; have y4 := Blk.cell yy (j := 4) rfl; have y5 := Blk.cell yy (j := 5) rfl; have y6 := Blk.cell yy (j := 6) rfl; have y7 := Blk.cell yy (j := 7) rfl; have y8 := Blk.cell yy (j := 8) rfl; have y9 := Blk.cell yy (j := 9) rfl; have y10 := Blk.cell yy (j := 10) rfl; have y11 := Blk.cell yy (j := 11) rfl
  have Hw5 := hide hw5
  have AP := apply_at hM5 hfit0 hI5 hwL (fun b hb => by rcases hb with hb | hb; have := hrlt b hb; omega; omega) (by decide) hB5 (by omega)
  have hXc : entryB (eKind, a0.num + 1, eView, eClient, eSerial, (eOpKind, eOpAt, eOpN, eOpData, eOpOld), eGroupEpoch, eGroupMembers) = false ∨ (entryB (eKind, a0.num + 1, eView, eClient, eSerial, (eOpKind, eOpAt, eOpN, eOpData, eOpOld), eGroupEpoch, eGroupMembers) = true ∧ (a0.apply (eKind, a0.num + 1, eView, eClient, eSerial, (eOpKind, eOpAt, eOpN, eOpData, eOpOld), eGroupEpoch, eGroupMembers)).2.1 = 0 ∧ ((V1 = 1 ∨ V1 = 2) → tmOf (a0.apply (eKind, a0.num + 1, eView, eClient, eSerial, (eOpKind, eOpAt, eOpN, eOpData, eOpOld), eGroupEpoch, eGroupMembers)).1.rows eClient = some (eSerial, (a0.apply (eKind, a0.num + 1, eView, eClient, eSerial, (eOpKind, eOpAt, eOpN, eOpData, eOpOld), eGroupEpoch, eGroupMembers)).2.2.1, (a0.apply (eKind, a0.num + 1, eView, eClient, eSerial, (eOpKind, eOpAt, eOpN, eOpData, eOpOld), eGroupEpoch, eGroupMembers)).2.2.2) ∧ (a0.apply (eKind, a0.num + 1, eView, eClient, eSerial, (eOpKind, eOpAt, eOpN, eOpData, eOpOld), eGroupEpoch, eGroupMembers)).1.num = a0.num + 1)) := by
    cases hxe : entryB (eKind, a0.num + 1, eView, eClient, eSerial, (eOpKind, eOpAt, eOpN, eOpData, eOpOld), eGroupEpoch, eGroupMembers) with
    | false => exact .inl rfl
    | true =>
      refine .inr ⟨rfl, ?_, fun hv => ?_⟩
      · unfold MA.apply
        rw [if_pos hxe, if_pos rfl]
        split <;> rfl
      · have hv' : (askV (tmOf a0.rows) a0.rows.length eClient eSerial).1 = 1 ∨ (askV (tmOf a0.rows) a0.rows.length eClient eSerial).1 = 2 := by rw [HV.out]; exact hv
        obtain ⟨r1, r2, r3⟩ := once_first hfit0 (e := (eKind, a0.num + 1, eView, eClient, eSerial, (eOpKind, eOpAt, eOpN, eOpData, eOpOld), eGroupEpoch, eGroupMembers)) hxe rfl hv'
        exact ⟨r1, r3⟩
  have hbad : entryB (eKind, a0.num + 1, eView, eClient, eSerial, (eOpKind, eOpAt, eOpN, eOpData, eOpOld), eGroupEpoch, eGroupMembers) = false → (a0.apply (eKind, a0.num + 1, eView, eClient, eSerial, (eOpKind, eOpAt, eOpN, eOpData, eOpOld), eGroupEpoch, eGroupMembers)).2.1 = 71 := fun hh => by rw [apply_code hh]
  have hnn := (apply_num hfit0.ok (eKind, a0.num + 1, eView, eClient, eSerial, (eOpKind, eOpAt, eOpN, eOpData, eOpOld), eGroupEpoch, eGroupMembers)).2
  generalize a0.apply (eKind, a0.num + 1, eView, eClient, eSerial, (eOpKind, eOpAt, eOpN, eOpData, eOpOld), eGroupEpoch, eGroupMembers) = R at AP hXc hbad hnn
  obtain ⟨a1, i1, k1, d1⟩ := R
  simp only at AP hXc hbad hnn
  have HAP := hide AP
  have HXc := hide hXc
  have Hbad := hide hbad
  clear hw5 yy AP hXc hbad hM5 hM3 hI3 hI2
  go_wp2_with fail
  rw [Hw5.out]
  clear y0 y1 y2 y3 y4 y5 y6 y7 y8 y9 y10 y11
  go_fit HAP.out
  rintro x w6 ⟨A6, c6, rfl, p1, p2, p3, p4, hM6, hfit6, F6, hB6⟩
  have z6 := F6.size
  obtain ⟨d1n, hd1⟩ : ∃ y, d1.length = y := ⟨_, rfl⟩
  rw [hd1] at p1 ⊢
  have Hd1 := hide hd1
  obtain ⟨w7, hw7⟩ : ∃ y, w6.alloc (.cells #[.int .u8 k1, .slice A6 d1n c6] 57) = y := ⟨_, rfl⟩
  obtain ⟨gR, hgR⟩ : ∃ y, w6.heap.size = y := ⟨_, rfl⟩
  have hR7 : Blk w7 gR [.int .u8 k1, .slice A6 d1n c6] 57 := by rw [← hw7, ← hgR]; exact Blk.new w6 [.int .u8 k1, .slice A6 d1n c6] _
  have hb67 : Below w6.heap.size w6 w7 := by rw [← hw7]; exact (Below.refl _ _).alloc (Nat.le_refl _) _
  have hM7 := hM6.below hb67
  have hB7 := hB6.trans (hb67.mono hB6.size)
  have hE7 := (hE5.fr F6 (hnW _ gEL)).below hb67
  have hI7 := (hI5.fr F6 (fun b hb => hnW b (by omega))).below hb67
  have p37 := p3.below hb67
  have z7 : w7.heap.size = gR + 1 := by rw [← hw7, World.size_alloc, hgR]
  have Hw7 := hide hw7
  clear hd1 hw7 p3 hM6 hE5 hI5
  rcases HXc.out with hxe | ⟨hxe, hi1, hv⟩
  · have h71 := Hbad.out hxe
    subst h71
    go_wp2
    rw [Hw7.out]
    go_ret
    exact ⟨rfl, hB7⟩
  subst hi1
  by_cases hV : V1 = 1 ∨ V1 = 2
  case neg =>
    have v1 : (V1 != 1) = true := by simp; omega
    have v2 : (V1 != 2) = true := by simp; omega
    go_wp2
    rw [Hw7.out]
    go_ret
    exact ⟨rfl, hB7⟩
  obtain ⟨htm, hn1'⟩ := hv hV
  have HTm := hide htm
  have Hxe := hide hxe
  have hlt7 := hM7.lts
  have hV' : ((V1 != 1) = true ∧ (V1 != 2) = false) ∨ (V1 != 1) = false := by rcases hV with rfl | rfl; exact .inr rfl; exact .inl ⟨rfl, rfl⟩
  have hi6 : 0 ≤ a1.num := (numB_out hfit6.ok.num).1
  clear htm hxe hv HXc Hbad HAP HAsk HV hV
  rcases hV' with ⟨v1, v2⟩ | v1
  all_goals
    go_wp2
    rw [Hw7.out]
    go_loopw [15] (fun iv wr => ∃ (i : Nat) (a : MA) (N : Nat), i ≤ n1 ∧ i ≤ 100 ∧ N ≤ 65 + i ∧ iv = .int .i64 i ∧ MX wr L0 (fun b => rf.W b ∨ b < L0) f a N ∧ a.Fit ∧ Hid (tmOf a.rows eClient = some (eSerial, k1, d1)) ∧ a.num ≤ a1.num + i ∧ Fr f.W w7 wr ∧ Below w.heap.size w wr) (fun iv _ => n1 - (intOf iv).toNat)
    case atStart => exact ⟨0, a1, 65, by omega, by omega, by omega, rfl, hM7, hfit6, HTm, by omega, Fr.refl _ _, hB7⟩
    case round =>
      obtain ⟨i, a, N, hi1, hi2, hN, rfl, hM, hfit, hTm, hnu, FW, hBw⟩ := hrel
      have zW := FW.size
      have hMl := hM.lts
      have hnum2 := numB_out hfit.ok.num
      by_cases hlt : i < n1 ∧ i < 100
      · obtain ⟨hlt1, hlt2⟩ := hlt
        obtain ⟨x9, p, xcs, he, hAp, hI, hat, hc⟩ := hA1.at_ hBw hlt1
        subst hAp
        have hI' := hI
        obtain ⟨xKind, xNum, xView, xClient, xSerial, xOpKind, xOpAt, xOpN, xOpData, xOpDataA, xOpDatan, xOpDatac, xOpOld, xOpOldA, xOpOldn, xOpOldc, xGroupEpoch, xGroupMembers, xGroupMembersA, xGroupMembersn, xGroupMembersc, xGroupMembersv, rfl, rfl, hu_xKind, h1_xNum, h2_xNum, h1_xView, h2_xView, h1_xClient, h2_xClient, h1_xSerial, h2_xSerial, hu_xOpKind, h1_xOpAt, h2_xOpAt, h1_xOpN, h2_xOpN, hl_xOpData, hc_xOpData, hm_xOpData, hr_xOpData, hq_xOpData, hl_xOpOld, hc_xOpOld, hm_xOpOld, hr_xOpOld, hq_xOpOld, h1_xGroupEpoch, h2_xGroupEpoch, hl_xGroupMembers, hc_xGroupMembers, hm_xGroupMembers, hr_xGroupMembers, hq_xGroupMembers, he_xGroupMembers⟩ := Entry_out hI'
        have y0 := el_0 (n := 12) hat (hc 0 _ rfl); have y1 := el_S (n := 12) (i := 0) hat (hc 1 _ rfl); have y2 := el_S (n := 12) (i := 1) hat (hc 2 _ rfl); have y3 := el_S (n := 12) (i := 2) hat (hc 3 _ rfl); have y4 := el_S (n := 12) (i := 3) hat (hc 4 _ rfl); have y5 := el_S (n := 12) (i := 4) hat (hc 5 _ rfl); have y6 := el_S (n := 12) (i := 5) hat (hc 6 _ rfl); have y7 := el_S (n := 12) (i := 6) hat (hc 7 _ rfl); have y8 := el_S (n := 12) (i := 7) hat (hc 8 _ rfl); have y9 := el_S (n := 12) (i := 8) hat (hc 9 _ rfl); have y10 := el_S (n := 12) (i := 9) hat (hc 10 _ rfl); have y11 := el_S (n := 12) (i := 10) hat (hc 11 _ rfl)
        obtain ⟨gX, hgX⟩ : ∃ y, wr.heap.size = y := ⟨_, rfl⟩
        obtain ⟨wA, hwA⟩ : ∃ y, wr.alloc (.cells #[.int .u8 xKind, .int .i64 xNum, .int .i64 xView, .int .i64 xClient, .int .i64 xSerial, .int .u8 xOpKind, .int .i64 xOpAt, .int .i64 xOpN, .slice xOpDataA xOpDatan xOpDatac, .slice xOpOldA xOpOldn xOpOldc, .int .i64 xGroupEpoch, .slice xGroupMembersA xGroupMembersn xGroupMembersc] 50) = y := ⟨_, rfl⟩
        have hX : Blk wA gX [.int .u8 xKind, .int .i64 xNum, .int .i64 xView, .int .i64 xClient, .int .i64 xSerial, .int .u8 xOpKind, .int .i64 xOpAt, .int .i64 xOpN, .slice xOpDataA xOpDatan xOpDatac, .slice xOpOldA xOpOldn xOpOldc, .int .i64 xGroupEpoch, .slice xGroupMembersA xGroupMembersn xGroupMembersc] 50 := by rw [← hwA, ← hgX]; exact Blk.new wr [.int .u8 xKind, .int .i64 xNum, .int .i64 xView, .int .i64 xClient, .int .i64 xSerial, .int .u8 xOpKind, .int .i64 xOpAt, .int .i64 xOpN, .slice xOpDataA xOpDatan xOpDatac, .slice xOpOldA xOpOldn xOpOldc, .int .i64 xGroupEpoch, .slice xGroupMembersA xGroupMembersn xGroupMembersc] _
        have hbA : Below wr.heap.size wr wA := by rw [← hwA]; exact (Below.refl _ _).alloc (Nat.le_refl _) _
        have hMA := (hM.avoid (Z := fun b => b = gX) (fun b hb => by omega)).below hbA
        have hIA := hI.below hbA
        have hBA := hBw.trans (hbA.mono hBw.size)
        have zA : wA.heap.size = gX + 1 := by rw [← hwA, World.size_alloc, hgX]
        have zw := hBw.size
        have FA : Fr f.W w7 wA := FW.trans (Fr.of_below hbA)
        have HwA := hide hwA
        obtain ⟨NN9, B9, D9, G9, gn9, gc9, hMI⟩ := hMA
        have HNum := hide (num7_any hMI)
        have hMA : MX wA L0 (fun b => (rf.W b ∨ b < L0) ∨ b = gX) f a N := ⟨NN9, B9, D9, G9, gn9, gc9, hMI⟩
        clear hat hc hI hM hwA hMI
        go_wp2_with fail
        rw [HwA.out]
        clear y0 y1 y2 y3 y4 y5 y6 y7 y8 y9 y10 y11
        go_fit HNum.out
        rintro x wA' ⟨rfl, rfl⟩
        have x1 := hX.cell (j := 1) rfl
        have xf := hX.frozen 1
        have hX' := hX.set 1 (.int .i64 (a.num + 1))
        have y0 := Blk.cell hX' (j := 0) rfl; have y1 := Blk.cell hX' (j := 1) rfl; have y2 := Blk.cell hX' (j := 2) rfl; have y3 := Blk.cell hX' (j := 3) rfl; have y4 := Blk.cell hX' (j := 4) rfl; have y5 := Blk.cell hX' (j := 5) rfl; have y6 := Blk.cell hX' (j := 6) rfl; have y7 := Blk.cell hX' (j := 7) rfl; have y8 := Blk.cell hX' (j := 8) rfl; have y9 := Blk.cell hX' (j := 9) rfl; have y10 := Blk.cell hX' (j := 10) rfl; have y11 := Blk.cell hX' (j := 11) rfl
        obtain ⟨wB, hwB⟩ : ∃ y, wA.setCell ⟨gX, 1, none⟩ (.int .i64 (a.num + 1)) = y := ⟨_, rfl⟩
        have FB : Fr (fun b => b = gX) wA wB := by rw [← hwB]; exact Fr.setg wA gX 1 _
        have hEA := hE7.fr FA (hnW _ gEL)
        have hEB := hEA.apart (k := gX) (by omega) 1 (.int .i64 (a.num + 1))
        have e3 := hEB.cell (j := 3) rfl
        have hMB := hMA.fr FB (fun b hb _ => .inr hb)
        have hIB := entry_renum (hIA.fr FB (fun b hb => by omega)) (n := a.num + 1) (by omega)
        have hBB : Below w.heap.size w wB := FB.below hBA (by omega) (fun k hk => by omega)
        have FWB : Fr f.W w7 wB := FA.trans' FB (fun b hb => .inr (by omega))
        have zB := FB.size
        have HwB := hide hwB
        by_cases hcl : xClient = eClient
        · have qc : (xClient != eClient) = false := by simp [hcl]
          have HMB := hide (hMB.free (Y' := fun b => rf.W b ∨ b < L0) (fun b hb => .inl hb))
          clear hwB hX' hMA hIA HNum hMB hIB hcl
          go_wp2
          rw [HwB.out]
          clear x1 xf y0 y1 y2 y3 y4 y5 y6 y7 y8 y9 y10 y11 e3
          go_roundw
          case rel => exact ⟨i + 1, a, N, by omega, by omega, by omega, by go_num, HMB.out, hfit, hTm, by omega, FWB, hBB⟩
          case measure => simp [intOf]; omega
        · have qc : (xClient != eClient) = true := by simp [hcl]
          have HAP := hide (apply_at hMB hfit hIB hwL (fun b hb => by rcases hb with (hb | hb) | hb; have := hrlt b hb; omega; omega; omega) (by omega) hBB (by omega))
          have hk5 := hide ((once_keep hfit (x := (xKind, a.num + 1, xView, xClient, xSerial, (xOpKind, xOpAt, xOpN, xOpData, xOpOld), xGroupEpoch, xGroupMembers)) (c := eClient) hcl).trans hTm.out)
          have hn5 := (apply_num hfit.ok (xKind, a.num + 1, xView, xClient, xSerial, (xOpKind, xOpAt, xOpN, xOpData, xOpOld), xGroupEpoch, xGroupMembers)).2
          clear hwB hX' hMA hIA HNum hMB hIB hcl
          go_wp2_with fail
          rw [HwB.out]
          clear x1 xf y0 y1 y2 y3 y4 y5 y6 y7 y8 y9 y10 y11 e3
          go_fit HAP.out
          rintro x w8 ⟨A8, c8, rfl, k1', k2', k3', k4', hM8, hfit8, F8, hB8⟩
          have HM8 := hide (hM8.free (Y' := fun b => rf.W b ∨ b < L0) (fun b hb => .inl hb))
          have hfit8' := hide hfit8
          have FW8 := FWB.trans F8
          clear k1' k2' k3' k4' hM8 hfit8
          go_wp2
          go_roundw
          case rel => exact ⟨i + 1, _, N + 1, by omega, by omega, by omega, by go_num, HM8.out, hfit8'.out, hk5, by omega, FW8, hB8⟩
          case measure => simp [intOf]; omega
      · rcases (show i = n1 ∨ (i < n1 ∧ i = 100) by omega) with rfl | ⟨hl2, rfl⟩
        all_goals
          have hxn := entry_num Hxe.out (n := a.num + 1) (decide_eq_true ⟨by omega, by omega⟩)
          have hag := once_again (a := a) (e := (eKind, a.num + 1, eView, eClient, eSerial, (eOpKind, eOpAt, eOpN, eOpData, eOpOld), eGroupEpoch, eGroupMembers)) hxn rfl hTm.out
          have hM' := hM
          obtain ⟨NN9, B9, D9, G9, gn9, gc9, hMI⟩ := hM'
          have hRr := hR7.fr FW (fun hW => by have := hlt7 _ hW; have := hM2lt _ hW; omega)
          have hEr := hE7.fr FW (hnW _ gEL)
          have hIr := hI7.fr FW (fun b hb => hnW b (by omega))
          have p3r := p37.fr FW (fun _ a' ha hW => by have := p4 a' ha; have := hM2lt _ hW; omega)
          go_wp2_with fail
          go_fit (state7_any hMI hfit.ok 0)
          rintro x w8 ⟨cs8, rfl, hS8, hb8⟩
          have z8 := hb8.size
          have hB8 := hBw.trans (hb8.mono hBw.size)
          obtain ⟨x8, hx8⟩ : ∃ y, a.st 0 = y := ⟨_, rfl⟩
          rw [hx8] at hS8
          have Hx8 := hide hx8
          clear hx8
          have hS8 := hS8.here
          have hS8' := hS8
          obtain ⟨uNum, uShapeBlocks, uShapeSize, uPages, uPagesA, uPagesn, uPagesc, uPagesv, uRows, uRowsA, uRowsn, uRowsc, uRowsv, uGroupEpoch, uGroupMembers, uGroupMembersA, uGroupMembersn, uGroupMembersc, uGroupMembersv, rfl, rfl, h1_uNum, h2_uNum, h1_uShapeBlocks, h2_uShapeBlocks, h1_uShapeSize, h2_uShapeSize, hl_uPages, hc_uPages, hm_uPages, hr_uPages, hq_uPages, he_uPages, hl_uRows, hc_uRows, hm_uRows, hr_uRows, hq_uRows, he_uRows, h1_uGroupEpoch, h2_uGroupEpoch, hl_uGroupMembers, hc_uGroupMembers, hm_uGroupMembers, hr_uGroupMembers, hq_uGroupMembers, he_uGroupMembers⟩ := State_out hS8'
          obtain ⟨gW, hgW⟩ : ∃ y, w8.heap.size = y := ⟨_, rfl⟩
          obtain ⟨w9, hw9⟩ : ∃ y, w8.alloc (.cells #[.int .i64 uNum, .int .i64 uShapeBlocks, .int .i64 uShapeSize, .slice uPagesA uPagesn uPagesc, .slice uRowsA uRowsn uRowsc, .int .i64 uGroupEpoch, .slice uGroupMembersA uGroupMembersn uGroupMembersc] 39) = y := ⟨_, rfl⟩
          have hW9 : Blk w9 gW [.int .i64 uNum, .int .i64 uShapeBlocks, .int .i64 uShapeSize, .slice uPagesA uPagesn uPagesc, .slice uRowsA uRowsn uRowsc, .int .i64 uGroupEpoch, .slice uGroupMembersA uGroupMembersn uGroupMembersc] 39 := by rw [← hw9, ← hgW]; exact Blk.new w8 [.int .i64 uNum, .int .i64 uShapeBlocks, .int .i64 uShapeSize, .slice uPagesA uPagesn uPagesc, .slice uRowsA uRowsn uRowsc, .int .i64 uGroupEpoch, .slice uGroupMembersA uGroupMembersn uGroupMembersc] _
          have hb89 : Below w8.heap.size w8 w9 := by rw [← hw9]; exact (Below.refl _ _).alloc (Nat.le_refl _) _
          have hbr9 := hb8.trans (hb89.mono hb8.size)
          have z9 : w9.heap.size = gW + 1 := by rw [← hw9, World.size_alloc, hgW]
          have hM9 := hM.below hbr9
          have hMI9 := hMI.below hbr9
          have hS9 := hS8.below hb89
          have hB9 := hBw.trans (hbr9.mono hBw.size)
          have hR9 := hRr.below hbr9
          have hE9 := hEr.below hbr9
          have hI9 := hIr.below hbr9
          have p39 := p3r.below hbr9
          have Hw9 := hide hw9
          have HNum := hide (num7_any hMI9)
          clear hw9 hMI hM hRr hEr hIr p3r hS8 hMI9
          go_wp2_with fail
          rw [Hw9.out]
          go_fit HNum.out
          rintro x w9' ⟨rfl, rfl⟩
          have x1 := hE9.cell (j := 1) rfl
          have xf := hE9.frozen 1
          have hX' := hE9.set 1 (.int .i64 (a.num + 1))
          have y0 := Blk.cell hX' (j := 0) rfl; have y1 := Blk.cell hX' (j := 1) rfl; have y2 := Blk.cell hX' (j := 2) rfl; have y3 := Blk.cell hX' (j := 3) rfl; have y4 := Blk.cell hX' (j := 4) rfl; have y5 := Blk.cell hX' (j := 5) rfl; have y6 := Blk.cell hX' (j := 6) rfl; have y7 := Blk.cell hX' (j := 7) rfl; have y8 := Blk.cell hX' (j := 8) rfl; have y9 := Blk.cell hX' (j := 9) rfl; have y10 := Blk.cell hX' (j := 10) rfl; have y11 := Blk.cell hX' (j := 11) rfl
          obtain ⟨wB, hwB⟩ : ∃ y, w9.setCell ⟨gE, 1, none⟩ (.int .i64 (a.num + 1)) = y := ⟨_, rfl⟩
          have FB : Fr (fun b => b = gE) w9 wB := by rw [← hwB]; exact Fr.setg w9 gE 1 _
          have hMB := hM9.fr FB (fun b hb _ => .inr (by omega))
          have hIB := entry_renum (hI9.fr FB (fun b hb => by omega)) (n := a.num + 1) (by omega)
          have hWB := hW9.fr FB (by omega)
          have hSB := hS9.fr FB (fun b hb => by omega)
          have hRB := hR9.fr FB (by omega)
          have p3B := p39.fr FB (fun _ a' ha => by have := p4 a' ha; omega)
          have hBB : Below w.heap.size w wB := FB.below hB9 (by omega) (fun k hk => by omega)
          have zB := FB.size
          have HwB := hide hwB
          have AP := apply_at hMB hfit hIB hwL (fun b hb => by rcases hb with hb | hb; have := hrlt b hb; omega; omega) (by omega) hBB (by omega)
          have hag' : a.apply (eKind, a.num + 1, eView, eClient, eSerial, (eOpKind, eOpAt, eOpN, eOpData, eOpOld), eGroupEpoch, eGroupMembers) = ({ a with num := a.num + 1 }, 0, k1, d1) := hag
          rw [hag'] at AP
          have HAP := hide AP
          clear hwB hX' hM9 hI9 HNum hMB hIB AP hag hag' hW9 hS9 hR9 p39 hE9
          go_wp2_with fail
          rw [HwB.out]
          clear x1 xf y0 y1 y2 y3 y4 y5 y6 y7 y8 y9 y10 y11
          go_fit HAP.out
          rintro x wC ⟨AC, cC, rfl, s1, s2, s3, s4, hMC, hfitC, FC, hBC⟩
          simp only at s1 s3 hMC hfitC ⊢
          rw [Hd1.out] at s1 ⊢
          have zC := FC.size
          have hWC := hWB.fr FC (fun hW => by have := hMl _ hW; omega)
          have hSC := hSB.fr FC (fun b hb hW => by have := hMl _ hW; omega)
          have hRC := hRB.fr FC (fun hW => by have := hM2lt _ hW; omega)
          have p3C := p3B.fr FC (fun _ a' ha hW => by have := p4 a' ha; have := hM2lt _ hW; omega)
          obtain ⟨wD, hwD⟩ : ∃ y, wC.alloc (.cells #[.int .u8 k1, .slice AC d1n cC] 57) = y := ⟨_, rfl⟩
          obtain ⟨gQ, hgQ⟩ : ∃ y, wC.heap.size = y := ⟨_, rfl⟩
          have hQD : Blk wD gQ [.int .u8 k1, .slice AC d1n cC] 57 := by rw [← hwD, ← hgQ]; exact Blk.new wC [.int .u8 k1, .slice AC d1n cC] _
          have hbCD : Below wC.heap.size wC wD := by rw [← hwD]; exact (Below.refl _ _).alloc (Nat.le_refl _) _
          have zD : wD.heap.size = gQ + 1 := by rw [← hwD, World.size_alloc, hgQ]
          have hBD := hBC.trans (hbCD.mono hBC.size)
          obtain ⟨NN9, B9, D9, G9, gn9, gc9, hMI⟩ := hMC.below hbCD
          have HwD := hide hwD
          clear hwD hMC
          go_wp2_with fail
          rw [HwD.out]
          go_fit (state7_any hMI hfitC.ok 0)
          rintro x wE ⟨csE, rfl, hSE, hbE⟩
          have zE := hbE.size
          have hbCE := hbCD.trans (hbE.mono hbCD.size)
          have hBE' := hBD.trans (hbE.mono hBD.size)
          obtain ⟨x9', hx9⟩ : ∃ y, (({ a with num := a.num + 1 } : MA).st 0) = y := ⟨_, rfl⟩
          rw [hx9] at hSE
          have Hx9 := hide hx9
          clear hx9
          have hSE' := hSE
          obtain ⟨vNum, vShapeBlocks, vShapeSize, vPages, vPagesA, vPagesn, vPagesc, vPagesv, vRows, vRowsA, vRowsn, vRowsc, vRowsv, vGroupEpoch, vGroupMembers, vGroupMembersA, vGroupMembersn, vGroupMembersc, vGroupMembersv, rfl, rfl, h1_vNum, h2_vNum, h1_vShapeBlocks, h2_vShapeBlocks, h1_vShapeSize, h2_vShapeSize, hl_vPages, hc_vPages, hm_vPages, hr_vPages, hq_vPages, he_vPages, hl_vRows, hc_vRows, hm_vRows, hr_vRows, hq_vRows, he_vRows, h1_vGroupEpoch, h2_vGroupEpoch, hl_vGroupMembers, hc_vGroupMembers, hm_vGroupMembers, hr_vGroupMembers, hq_vGroupMembers, he_vGroupMembers⟩ := State_out hSE'
          have hnv : vNum = a.num + 1 := (congrArg Prod.fst Hx9.out).symm
          have hnr : -9223372036854775808 ≤ vNum ∧ vNum ≤ 9223372036854775807 := by omega
          have Hst := hide (show (vNum, (vShapeBlocks, vShapeSize), vPages, vRows, (vGroupEpoch, vGroupMembers)) = (vNum, ((uNum, (uShapeBlocks, uShapeSize), uPages, uRows, (uGroupEpoch, uGroupMembers)) : StateD).2) from (Hx9.out.symm.trans (show (({ a with num := a.num + 1 } : MA).st 0) = (a.num + 1, (a.st 0).2) from rfl)).trans (by rw [Hx8.out, hnv]))
          clear hnv
          obtain ⟨gN, hgN⟩ : ∃ y, wE.heap.size = y := ⟨_, rfl⟩
          obtain ⟨wF, hwF⟩ : ∃ y, wE.alloc (.cells #[.int .i64 vNum, .int .i64 vShapeBlocks, .int .i64 vShapeSize, .slice vPagesA vPagesn vPagesc, .slice vRowsA vRowsn vRowsc, .int .i64 vGroupEpoch, .slice vGroupMembersA vGroupMembersn vGroupMembersc] 39) = y := ⟨_, rfl⟩
          have hNF : Blk wF gN [.int .i64 vNum, .int .i64 vShapeBlocks, .int .i64 vShapeSize, .slice vPagesA vPagesn vPagesc, .slice vRowsA vRowsn vRowsc, .int .i64 vGroupEpoch, .slice vGroupMembersA vGroupMembersn vGroupMembersc] 39 := by rw [← hwF, ← hgN]; exact Blk.new wE [.int .i64 vNum, .int .i64 vShapeBlocks, .int .i64 vShapeSize, .slice vPagesA vPagesn vPagesc, .slice vRowsA vRowsn vRowsc, .int .i64 vGroupEpoch, .slice vGroupMembersA vGroupMembersn vGroupMembersc] _
          have hbEF : Below wE.heap.size wE wF := by rw [← hwF]; exact (Below.refl _ _).alloc (Nat.le_refl _) _
          have zF : wF.heap.size = gN + 1 := by rw [← hwF, World.size_alloc, hgN]
          have hbCF := hbCE.trans (hbEF.mono hbCE.size)
          have wy := (hWC.below hbCE).alloc (.cells #[.int .i64 vNum, .int .i64 vShapeBlocks, .int .i64 vShapeSize, .slice vPagesA vPagesn vPagesc, .slice vRowsA vRowsn vRowsc, .int .i64 vGroupEpoch, .slice vGroupMembersA vGroupMembersn vGroupMembersc] 39)
          have ny := Blk.new wE [.int .i64 vNum, .int .i64 vShapeBlocks, .int .i64 vShapeSize, .slice vPagesA vPagesn vPagesc, .slice vRowsA vRowsn vRowsc, .int .i64 vGroupEpoch, .slice vGroupMembersA vGroupMembersn vGroupMembersc] 39
          rw [hgN] at ny
          have n0 := ny.cell (j := 0) rfl
          have x0 := wy.cell (j := 0) rfl
          have xf0 := wy.frozen 0
          have ws := wy.set 0 (.int .i64 vNum)
          have wns := ny.apart (k := gW) (by omega) 0 (.int .i64 vNum)
          have hRy := ((hRC.below hbCE).alloc (.cells #[.int .i64 vNum, .int .i64 vShapeBlocks, .int .i64 vShapeSize, .slice vPagesA vPagesn vPagesc, .slice vRowsA vRowsn vRowsc, .int .i64 vGroupEpoch, .slice vGroupMembersA vGroupMembersn vGroupMembersc] 39)).apart (k := gW) (by omega) 0 (.int .i64 vNum)
          have hQy := ((hQD.below hbE).alloc (.cells #[.int .i64 vNum, .int .i64 vShapeBlocks, .int .i64 vShapeSize, .slice vPagesA vPagesn vPagesc, .slice vRowsA vRowsn vRowsc, .int .i64 vGroupEpoch, .slice vGroupMembersA vGroupMembersn vGroupMembersc] 39)).apart (k := gW) (by omega) 0 (.int .i64 vNum)
          have r0 := hRy.cell (j := 0) rfl
          have r1 := hRy.cell (j := 1) rfl
          have t0 := hQy.cell (j := 0) rfl
          have t1 := hQy.cell (j := 1) rfl
          obtain ⟨wG, hwG⟩ : ∃ y, (wE.alloc (.cells #[.int .i64 vNum, .int .i64 vShapeBlocks, .int .i64 vShapeSize, .slice vPagesA vPagesn vPagesc, .slice vRowsA vRowsn vRowsc, .int .i64 vGroupEpoch, .slice vGroupMembersA vGroupMembersn vGroupMembersc] 39)).setCell ⟨gW, 0, none⟩ (.int .i64 vNum) = y := ⟨_, rfl⟩
          have FG : Fr (fun b => b = gW) wF wG := by rw [← hwG, hwF]; exact Fr.setg _ gW 0 _
          have zG := FG.size
          have hWG : Blk wG gW [.int .i64 vNum, .int .i64 uShapeBlocks, .int .i64 uShapeSize, .slice uPagesA uPagesn uPagesc, .slice uRowsA uRowsn uRowsc, .int .i64 uGroupEpoch, .slice uGroupMembersA uGroupMembersn uGroupMembersc] 39 := by rw [← hwG]; exact ws
          have hNG : Blk wG gN [.int .i64 vNum, .int .i64 vShapeBlocks, .int .i64 vShapeSize, .slice vPagesA vPagesn vPagesc, .slice vRowsA vRowsn vRowsc, .int .i64 vGroupEpoch, .slice vGroupMembersA vGroupMembersn vGroupMembersc] 39 := by rw [← hwG]; exact wns
          have hSG := (hSE.below hbEF).fr FG (fun b hb => by omega)
          have hSWG := state_renum ((hSC.below hbCF).fr FG (fun b hb => by omega)) (n := vNum) hnr
          have p3G := (p3C.below hbCF).fr FG (fun hne a' ha => by have := rd_block p37 hne a' ha; omega)
          have s3G := (s3.below hbCF).fr FG (fun _ a' ha => by have := s4 a' ha; omega)
          have hBF : Below w.heap.size w wF := hBC.trans (hbCF.mono hBC.size)
          have hBG : Below w.heap.size w wG := FG.below hBF (by have := hBF.size; omega) (fun k hk => by omega)
          have HwG := hide hwG
          clear hwG hwF wy ny ws wns hRy hQy hWC hSC hRC p3C hMI hfitC
          go_wp2_with fail
          rw [HwG.out]
          clear n0 x0 xf0 r0 r1 t0 t1
          go_fit (rsames_any k1 A6 d1n c6 d1 k1 AC d1n cC d1 wG Hd1.out Hd1.out p3G s3G)
          rw [eqR_self]
          rintro x wH ⟨rfl, hbH⟩
          have hBH := hBG.trans (hbH.mono hBG.size)
          have y0 := Blk.cell (hWG.below hbH) (j := 0) rfl; have y1 := Blk.cell (hWG.below hbH) (j := 1) rfl; have y2 := Blk.cell (hWG.below hbH) (j := 2) rfl; have y3 := Blk.cell (hWG.below hbH) (j := 3) rfl; have y4 := Blk.cell (hWG.below hbH) (j := 4) rfl; have y5 := Blk.cell (hWG.below hbH) (j := 5) rfl; have y6 := Blk.cell (hWG.below hbH) (j := 6) rfl
          have u0 := Blk.cell (hNG.below hbH) (j := 0) rfl; have u1 := Blk.cell (hNG.below hbH) (j := 1) rfl; have u2 := Blk.cell (hNG.below hbH) (j := 2) rfl; have u3 := Blk.cell (hNG.below hbH) (j := 3) rfl; have u4 := Blk.cell (hNG.below hbH) (j := 4) rfl; have u5 := Blk.cell (hNG.below hbH) (j := 5) rfl; have u6 := Blk.cell (hNG.below hbH) (j := 6) rfl
          go_wp2_with fail
          go_fit (sameSt_any (hSWG.below hbH) (hSG.below hbH) Hst.out)
          rintro x wI ⟨rfl, hbI⟩
          go_wp2
          go_ret
          exact ⟨rfl, hBH.trans (hbI.mono hBH.size)⟩
end Go.Proofs.Ytkknkdjdneldlaa
namespace Go.Proofs.Ytkknkdjdneldlaa
set_option maxRecDepth 20000
open Go.ChangeShapes Go.WideShapes Go.ChangeAt Go.RowKit Go.Px Go.Joins Go.Deep
set_option linter.unusedVariables false

set_option maxRecDepth 100000 in
theorem machineOnce_lifted (os : Os) (started : os.Started) (H : Type) (enc : TypeId × Value → H) :
    ReturnsInHanded {} Try.checked os 4 .any (Rows.machineOnceSpec.pre6 enc Try.prog Try.f4 Rows.machineOnceRow.domain false) (Rows.machineOnceSpec.post enc Try.prog Try.f4 false true false false) := by
  refine returnsInHanded_of_change (C := Try.checked) own started (by kernel_rfl) Try.func4
    (ChangeSpec.witness6 (enc := enc) (C := Try.checked) false ⟨#[], #[.agg #[.int .i64 0, .int .i64 0, .int .i64 0, .slice none 0 0, .slice none 0 0, .int .i64 0, .slice none 0 0], .agg #[.int .u8 0, .int .i64 0, .int .i64 0, .int .i64 0, .int .i64 0, .int .u8 0, .int .i64 0, .int .i64 0, .slice none 0 0, .slice none 0 0, .int .i64 0, .slice none 0 0], .slice none 0 0], []⟩ 8 (by kernel_rfl) (by kernel_rfl) (by kernel_rfl) (by kernel_rfl)) ?_
  intro W base args ds gs before hval0 hW _ hweigh
  have hval : ∀ (j : Nat) t v, Try.f4.params[j]? = some t → args[j]? = some v → Value.okWide Try.prog W .any base t v := hval0
  have hW' := hW
  obtain ⟨p, q, hA0, hV, rfl, hfz, hnd⟩ := hW
  have hA : DataW.TrodAll enc Try.prog W 0 (fun _ => true) true Try.f4.params.toList args.toList ds p := hA0
  rw [Try.params4] at hA hval
  obtain ⟨v0, l0, d0, e0, p0, q0, ha0, rfl, rfl, h0, r0⟩ := trodAll_cons hA
  obtain ⟨v1, l1, d1, e1, p1, q1, rfl, rfl, rfl, h1, r1⟩ := trodAll_cons r0
  obtain ⟨v2, l2, d2, e2, p2, q2, rfl, rfl, rfl, h2, r2⟩ := trodAll_cons r1
  obtain ⟨rfl, rfl, rfl⟩ := trodAll_nil r2
  obtain rfl : args = #[v0, v1, v2] := by cases args; simp_all
  obtain ⟨rfl, rfl⟩ := trodVars_none hV
  obtain ⟨⟨ls⟩, rfl, _⟩ := okWide_struct Try.underlying39 (hval 0 39 v0 rfl rfl); obtain ⟨s, hx0⟩ := open_any (t := tyState) (T := 39) (by kernel_rfl) h0; have hy0 : tyState.Is _ _ s ls := hx0
  obtain ⟨⟨le⟩, rfl, _⟩ := okWide_struct Try.underlying50 (hval 1 50 v1 rfl rfl); obtain ⟨e, hx1⟩ := open_any (t := tyEntry) (T := 50) (by kernel_rfl) h1; have hy1 : tyEntry.Is _ _ e le := hx1
  obtain ⟨cA, cn, cc, rfl⟩ := okWide_slice Try.underlying51 (hval 2 51 v2 rfl rfl); obtain ⟨c, hx2⟩ := open_any (t := (.row tyEntry)) (T := 51) (by kernel_rfl) h2; obtain ⟨cv, hl_c, hc_c, hm_c, hr_c, hq_c, he_c⟩ := row_out hx2
  refine (machineOnce_walk cA cn cc c cv W hy0 hy1 (entsAt_of hl_c hr_c he_c) (by omega)).mono fun e W' ⟨he, hb⟩ => ?_
  subst he
  exact ⟨_, rfl, law_post laidOut rfl rfl Try.underlying4 (fun t ht => (show ∀ t ∈ Try.f4.params.toList, Try.prog.readableRec t = true ∧ t < Try.prog.types.size from by decide +kernel) t ht) hW' rfl hb⟩

theorem machineOnce_holds : Rows.MachineOnceSaid :=
  OpenClaim.holds_of_wide 4 Try.f4 rfl rfl rfl rfl rfl rfl rfl ⟨rfl, rfl, rfl, rfl, rfl⟩ rfl rfl rfl rfl rfl (by kernel_rfl) Try.func4 (by kernel_rfl)
    (of_decide_eq_true (by kernel_rfl)) (by unfold Func.isWrapper; first | (rw [if_pos (by decide +kernel)]; kernel_rfl) | (rw [if_neg (by decide +kernel)]; exact ⟨rfl, rfl⟩))
    (fun os started H enc _ => machineOnce_lifted os started H enc)
end Go.Proofs.Ytkknkdjdneldlaa
