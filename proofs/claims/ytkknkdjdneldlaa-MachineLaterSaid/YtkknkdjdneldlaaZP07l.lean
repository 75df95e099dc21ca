/- For every input the law MachineLater returns true, and each argument reads afterwards as it read before. No condition. -/
import Derived.Test.YtkknkdjdneldlaaRows
import Derived.Test.YtkknkdjdneldlaaK71
import Derived.Test.YtkknkdjdneldlaaK72
import Derived.Test.YtkknkdjdneldlaaK73
import Derived.Test.YtkknkdjdneldlaaK74
import Derived.Test.YtkknkdjdneldlaaK75
import Derived.Test.YtkknkdjdneldlaaK76
import Derived.Test.YtkknkdjdneldlaaK77
import Derived.Test.YtkknkdjdneldlaaK78
import Derived.Test.YtkknkdjdneldlaaK79
import Derived.Test.YtkknkdjdneldlaaK710
import Derived.Test.YtkknkdjdneldlaaK711
namespace Go.Px
open Go.RowKit

/-! ### hide -/
/-! ### addresses -/
/-! ### what a slice reads as: nil let in -/
section
variable {w w' : World} {A : Option Addr} {xs : List Value}
end

/-! ### rows that a call owns -/
section
variable {w w' : World} {base : Nat} {e : TypeId} {size n : Nat} {v : Value} {xs : List Value}
end

/-! ### bytes and integers -/
/-! ### facts of a slice's type -/
/-! ### append onto a row of the call's own -/
section
variable {P : Program} {w : World}
end

/-! ### places at which a walk stands still, to be led on by hand -/
section
variable {P : Program} {w : World} {ops : Array Oper} {rest : List Oper} {o : Oper} {a : Act} {Q : Exit → Act → World → Prop}
end

/-! ### a row that grows, round by round -/
section
variable {P : Program} {w wr : World} {v0 v : Value} {base e size n : Nat} {xs : List Value}
variable {ops : Array Oper} {rest : List Oper} {o : Oper} {a : Act} {Q : Exit → Act → World → Prop}
end

/-! ### a law's row from its walk -/
section
open Go.ChangeShapes Go.WideShapes Go.ChangeAt
variable {H : Type} {enc : TypeId × Value → H} {P : Program}
theorem trodAll_below (hl : laidOutB P = true) {W W' : World} (hb : Below W.heap.size W W') : ∀ {ts : List TypeId} {vs : List Value} {ds : List (DataW H)} {ps : List MemPlace},
    (∀ t ∈ ts, P.readableRec t = true ∧ t < P.types.size) → DataW.TrodAll enc P W 0 (fun _ => true) true ts vs ds ps → (∀ x ∈ ps, x.block < W.heap.size) →
    ∀ sp : Nat → Bool, (∀ p ∈ ps, sp p.block = true) → DataW.TrodAll enc P W' 0 sp true ts vs ds ps
  | [], vs, ds, ps, _, h, _, _, _ => by
    obtain ⟨rfl, rfl, rfl⟩ := trodAll_nil h
    exact trodAll_mk0
  | t :: ts, vs, ds, ps, hr, h, hlt, sp, hsp => by
    obtain ⟨v, vs', d, ds', p, q, rfl, rfl, rfl, h1, h2⟩ := trodAll_cons h
    have ht := hr t List.mem_cons_self
    refine trodAll_cons_mk ?_ (trodAll_below hl hb (fun t' ht' => hr t' (List.mem_cons_of_mem _ ht')) h2 (fun x hx => hlt x (List.mem_append_right _ hx)) sp (fun x hx => hsp x (List.mem_append_right _ hx)))
    exact WideElems.Trod_stays hl ht.1 ht.2 h1 (fun x hx => hb.same (hlt x (List.mem_append_left _ hx))) (fun x hx => hsp x (List.mem_append_left _ hx))
theorem wf_u64 {v : Int} (h : (Lit.int .u64 v).wf = true) : ∃ n : Nat, v = n ∧ n < 18446744073709551616 := by
  have hz : 0 ≤ v ∧ v ≤ 18446744073709551615 := by simpa [Lit.wf, IntKind.min, IntKind.max, IntKind.signed, IntKind.bits] using h
  exact ⟨v.toNat, by omega, by omega⟩
theorem wf_i64 {v : Int} (h : (Lit.int .i64 v).wf = true) : -9223372036854775808 ≤ v ∧ v ≤ 9223372036854775807 := by
  simpa [Lit.wf, IntKind.min, IntKind.max, IntKind.signed, IntKind.bits] using h
/-- WHAT A LAW OWES: 'it returns true, and nothing that was there has turned'. The rest of its row is the same for all laws that name no variable. -/
theorem law_post {f : Func} {s : ChangeSpec} {W W' : World} {args : Array Value} {ds gs : List (DataW H)} {before : List MemPlace} {tb : TypeId}
    (hl : laidOutB P = true) (hvars : s.vars = []) (hres : f.resultTypes = #[tb]) (htb : P.underlying tb = some .bool)
    (hr : ∀ t ∈ f.params.toList, P.readableRec t = true ∧ t < P.types.size)
    (hW : DataW.Whole enc P f.params.toList s.vars false W args.toList ds gs before)
    (hs : s.fn H (ds ++ gs) = { results := [.lit (.bool true)], args := ds, vars := [] })
    (hb : Below W.heap.size W W') : s.post enc P f false true false false W args (.bool true) W' := by
  have hW0 := hW
  obtain ⟨p, q, hA, hV, rfl, hfz, hnd⟩ := hW
  rw [hvars] at hV
  obtain ⟨rfl, rfl⟩ := trodVars_none hV
  have hlt : ∀ x ∈ p ++ [], x.block < W.heap.size := fun x hx => hW0.lt x hx
  have hold : ∀ p' ∈ p ++ [], (fun b => decide (b < W.heap.size)) p'.block = true := fun p' hp => by simpa using hlt p' hp
  refine ⟨ds, [], p ++ [], [], p, [], hW0, ?_, ?_, ?_, ?_, fun h => by cases h⟩
  · rw [hs, hres]
    exact trodAll_mk1 (shut_bool htb true)
  · rw [hs]
    exact trodAll_below hl hb hr hA (fun x hx => hlt x (List.mem_append_left _ hx)) _ (fun x hx => hold x (List.mem_append_left _ hx))
  · rw [hs, hvars]
    rfl
  · exact World.keptBut_mono (fun x hx => ⟨hx, .inr (.inl (by simpa using hx))⟩) (hb.frame (· ∈ p ++ []))
end
end Go.Px
namespace Go.Px
set_option maxRecDepth 20000
theorem wf_u8 {v : Int} (h : (Lit.int .u8 v).wf = true) : ∃ n : Nat, v = n ∧ n < 256 := by
  have hz : 0 ≤ v ∧ v ≤ 255 := by simpa [Lit.wf, IntKind.min, IntKind.max, IntKind.signed, IntKind.bits] using h
  exact ⟨v.toNat, by omega, by omega⟩
end Go.Px
namespace Go.Px
set_option maxRecDepth 20000
open Go.RowKit Go.ChangeShapes
variable {H : Type} {enc : TypeId × Value → H} {P : Program}
theorem open_bytesF {w : World} {base : Nat} {spare : Nat → Bool} {held : Bool} {t e : TypeId} (ht : P.underlying t = some (.slice e)) (he : P.underlying e = some (.int .u8)) (hc : P.cellsOf e = 1)
    {v : Value} {fuel : Nat} {x : DataW H × List MemPlace} (hf : DataW.trod enc P w base spare held fuel t [v] = some x) :
    ∃ (A : Option Addr) (n c : Nat) (bs : List UInt8), v = .slice A n c ∧ bs.length = n ∧ n ≤ c ∧ c ≤ 9223372036854775807 ∧ Rd w A (bys bs) := by
  rcases Go.ChangeShapes.open_ints ht he hc hf with ⟨hcs, _⟩ | ⟨a, len, cap, zs, hcs, _, hlc, hcm, hlen, _, hcell, hwf⟩
  · obtain rfl : v = .slice none 0 0 := by simpa using hcs
    exact ⟨none, 0, 0, [], rfl, rfl, by omega, by omega, Rd.nil⟩
  · obtain rfl : v = .slice (some a) len cap := by simpa using hcs
    have hle : len ≤ zs.length := by rw [hlen]; split <;> omega
    refine ⟨some a, len, cap, (zs.take len).map fun z => UInt8.ofNat z.toNat, rfl, by simp [Nat.min_eq_left hle], hlc, by unfold maxLen at hcm; omega, Rd.of_some fun j u hu => ?_⟩
    have hj : j < len := by
      have := (List.getElem?_eq_some_iff.1 hu).1
      simp [bys] at this; omega
    have hjz : j < zs.length := by omega
    have hw := hwf zs[j] (List.getElem_mem hjz)
    have hz : 0 ≤ zs[j] ∧ zs[j] ≤ 255 := by simpa [Lit.wf, IntKind.min, IntKind.max, IntKind.signed, IntKind.bits] using hw
    rw [hcell j hjz]
    simp only [bys, List.map_map, List.getElem?_map, List.getElem?_take, if_pos hj, List.getElem?_eq_getElem hjz, Option.map_some, Function.comp] at hu
    rw [← hu]
    simp only [List.getD, List.getElem?_eq_getElem hjz, Option.getD_some]
    congr 2
    have : (UInt8.ofNat (zs[j]).toNat).toNat = (zs[j]).toNat := by
      simp; omega
    rw [this]; omega
end Go.Px
namespace Go.Px
open Go.RowKit Go.ChangeShapes Go.WideShapes Go.ChangeAt Go.Deep
section
variable {w w' : World} {Q Q' : Nat → Prop} {t : Ty} {x : t.Den} {cs : List Value}
variable {xs : List t.Den} {vs : List Value}
/-- .. where they lie, in a slice that begins at a: the walk writes the first one's address so, and the others' .. -/
theorem el_0 {a : Addr} (hat : ∀ (j : Nat) (u : Value), vs[j]? = some u → w'.cell? (a.add j) = some u) {n k : Nat} {u : Value} (h : vs[n * k + 0]? = some u) : w'.cell? (a.add (k * n)) = some u := by
  rw [Nat.mul_comm]; exact hat _ _ h
theorem el_S {a : Addr} (hat : ∀ (j : Nat) (u : Value), vs[j]? = some u → w'.cell? (a.add j) = some u) {n k i : Nat} {u : Value} (h : vs[n * k + (i + 1)]? = some u) : w'.cell? ⟨(a.add (k * n)).block, (a.add (k * n)).off + (i + 1), none⟩ = some u := by
  have := hat _ _ h
  have e : a.add (n * k + (i + 1)) = ⟨(a.add (k * n)).block, (a.add (k * n)).off + (i + 1), none⟩ := by
    unfold Addr.add
    rw [if_neg (by omega)]
    split
    · rename_i h0
      rw [Nat.mul_comm] at h0
      rw [h0, Nat.zero_add]
    · show (⟨a.block, a.off + (n * k + (i + 1)), none⟩ : Addr) = ⟨a.block, a.off + k * n + (i + 1), none⟩
      rw [Nat.mul_comm, Nat.add_assoc]
  rw [← e]; exact this
end
/-! ### those that came in -/
/-- Does a type have a shape? (A list of fields, each with the place of its first cell.) -/
def Ty.fits (P : Program) : Ty → List (TypeId × Nat) → Bool
  | .i64, [(T, _)] => match P.underlying T with | some (.int .i64) => P.cellsOf T == 1 | _ => false
  | .u8, [(T, _)] => match P.underlying T with | some (.int .u8) => P.cellsOf T == 1 | _ => false
  | .u32, [(T, _)] => match P.underlying T with | some (.int .u32) => P.cellsOf T == 1 | _ => false
  | .u64, [(T, _)] => match P.underlying T with | some (.int .u64) => P.cellsOf T == 1 | _ => false
  | .bool, [(T, _)] => match P.underlying T with | some .bool => P.cellsOf T == 1 | _ => false
  | .bytes, [(T, _)] => match P.underlying T with | some (.slice E) => (match P.underlying E with | some (.int .u8) => P.cellsOf E == 1 | _ => false) && P.cellsOf T == 1 | _ => false
  | .row t, [(T, _)] => match P.underlying T with | some (.slice E) => (P.cellsOf E == t.n && t.fits P [(E, 0)]) && P.cellsOf T == 1 | _ => false
  | .pr a b, (T, o) :: (T2, o2) :: L => (o2 == o + a.n && a.fits P [(T, o)]) && b.fits P ((T2, o2) :: L)
  | .st t, [(T, _)] => match P.underlying T with | some (.struct fs) => (P.cellsOf T == t.n && ((fs.toList.map fun f => (f.type, f.offset)).head?.map (·.2) == some 0)) && t.fits P (fs.toList.map fun f => (f.type, f.offset)) | _ => false
  | _, _ => false
variable {H : Type} {enc : TypeId × Value → H} {P : Program}
theorem wf_u32' {z : Int} (h : (Lit.int .u32 z).wf = true) : ∃ n : Nat, z = n ∧ n < 4294967296 := by
  have : 0 ≤ z ∧ z ≤ 4294967295 := by simpa [Lit.wf, IntKind.min, IntKind.max, IntKind.signed, IntKind.bits] using h
  exact ⟨z.toNat, by omega, by omega⟩
theorem fits_cells {P : Program} : ∀ {t : Ty} {T : TypeId} {o : Nat}, t.fits P [(T, o)] = true → P.cellsOf T = t.n := by
  intro t T o h
  cases t <;> simp only [Ty.fits] at h <;> (try split at h) <;> simp_all [Ty.n]
def TrodAt (enc : TypeId × Value → H) (P : Program) (w : World) (base : Nat) (spare : Nat → Bool) (held : Bool) (cs : List Value) (T : TypeId) (o : Nat) : Prop := ∃ fuel x, DataW.trod enc P w base spare held fuel T ((cs.drop o).take (P.cellsOf T)) = some x
theorem one1_of {p : Value → Prop} {cs : List Value} {c : Value} (h : cs = [c]) (hp : p c) : one1 p cs := by subst h; exact hp
def Ty.dft : (t : Ty) → t.Den
  | .i64 => (0 : Int)
  | .u8 | .u32 | .u64 => (0 : Nat)
  | .bool => false
  | .bytes => []
  | .row _ => []
  | .pr a b => (a.dft, b.dft)
  | .st t => t.dft
theorem rows_build {w : World} {Q : Nat → Prop} {t : Ty} (g : Nat → t.Den) (gs : Nat → List Value) : ∀ (n : Nat), (∀ i, i < n → t.Is w Q (g i) (gs i)) → t.Rows w Q ((List.range n).map g) ((List.range n).flatMap gs)
  | 0, _ => Ty.Rows.nil
  | n + 1, h => by
    rw [List.range_succ, List.map_append, List.flatMap_append]
    refine (rows_build g gs n (fun i hi => h i (by omega))).append ?_
    have := Ty.Rows.one (h n (by omega))
    simpa using this
theorem rd_build {w : World} {a : Addr} {m : Nat} {gs : Nat → List Value} : ∀ (n : Nat), (∀ i, i < n → (gs i).length = m) → (∀ i, i < n → ∀ r (u : Value), (gs i)[r]? = some u → w.cell? (a.add (m * i + r)) = some u) → Rd w (some a) ((List.range n).flatMap gs)
  | 0, _, _ => Rd.nil
  | n + 1, hl, h => by
    have ih := rd_build (w := w) (a := a) n (fun i hi => hl i (by omega)) (fun i hi => h i (by omega))
    have hlen : ((List.range n).flatMap gs).length = m * n := by
      clear ih
      induction n with
      | zero => simp
      | succ n ih =>
        rw [List.range_succ, List.flatMap_append, List.length_append, ih (fun i hi => hl i (by omega)) (fun i hi => h i (by omega))]
        simp [hl n (by omega), Nat.mul_succ]
    rw [List.range_succ, List.flatMap_append]
    refine Rd.of_some fun j u hu => ?_
    by_cases hj : j < ((List.range n).flatMap gs).length
    · rw [List.getElem?_append_left hj] at hu
      exact ih.at_ hu
    · rw [List.getElem?_append_right (by omega)] at hu
      simp only [List.flatMap_cons, List.flatMap_nil, List.append_nil] at hu
      have := h n (by omega) _ u hu
      rw [hlen] at this hj
      rwa [show m * n + (j - m * n) = j by omega] at this
theorem open_uni {w : World} {base : Nat} {spare : Nat → Bool} {held : Bool} : ∀ (t : Ty) (L : List (TypeId × Nat)) (cs : List Value), t.fits P L = true → (∀ T o, (T, o) ∈ L → TrodAt enc P w base spare held cs T o) →
    ∃ x : t.Den, t.Is w (fun _ => True) x ((cs.drop ((L.head?.map (·.2)).getD 0)).take t.n)
  | .i64, [(T, o)], cs, hf, h => by
    simp only [Ty.fits] at hf
    split at hf <;> simp_all
    rename_i hu
    obtain ⟨fuel, x, hx⟩ := h
    rw [hf] at hx
    obtain ⟨z, hz, _, hw⟩ := DataW.trod_int hu hx
    have := wf_i64 hw
    exact ⟨z, one1_of hz ⟨rfl, this.1, this.2⟩⟩
  | .u8, [(T, o)], cs, hf, h => by
    simp only [Ty.fits] at hf
    split at hf <;> simp_all
    rename_i hu
    obtain ⟨fuel, x, hx⟩ := h
    rw [hf] at hx
    obtain ⟨z, hz, _, hw⟩ := DataW.trod_int hu hx
    obtain ⟨n, rfl, hn⟩ := wf_u8 hw
    exact ⟨n, one1_of hz ⟨rfl, hn⟩⟩
  | .u32, [(T, o)], cs, hf, h => by
    simp only [Ty.fits] at hf
    split at hf <;> simp_all
    rename_i hu
    obtain ⟨fuel, x, hx⟩ := h
    rw [hf] at hx
    obtain ⟨z, hz, _, hw⟩ := DataW.trod_int hu hx
    obtain ⟨n, rfl, hn⟩ := wf_u32' hw
    exact ⟨n, one1_of hz ⟨rfl, hn⟩⟩
  | .u64, [(T, o)], cs, hf, h => by
    simp only [Ty.fits] at hf
    split at hf <;> simp_all
    rename_i hu
    obtain ⟨fuel, x, hx⟩ := h
    rw [hf] at hx
    obtain ⟨z, hz, _, hw⟩ := DataW.trod_int hu hx
    obtain ⟨n, rfl, hn⟩ := wf_u64 hw
    exact ⟨n, one1_of hz ⟨rfl, hn⟩⟩
  | .bool, [(T, o)], cs, hf, h => by
    simp only [Ty.fits] at hf
    split at hf <;> simp_all
    rename_i hu
    obtain ⟨fuel, x, hx⟩ := h
    rw [hf] at hx
    obtain ⟨z, hz, _⟩ := DataW.trod_bool hu hx
    have hzz : Ty.Is w (fun _ => True) .bool z (List.take (Ty.n .bool) (List.drop o cs)) := one1_of hz rfl
    cases z
    · exact .inl hzz
    · exact .inr hzz
  | .bytes, [(T, o)], cs, hf, h => by
    simp only [Ty.fits] at hf
    split at hf <;> simp_all
    rename_i E hu
    obtain ⟨h1, h2⟩ := hf
    split at h1 <;> simp_all
    rename_i he
    obtain ⟨fuel, x, hx⟩ := h
    rw [h2] at hx
    have hx' := hx
    rcases Go.ChangeShapes.open_ints hu he h1 hx with ⟨hcs, _⟩ | ⟨a, len, cap, zs, hcs, _⟩
    · rw [hcs] at hx'
      obtain ⟨A, n, c, bs, hv, q1, q2, q3, q4⟩ := open_bytesF hu he h1 hx'
      exact ⟨bs, one1_of hcs ⟨A, n, c, hv, q1, q2, q3, q4, fun _ _ _ => trivial⟩⟩
    · rw [hcs] at hx'
      obtain ⟨A, n, c, bs, hv, q1, q2, q3, q4⟩ := open_bytesF hu he h1 hx'
      exact ⟨bs, one1_of hcs ⟨A, n, c, hv, q1, q2, q3, q4, fun _ _ _ => trivial⟩⟩
  | .row t, [(T, o)], cs, hf, h => by
    simp only [Ty.fits] at hf
    split at hf <;> simp_all
    rename_i E hu
    obtain ⟨⟨h1, h3⟩, h2⟩ := hf
    obtain ⟨fuel, x, hx⟩ := h
    rw [h2] at hx
    rcases open_slice hu hx with ⟨hcs, _⟩ | ⟨a, n, c, m, n', D, Pl, hcs, _, hlc, hcm, hm, _, hel⟩
    · exact ⟨[], one1_of hcs ⟨none, 0, 0, [], rfl, rfl, by omega, by omega, Rd.nil, fun _ _ _ => trivial, by simp, fun j y hy => by simp at hy⟩⟩
    · have hall : ∀ i, ∃ (e : t.Den) (es : List Value), i < n → es.length = t.n ∧ t.Is w (fun _ => True) e es ∧ ∀ r (u : Value), es[r]? = some u → w.cell? (a.add (t.n * i + r)) = some u := by
        intro i
        by_cases hi : i < n
        · obtain ⟨cs', hc, ht⟩ := hel i (by rw [hm]; split <;> omega)
          rw [h1] at hc
          obtain ⟨_, hcl, hat⟩ := World.cells?_some hc
          obtain ⟨e, he⟩ := open_uni t [(E, 0)] cs' h3 (fun T o hTo => by
            simp at hTo
            obtain ⟨rfl, rfl⟩ := hTo
            exact ⟨n', _, by rw [List.drop_zero, h1, List.take_of_length_le (by omega)]; exact ht⟩)
          simp only [List.head?_cons, Option.map_some, Option.getD_some, List.drop_zero] at he
          rw [List.take_of_length_le (by omega)] at he
          refine ⟨e, cs', fun _ => ⟨hcl, he, fun r u hu => ?_⟩⟩
          obtain ⟨hr, rfl⟩ := List.getElem?_eq_some_iff.1 hu
          have := hat r (by omega)
          rw [Px.add_add, Nat.mul_comm] at this
          rw [this, List.getElem?_eq_getElem hr]
        · exact ⟨t.dft, [], fun h => absurd h hi⟩
      obtain ⟨g, hg⟩ := Classical.axiomOfChoice hall
      obtain ⟨gs, hg⟩ := Classical.axiomOfChoice hg
      have hR := rows_build (w := w) (Q := fun _ => True) g gs n (fun i hi => (hg i hi).2.1)
      refine ⟨(List.range n).map g, one1_of hcs ⟨some a, n, c, (List.range n).flatMap gs, rfl, by simp, hlc, by unfold maxLen at hcm; omega, ?_, fun _ _ _ => trivial, hR⟩⟩
      exact rd_build n (fun i hi => (hg i hi).1) (fun i hi => (hg i hi).2.2)
  | .pr a b, (T, o) :: (T2, o2) :: L, cs, hf, h => by
    simp only [Ty.fits, Bool.and_eq_true, beq_iff_eq] at hf
    obtain ⟨⟨ho, h1⟩, h2⟩ := hf
    obtain ⟨x, hx⟩ := open_uni a [(T, o)] cs h1 (fun T' o' hm => h T' o' (by simp at hm; simp [hm]))
    obtain ⟨y, hy⟩ := open_uni b ((T2, o2) :: L) cs h2 (fun T' o' hm => h T' o' (List.mem_cons_of_mem _ hm))
    refine ⟨(x, y), ?_, ?_⟩
    · show a.Is w _ x _
      simp only [List.head?_cons, Option.map_some, Option.getD_some] at hx ⊢
      rw [List.take_take, Nat.min_eq_left (by show a.n ≤ a.n + b.n; omega)]
      exact hx
    · show b.Is w _ y _
      simp only [List.head?_cons, Option.map_some, Option.getD_some] at hy ⊢
      rw [List.drop_take, List.drop_drop, show (Ty.pr a b).n - a.n = b.n from by show a.n + b.n - a.n = b.n; omega, ← ho]
      exact hy
  | .st t, [(T, o)], cs, hf, h => by
    simp only [Ty.fits] at hf
    split at hf <;> simp_all
    rename_i fs hu
    obtain ⟨⟨h1, h3⟩, h2⟩ := hf
    obtain ⟨fuel, x, hx⟩ := h
    obtain ⟨ys, n', _, _, hlen, hyl, hg⟩ := DataW.trod_struct hu hx
    obtain ⟨y, hy⟩ := open_uni t (fs.toList.map fun f => (f.type, f.offset)) ((cs.drop o).take (P.cellsOf T)) h2 (fun T' o' hm => by
      obtain ⟨f, hf, he⟩ := List.mem_map.1 hm
      injection he with he1 he2
      subst he1 he2
      obtain ⟨i, hi, hie⟩ := List.mem_iff_getElem.1 hf
      have hi' : i < fs.size := by simpa using hi
      have hgi := hg i f (by rw [Array.getElem?_eq_getElem hi']; simp at hie; rw [hie])
      rw [List.getElem?_eq_getElem (by rw [hyl]; exact hi')] at hgi
      exact ⟨n', _, hgi⟩)
    refine ⟨y, ?_⟩
    obtain ⟨hd, hh1, hh2⟩ := h3
    simp only [List.head?_map, hh1, Option.map_some, Option.getD_some, hh2, List.drop_zero, h1, List.take_take, Nat.min_self] at hy
    exact hy
theorem trod_len {w : World} {base : Nat} {spare : Nat → Bool} {held : Bool} {t : Ty} {T : TypeId} {o fuel : Nat} {cs : List Value} {x : DataW H × List MemPlace} (hf : t.fits P [(T, o)] = true) (h : DataW.trod enc P w base spare held fuel T cs = some x) : cs.length = P.cellsOf T := by
  rw [fits_cells hf]
  cases t <;> simp only [Ty.fits] at hf <;> (try split at hf) <;> simp_all
  all_goals first
    | (rename_i hu; obtain ⟨z, hz, _⟩ := DataW.trod_int hu h; rw [hz]; rfl)
    | (rename_i hu; obtain ⟨z, hz, _⟩ := DataW.trod_bool hu h; rw [hz]; rfl)
    | (rename_i hu; rcases open_slice hu h with ⟨hcs, _⟩ | ⟨a, n, c, m, n', D, Pl, hcs, _⟩ <;> (rw [hcs]; rfl))
    | (rename_i hu; obtain ⟨_, _, _, _, hl, _⟩ := DataW.trod_struct hu h; rw [hl]; exact hf.1.1)
/-- An argument that came in, of any shape. -/
theorem open_any {w : World} {base : Nat} {spare : Nat → Bool} {held : Bool} {t : Ty} {T : TypeId} (hf : t.fits P [(T, 0)] = true) {v : Value} {d : DataW H} {ps : List MemPlace} (h : DataW.Trod enc P w base spare held T v d ps) :
    ∃ x : t.Den, t.Is w (fun b => b < w.heap.size) x v.cells.toList := by
  obtain ⟨fuel, h⟩ := h
  have hl := trod_len hf h
  obtain ⟨x, hx⟩ := open_uni (enc := enc) (w := w) (base := base) (spare := spare) (held := held) t [(T, 0)] v.cells.toList hf (fun T' o' hm => by
    simp at hm
    obtain ⟨rfl, rfl⟩ := hm
    exact ⟨fuel, _, by rw [List.drop_zero, List.take_of_length_le (by omega)]; exact h⟩)
  refine ⟨x, ?_⟩
  simp only [List.head?_cons, Option.map_some, Option.getD_some, List.drop_zero] at hx
  rw [List.take_of_length_le (by rw [hl, fits_cells hf]; exact Nat.le_refl _)] at hx
  exact hx.low
end Go.Px
namespace Go.Px
set_option maxRecDepth 20000
open Go.RowKit
set_option linter.unusedVariables false
theorem row_out {w : World} {Q : Nat → Prop} {t : Ty} {xs : List t.Den} {A : Option Addr} {n c : Nat} (h : (Ty.row t).Is w Q xs [.slice A n c]) : ∃ vs, xs.length = n ∧ n ≤ c ∧ c ≤ 9223372036854775807 ∧ Rd w A vs ∧ (xs ≠ [] → ∀ a, A = some a → Q a.block) ∧ t.Rows w Q xs vs := by
  obtain ⟨A', n', c', vs, hv, h1, h2, h3, h4, h5, h6⟩ := h
  injection hv with e1 e2 e3
  subst e1 e2 e3
  exact ⟨vs, h1, h2, h3, h4, h5, h6⟩
section
variable {w : World} {Q : Nat → Prop}
end
end Go.Px
namespace Go.Proofs.Ytkknkdjdneldlaa
set_option maxRecDepth 20000
open Go.RowKit Go.Px
theorem laidOut : laidOutB Try.prog = true := by kernel_rfl
end Go.Proofs.Ytkknkdjdneldlaa
namespace Go.Proofs.Ytkknkdjdneldlaa
set_option maxRecDepth 20000
open Go.RowKit Go.Px Go.Maps
set_option linter.unusedVariables false
set_option maxRecDepth 20000 in
set_option maxHeartbeats 12800000 in
theorem machineLater_walk (A1 : Option Addr) (n1 c1 : Nat) (es1 : List EntryD) (vs1 : List Value) (A2 : Option Addr) (n2 c2 : Nat) (es2 : List EntryD) (vs2 : List Value) (w : World) {Q : Nat → Prop} {x : StateD} {cs : List Value} (h : tyState.Is w Q x cs) (hA1 : EntsAt w w.heap.size A1 n1 es1 vs1) (hA2 : EntsAt w w.heap.size A2 n2 es2 vs2) (hn1 : n1 ≤ 9223372036854775807) (hn2 : n2 ≤ 9223372036854775807) :
    Calls Try.prog 6 #[.agg cs.toArray, .slice A1 n1 c1, .slice A2 n2 c2] w fun x w' => x = .returned (.bool true) ∧ Below w.heap.size w w' := by
  have h' := h
  obtain ⟨sNum, sShapeBlocks, sShapeSize, sPages, sPagesA, sPagesn, sPagesc, sPagesv, sRows, sRowsA, sRowsn, sRowsc, sRowsv, sGroupEpoch, sGroupMembers, sGroupMembersA, sGroupMembersn, sGroupMembersc, sGroupMembersv, rfl, rfl, h1_sNum, h2_sNum, h1_sShapeBlocks, h2_sShapeBlocks, h1_sShapeSize, h2_sShapeSize, hl_sPages, hc_sPages, hm_sPages, hr_sPages, hq_sPages, he_sPages, hl_sRows, hc_sRows, hm_sRows, hr_sRows, hq_sRows, he_sRows, h1_sGroupEpoch, h2_sGroupEpoch, hl_sGroupMembers, hc_sGroupMembers, hm_sGroupMembers, hr_sGroupMembers, hq_sGroupMembers, he_sGroupMembers⟩ := State_out h'
  obtain ⟨w0, hw0⟩ : ∃ x, w.alloc (.cells #[.int .i64 sNum, .int .i64 sShapeBlocks, .int .i64 sShapeSize, .slice sPagesA sPagesn sPagesc, .slice sRowsA sRowsn sRowsc, .int .i64 sGroupEpoch, .slice sGroupMembersA sGroupMembersn sGroupMembersc] 39) = x := ⟨_, rfl⟩; have hBw0 : Blk w0 w.heap.size [.int .i64 sNum, .int .i64 sShapeBlocks, .int .i64 sShapeSize, .slice sPagesA sPagesn sPagesc, .slice sRowsA sRowsn sRowsc, .int .i64 sGroupEpoch, .slice sGroupMembersA sGroupMembersn sGroupMembersc] 39 := (by rw [← hw0]; exact Blk.new w [.int .i64 sNum, .int .i64 sShapeBlocks, .int .i64 sShapeSize, .slice sPagesA sPagesn sPagesc, .slice sRowsA sRowsn sRowsc, .int .i64 sGroupEpoch, .slice sGroupMembersA sGroupMembersn sGroupMembersc] _); have hbw0 : Below w.heap.size w w0 := (by rw [← hw0]; exact (Below.refl _ _).alloc (Nat.le_refl _) _); have Hw0 := hide hw0; clear hw0
  have h0 := h.below hbw0
  have z0 := hbw0.size
  clear h'
  go_enter Try.func6, Try.ntmps6
  go_wp2_with fail
  rw [Hw0.out]
  go_fit (awake07_any w0)
  rintro x w1 ⟨rfl, hb1⟩
  have hb01 := hbw0.trans (hb1.mono hbw0.size)
  have z1 := hb1.size
  have hB1 := hBw0.below hb1
  have y0 := Blk.cell hB1 (j := 0) rfl; have y1 := Blk.cell hB1 (j := 1) rfl; have y2 := Blk.cell hB1 (j := 2) rfl; have y3 := Blk.cell hB1 (j := 3) rfl; have y4 := Blk.cell hB1 (j := 4) rfl; have y5 := Blk.cell hB1 (j := 5) rfl; have y6 := Blk.cell hB1 (j := 6) rfl
  go_wp2_with fail
  go_fit (begin7_any (h0.below hb1))
  rintro x w2 (⟨rfl, hb2⟩ | ⟨f, rf, lo, rfl, hx, hM2, hR2, hlo, hb2⟩)
  · go_wp2
    go_ret
    exact ⟨rfl, hb01.trans (hb2.mono (by omega))⟩

  have hb02 := hb01.trans (hb2.mono (by omega))
  have z2 := hb2.size
  have hfit0 := fit_of hx
  obtain ⟨a0, ha0⟩ : ∃ y, MA.of (sNum, (sShapeBlocks, sShapeSize), sPages, sRows, (sGroupEpoch, sGroupMembers)) = y := ⟨_, rfl⟩
  rw [ha0] at hM2 hfit0
  obtain ⟨L0, hL0⟩ : ∃ y, w1.heap.size = y := ⟨_, rfl⟩
  rw [hL0] at hM2
  have hwL : w.heap.size ≤ L0 := by omega
  have hlow := hM2.low
  have hrlt : ∀ b, rf.W b → b < w2.heap.size := hR2.lts
  have hwz : w.heap.size ≤ w2.heap.size := by omega
  clear hR2 hL0 y0 y1 y2 y3 y4 y5 y6
  have yn := (hB1.below hb2).cell (j := 0) rfl
  by_cases hq : 1099511627776 < sNum
  · go_wp2
    go_ret
    exact ⟨rfl, hb02⟩
  have hq' : ¬ 1099511627776 < sNum := hq
  go_wp2
  go_loopw [10] (fun iv wr => ∃ (i : Nat) (a : MA) (N : Nat), i ≤ n1 ∧ i ≤ 100 ∧ N ≤ 64 + i ∧ iv = .int .i64 i ∧ MX wr L0 rf.W f a N ∧ a.Fit ∧ Below w.heap.size w wr ∧ w2.heap.size ≤ wr.heap.size) (fun iv _ => n1 - (intOf iv).toNat)
  case atStart => exact ⟨0, a0, 64, by omega, by omega, by omega, rfl, hM2, hfit0, hb02, by omega⟩
  case round =>
    obtain ⟨i, a, N, hi1, hi2, hN, rfl, hM, hfit, hBw, hzw⟩ := hrel
    by_cases hlt : i < n1 ∧ i < 100
    · obtain ⟨hlt1, hlt2⟩ := hlt
      obtain ⟨e, p, cs, he, hAp, hI, hat, hc⟩ := hA1.at_ hBw hlt1
      subst hAp
      have hI' := hI
      obtain ⟨eKind, eNum, eView, eClient, eSerial, eOpKind, eOpAt, eOpN, eOpData, eOpDataA, eOpDatan, eOpDatac, eOpOld, eOpOldA, eOpOldn, eOpOldc, eGroupEpoch, eGroupMembers, eGroupMembersA, eGroupMembersn, eGroupMembersc, eGroupMembersv, rfl, rfl, hu_eKind, h1_eNum, h2_eNum, h1_eView, h2_eView, h1_eClient, h2_eClient, h1_eSerial, h2_eSerial, hu_eOpKind, h1_eOpAt, h2_eOpAt, h1_eOpN, h2_eOpN, hl_eOpData, hc_eOpData, hm_eOpData, hr_eOpData, hq_eOpData, hl_eOpOld, hc_eOpOld, hm_eOpOld, hr_eOpOld, hq_eOpOld, h1_eGroupEpoch, h2_eGroupEpoch, hl_eGroupMembers, hc_eGroupMembers, hm_eGroupMembers, hr_eGroupMembers, hq_eGroupMembers, he_eGroupMembers⟩ := Entry_out hI'
      have y0 := el_0 (n := 12) hat (hc 0 _ rfl); have y1 := el_S (n := 12) (i := 0) hat (hc 1 _ rfl); have y2 := el_S (n := 12) (i := 1) hat (hc 2 _ rfl); have y3 := el_S (n := 12) (i := 2) hat (hc 3 _ rfl); have y4 := el_S (n := 12) (i := 3) hat (hc 4 _ rfl); have y5 := el_S (n := 12) (i := 4) hat (hc 5 _ rfl); have y6 := el_S (n := 12) (i := 5) hat (hc 6 _ rfl); have y7 := el_S (n := 12) (i := 6) hat (hc 7 _ rfl); have y8 := el_S (n := 12) (i := 7) hat (hc 8 _ rfl); have y9 := el_S (n := 12) (i := 8) hat (hc 9 _ rfl); have y10 := el_S (n := 12) (i := 9) hat (hc 10 _ rfl); have y11 := el_S (n := 12) (i := 10) hat (hc 11 _ rfl)
      have HAP := hide (apply_at hM hfit hI hwL (fun b hb => by have := hrlt b hb; omega) (by omega) hBw (by omega))
      clear hat hc hI hM
      go_wp2_with fail
      go_fit HAP.out
      rintro x w5 ⟨A5, c5, rfl, k1, k2, k3, k4, hM5, hfit5, F5, hB5⟩
      have z5 := F5.size
      have hM5' := hide hM5
      clear k1 k2 k3 k4 hM5 y0 y1 y2 y3 y4 y5 y6 y7 y8 y9 y10 y11
      go_wp2
      go_roundw
      case rel => exact ⟨i + 1, _, N + 1, by omega, by omega, by omega, by go_num, hM5'.out, hfit5, hB5, by omega⟩
      case measure => simp [intOf]; omega
    · rcases (show i = n1 ∨ (i < n1 ∧ i = 100) by omega) with rfl | ⟨hl2, rfl⟩
      all_goals
        have hM0 := hM
        obtain ⟨NN, B, D, G, gn, gc, hMI⟩ := hM0
        have hrl : ∀ b, rf.W b → b < wr.heap.size := fun b hb => by have := hrlt b hb; omega
        go_wp2_with fail
        go_fit (state7_any hMI hfit.ok 0)
        rintro x w3 ⟨cs3, rfl, hS3, hb3⟩
        have hB3 := hBw.trans (hb3.mono hBw.size)
        have hM3 := hM.below hb3
        have hlt3 := hM3.lts
        have z3 := hb3.size
        go_wp2_with fail
        go_fit (load7_any (Y := f.W) hS3 (stateB_st hfit 0) hlt3)
        rintro x w4 ⟨f2, rfl, hN4, hb4⟩
        obtain ⟨l0, hl0, hof⟩ := of_st hfit
        rw [hof] at hN4
        have hB4 := hB3.trans (hb4.mono hB3.size)
        have hlw2 := hN4.low
        have hlt2 := hN4.lts
        have z4 := hb4.size
        obtain ⟨L2, hL2⟩ : ∃ y, w3.heap.size = y := ⟨_, rfl⟩
        have hM4 := (hM3.avoid (Z := f2.W) hlw2).below hb4
        rw [hL2] at hN4 hlw2
        have hwL2 : w.heap.size ≤ L2 := by omega
        clear hMI hS3 hM3 hof
        have HNum0 := hide (let ⟨_, _, _, _, _, _, h⟩ := hM4; num7_any h)
        obtain ⟨aS, haS⟩ : ∃ y, y = a := ⟨_, rfl⟩
        have hfitS := hfit
        have hFr0 := MA.From.refl a
        rw [← haS] at hN4 hfitS
        have hFr0' : aS.From a := by rw [haS]; exact hFr0
        have hl0' : l0 ≤ aS.num := by rw [haS]; exact hl0
        have hnS : a.num = aS.num := by rw [haS]
        rw [hnS] at HNum0
        go_wp2_with fail
        go_fit HNum0.out
        rintro x w4' ⟨rfl, rfl⟩
        clear haS hFr0 hl0 hnS HNum0 hM
        go_wp2
        go_loopw [14] (fun iv wr => ∃ (i : Nat) (a : MA) (N : Nat), i ≤ n2 ∧ i ≤ 100 ∧ N ≤ 164 + i ∧ iv = .int .i64 i ∧ MX wr L0 (fun b => rf.W b ∨ f2.W b) f a N ∧ MX wr L2 f.W f2 { aS with last := l0 } 64 ∧ a.Fit ∧ aS.From a ∧ Below w.heap.size w wr ∧ w4.heap.size ≤ wr.heap.size) (fun iv _ => n2 - (intOf iv).toNat)
        case atStart => exact ⟨0, a, N, by omega, by omega, by omega, rfl, hM4, hN4, hfit, hFr0', hB4, by omega⟩
        case round =>
          clear hfit hM4 hN4 hN hFr0'
          obtain ⟨j, a, N, hj1, hj2, hN, rfl, hM, hN2, hfit, hFr, hBw4, hzw4⟩ := hrel
          by_cases hlt : j < n2 ∧ j < 100
          · obtain ⟨hlt1, hlt2'⟩ := hlt
            obtain ⟨e, p, cs, he, hAp, hI, hat, hc⟩ := hA2.at_ hBw4 hlt1
            subst hAp
            have hI' := hI
            obtain ⟨eKind, eNum, eView, eClient, eSerial, eOpKind, eOpAt, eOpN, eOpData, eOpDataA, eOpDatan, eOpDatac, eOpOld, eOpOldA, eOpOldn, eOpOldc, eGroupEpoch, eGroupMembers, eGroupMembersA, eGroupMembersn, eGroupMembersc, eGroupMembersv, rfl, rfl, hu_eKind, h1_eNum, h2_eNum, h1_eView, h2_eView, h1_eClient, h2_eClient, h1_eSerial, h2_eSerial, hu_eOpKind, h1_eOpAt, h2_eOpAt, h1_eOpN, h2_eOpN, hl_eOpData, hc_eOpData, hm_eOpData, hr_eOpData, hq_eOpData, hl_eOpOld, hc_eOpOld, hm_eOpOld, hr_eOpOld, hq_eOpOld, h1_eGroupEpoch, h2_eGroupEpoch, hl_eGroupMembers, hc_eGroupMembers, hm_eGroupMembers, hr_eGroupMembers, hq_eGroupMembers, he_eGroupMembers⟩ := Entry_out hI'
            have y0 := el_0 (n := 12) hat (hc 0 _ rfl); have y1 := el_S (n := 12) (i := 0) hat (hc 1 _ rfl); have y2 := el_S (n := 12) (i := 1) hat (hc 2 _ rfl); have y3 := el_S (n := 12) (i := 2) hat (hc 3 _ rfl); have y4 := el_S (n := 12) (i := 3) hat (hc 4 _ rfl); have y5 := el_S (n := 12) (i := 4) hat (hc 5 _ rfl); have y6 := el_S (n := 12) (i := 5) hat (hc 6 _ rfl); have y7 := el_S (n := 12) (i := 6) hat (hc 7 _ rfl); have y8 := el_S (n := 12) (i := 7) hat (hc 8 _ rfl); have y9 := el_S (n := 12) (i := 8) hat (hc 9 _ rfl); have y10 := el_S (n := 12) (i := 9) hat (hc 10 _ rfl); have y11 := el_S (n := 12) (i := 10) hat (hc 11 _ rfl)
            obtain ⟨gX, hgX⟩ : ∃ y, wr.heap.size = y := ⟨_, rfl⟩
            obtain ⟨wA, hwA⟩ : ∃ y, wr.alloc (.cells #[.int .u8 eKind, .int .i64 eNum, .int .i64 eView, .int .i64 eClient, .int .i64 eSerial, .int .u8 eOpKind, .int .i64 eOpAt, .int .i64 eOpN, .slice eOpDataA eOpDatan eOpDatac, .slice eOpOldA eOpOldn eOpOldc, .int .i64 eGroupEpoch, .slice eGroupMembersA eGroupMembersn eGroupMembersc] 50) = y := ⟨_, rfl⟩
            have hX : Blk wA gX [.int .u8 eKind, .int .i64 eNum, .int .i64 eView, .int .i64 eClient, .int .i64 eSerial, .int .u8 eOpKind, .int .i64 eOpAt, .int .i64 eOpN, .slice eOpDataA eOpDatan eOpDatac, .slice eOpOldA eOpOldn eOpOldc, .int .i64 eGroupEpoch, .slice eGroupMembersA eGroupMembersn eGroupMembersc] 50 := by rw [← hwA, ← hgX]; exact Blk.new wr [.int .u8 eKind, .int .i64 eNum, .int .i64 eView, .int .i64 eClient, .int .i64 eSerial, .int .u8 eOpKind, .int .i64 eOpAt, .int .i64 eOpN, .slice eOpDataA eOpDatan eOpDatac, .slice eOpOldA eOpOldn eOpOldc, .int .i64 eGroupEpoch, .slice eGroupMembersA eGroupMembersn eGroupMembersc] _
            have hbA : Below wr.heap.size wr wA := by rw [← hwA]; exact (Below.refl _ _).alloc (Nat.le_refl _) _
            have hMl := hM.lts
            have hNl := hN2.lts
            have hMA := (hM.avoid (Z := fun b => b = gX) (fun b hb => by omega)).below hbA
            have hNA := (hN2.avoid (Z := fun b => b = gX) (fun b hb => by omega)).below hbA
            have hIA := hI.below hbA
            have hBA := hBw4.trans (hbA.mono hBw4.size)
            have zA : wA.heap.size = gX + 1 := by rw [← hwA, World.size_alloc, hgX]
            have zw := hBw4.size
            have HwA := hide hwA
            have hnum := numB_out hfit.ok.num
            obtain ⟨NN9, B9, D9, G9, gn9, gc9, hMI⟩ := hMA
            have HNum := hide (num7_any hMI)
            have hMA : MX wA L0 (fun b => (rf.W b ∨ f2.W b) ∨ b = gX) f a N := ⟨NN9, B9, D9, G9, gn9, gc9, hMI⟩
            clear hat hc hI hM hN2 hwA hMI
            go_wp2_with fail
            rw [HwA.out]
            clear y0 y1 y2 y3 y4 y5 y6 y7 y8 y9 y10 y11
            go_fit HNum.out
            rintro x wA' ⟨rfl, rfl⟩
            have x1 := hX.cell (j := 1) rfl
            have xf := hX.frozen 1
            have hX' := hX.set 1 (.int .i64 (a.num + 1))
            have y0 := Blk.cell hX' (j := 0) rfl; have y1 := Blk.cell hX' (j := 1) rfl; have y2 := Blk.cell hX' (j := 2) rfl; have y3 := Blk.cell hX' (j := 3) rfl; have y4 := Blk.cell hX' (j := 4) rfl; have y5 := Blk.cell hX' (j := 5) rfl; have y6 := Blk.cell hX' (j := 6) rfl; have y7 := Blk.cell hX' (j := 7) rfl; have y8 := Blk.cell hX' (j := 8) rfl; have y9 := Blk.cell hX' (j := 9) rfl; have y10 := Blk.cell hX' (j := 10) rfl; have y11 := Blk.cell hX' (j := 11) rfl
            obtain ⟨wB, hwB⟩ : ∃ y, wA.setCell ⟨gX, 1, none⟩ (.int .i64 (a.num + 1)) = y := ⟨_, rfl⟩
            have FB : Fr (fun b => b = gX) wA wB := by rw [← hwB]; exact Fr.setg wA gX 1 _
            have hMB := hMA.fr FB (fun b hb _ => .inr hb)
            have hNB := hNA.fr FB (fun b hb _ => .inr hb)
            have hIB := entry_renum (hIA.fr FB (fun b hb => by omega)) (n := a.num + 1) (by omega)
            have hBB : Below w.heap.size w wB := FB.below hBA (by omega) (fun k hk => by omega)
            have zB := FB.size
            have HwB := hide hwB
            have HAP := hide (apply_at hMB hfit hIB hwL (fun b hb => by rcases hb with (hb | hb) | hb; have := hrlt b hb; omega; have := hlt2 b hb; omega; omega) (by omega) hBB (by omega))
            have hFr5 := from_apply hFr hfit (eKind, a.num + 1, eView, eClient, eSerial, (eOpKind, eOpAt, eOpN, eOpData, eOpOld), eGroupEpoch, eGroupMembers)
            clear hwB hX' hMA hNA hIA HNum hMB
            go_wp2_with fail
            rw [HwB.out]
            clear x1 xf y0 y1 y2 y3 y4 y5 y6 y7 y8 y9 y10 y11
            go_fit HAP.out
            rintro x w5 ⟨A5, c5, rfl, k1, k2, k3, k4, hM5, hfit5, F5, hB5⟩
            have z5 := F5.size
            have HN5 := hide ((hNB.fr F5 (fun b hb _ => .inl hb)).free (Y' := f.W) (fun b hb => .inl hb))
            have HM5 := hide (hM5.free (Y' := fun b => rf.W b ∨ f2.W b) (fun b hb => .inl hb))
            have hfit5' := hide hfit5
            have hFr5' := hide hFr5
            clear k1 k2 k3 k4 hM5 hNB hfit5 hFr5
            go_wp2
            go_roundw
            case rel => exact ⟨j + 1, _, N + 1, by omega, by omega, by omega, by go_num, HM5.out, HN5.out, hfit5'.out, hFr5'.out, hB5, by omega⟩
            case measure => simp [intOf]; omega
          · obtain ⟨hpB, lq, hpq⟩ := patch_later (l := l0) hfitS hfit hFr
            rcases (show j = n2 ∨ (j < n2 ∧ j = 100) by omega) with rfl | ⟨hl2', rfl⟩
            all_goals
              have hM' := hM
              have hMlt := hM.lts
              have hNlt := hN2.lts
              obtain ⟨NN9, B9, D9, G9, gn9, gc9, hMI⟩ := hM'
              obtain ⟨NN8, B8, D8, G8, gn8, gc8, hNI⟩ := hN2
              go_wp2_with fail
              go_fit (state7_any hMI hfit.ok aS.num)
              rintro x w8 ⟨cs8, rfl, hS8, hb8⟩
              have hB8 := hBw4.trans (hb8.mono hBw4.size)
              have z8 := hb8.size
              have hM8 := hM.below hb8
              have HPP := hide (patch7_ok (hNI.below hb8) hS8 hpB (fun b hb hW => by have := hNlt b hW; omega) (fun b hb => by have := hMlt b hb; omega))
              rw [hpq] at HPP
              clear hM hNI hpB hpq hMI
              go_wp2_with fail
              go_fit HPP.out
              rintro x w9 ⟨rfl, ⟨f3, e1, e2, e3, e4, hN9, e5⟩, F9⟩
              have z9 := F9.size
              have hM9 := hM8.fr F9 (fun b hb _ => .inr hb)
              have hB9 : Below w.heap.size w w9 := F9.below hB8 (by have := hB8.size; omega) (fun k hk => by have := hlw2 k hk; omega)
              obtain ⟨NN9, B9, D9, G9, gn9, gc9, hMI⟩ := hM9
              obtain ⟨NN8, B8, D8, G8, gn8, gc8, hNI⟩ := hN9
              have C1 := fun X (hX : Below w9.heap.size w9 X) => state7_any (hNI.below hX) (show ({ a with last := lq } : MA).Ok from ⟨hfit.ok.num, hfit.ok.rows, hfit.ok.vs⟩) 0
              have C2 := fun X (hX : Below w9.heap.size w9 X) => num7_any (hNI.below hX)
              rw [e1] at C1 C2
              have HC1 := hide C1
              have HC2 := hide C2
              clear C1 C2 e1 e2 e3 e4 e5
              go_wp2_with fail
              go_fit (state7_any hMI hfit.ok 0)
              rintro x w10 ⟨cs10, rfl, hS10, hb10⟩
              have hB10 := hB9.trans (hb10.mono hB9.size)
              go_wp2_with fail
              go_fit (HC1.out w10 hb10)
              rintro x w11 ⟨cs11, rfl, hS11, hb11⟩
              have hB11 := hB10.trans (hb11.mono hB10.size)
              have h911 := hb10.trans (hb11.mono hb10.size)
              go_wp2_with fail
              go_fit (sameSt_any (hS10.below hb11) hS11 rfl)
              rintro x w12 ⟨rfl, hb12⟩
              have hB12 := hB11.trans (hb12.mono hB11.size)
              have h912 := h911.trans (hb12.mono h911.size)
              have qn : (a.num == a.num) = true := by simp
              go_wp2_with fail
              go_fit (HC2.out w12 h912)
              rintro x w13 ⟨rfl, rfl⟩
              go_wp2_with fail
              go_fit (num7_any (hMI.below h912))
              rintro x w13 ⟨rfl, rfl⟩
              go_wp2
              go_ret
              exact ⟨rfl, hB12⟩
end Go.Proofs.Ytkknkdjdneldlaa
namespace Go.Proofs.Ytkknkdjdneldlaa
set_option maxRecDepth 20000
open Go.ChangeShapes Go.WideShapes Go.ChangeAt Go.RowKit Go.Px Go.Joins Go.Deep
set_option linter.unusedVariables false

set_option maxRecDepth 100000 in
theorem machineLater_lifted (os : Os) (started : os.Started) (H : Type) (enc : TypeId × Value → H) :
    ReturnsInHanded {} Try.checked os 6 .any (Rows.machineLaterSpec.pre6 enc Try.prog Try.f6 Rows.machineLaterRow.domain false) (Rows.machineLaterSpec.post enc Try.prog Try.f6 false true false false) := by
  refine returnsInHanded_of_change (C := Try.checked) own started (by kernel_rfl) Try.func6
    (ChangeSpec.witness6 (enc := enc) (C := Try.checked) false ⟨#[], #[.agg #[.int .i64 0, .int .i64 0, .int .i64 0, .slice none 0 0, .slice none 0 0, .int .i64 0, .slice none 0 0], .slice none 0 0, .slice none 0 0], []⟩ 8 (by kernel_rfl) (by kernel_rfl) (by kernel_rfl) (by kernel_rfl)) ?_
  intro W base args ds gs before hval0 hW _ hweigh
  have hval : ∀ (j : Nat) t v, Try.f6.params[j]? = some t → args[j]? = some v → Value.okWide Try.prog W .any base t v := hval0
  have hW' := hW
  obtain ⟨p, q, hA0, hV, rfl, hfz, hnd⟩ := hW
  have hA : DataW.TrodAll enc Try.prog W 0 (fun _ => true) true Try.f6.params.toList args.toList ds p := hA0
  rw [Try.params6] at hA hval
  obtain ⟨v0, l0, d0, e0, p0, q0, ha0, rfl, rfl, h0, r0⟩ := trodAll_cons hA
  obtain ⟨v1, l1, d1, e1, p1, q1, rfl, rfl, rfl, h1, r1⟩ := trodAll_cons r0
  obtain ⟨v2, l2, d2, e2, p2, q2, rfl, rfl, rfl, h2, r2⟩ := trodAll_cons r1
  obtain ⟨rfl, rfl, rfl⟩ := trodAll_nil r2
  obtain rfl : args = #[v0, v1, v2] := by cases args; simp_all
  obtain ⟨rfl, rfl⟩ := trodVars_none hV
  obtain ⟨⟨ls⟩, rfl, _⟩ := okWide_struct Try.underlying39 (hval 0 39 v0 rfl rfl); obtain ⟨s, hx0⟩ := open_any (t := tyState) (T := 39) (by kernel_rfl) h0; have hy0 : tyState.Is _ _ s ls := hx0
  obtain ⟨bA, bn, bc, rfl⟩ := okWide_slice Try.underlying51 (hval 1 51 v1 rfl rfl); obtain ⟨b, hx1⟩ := open_any (t := (.row tyEntry)) (T := 51) (by kernel_rfl) h1; obtain ⟨bv, hl_b, hc_b, hm_b, hr_b, hq_b, he_b⟩ := row_out hx1
  obtain ⟨cA, cn, cc, rfl⟩ := okWide_slice Try.underlying51 (hval 2 51 v2 rfl rfl); obtain ⟨c, hx2⟩ := open_any (t := (.row tyEntry)) (T := 51) (by kernel_rfl) h2; obtain ⟨cv, hl_c, hc_c, hm_c, hr_c, hq_c, he_c⟩ := row_out hx2
  refine (machineLater_walk bA bn bc b bv cA cn cc c cv W hy0 (entsAt_of hl_b hr_b he_b) (entsAt_of hl_c hr_c he_c) (by omega) (by omega)).mono fun e W' ⟨he, hb⟩ => ?_
  subst he
  exact ⟨_, rfl, law_post laidOut rfl rfl Try.underlying4 (fun t ht => (show ∀ t ∈ Try.f6.params.toList, Try.prog.readableRec t = true ∧ t < Try.prog.types.size from by decide +kernel) t ht) hW' rfl hb⟩

theorem machineLater_holds : Rows.MachineLaterSaid :=
  OpenClaim.holds_of_wide 6 Try.f6 rfl rfl rfl rfl rfl rfl rfl ⟨rfl, rfl, rfl, rfl, rfl⟩ rfl rfl rfl rfl rfl (by kernel_rfl) Try.func6 (by kernel_rfl)
    (of_decide_eq_true (by kernel_rfl)) (by unfold Func.isWrapper; first | (rw [if_pos (by decide +kernel)]; kernel_rfl) | (rw [if_neg (by decide +kernel)]; exact ⟨rfl, rfl⟩))
    (fun os started H enc _ => machineLater_lifted os started H enc)
end Go.Proofs.Ytkknkdjdneldlaa
