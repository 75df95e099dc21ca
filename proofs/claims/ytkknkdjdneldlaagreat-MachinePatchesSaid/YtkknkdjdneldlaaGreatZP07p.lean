/- For every input the law MachinePatches returns true, and each argument reads afterwards as it read before. No condition. -/
import Derived.Deep.RegionHeldLaw
import Derived.Test.YtkknkdjdneldlaaGreatRows
import Derived.Test.YtkknkdjdneldlaaGreatK71
import Derived.Test.YtkknkdjdneldlaaGreatK72
import Derived.Test.YtkknkdjdneldlaaGreatK73
import Derived.Test.YtkknkdjdneldlaaGreatK74
import Derived.Test.YtkknkdjdneldlaaGreatK75
import Derived.Test.YtkknkdjdneldlaaGreatK76
import Derived.Test.YtkknkdjdneldlaaGreatK77
import Derived.Test.YtkknkdjdneldlaaGreatK78
import Derived.Test.YtkknkdjdneldlaaGreatK79
import Derived.Test.YtkknkdjdneldlaaGreatK710
import Derived.Test.YtkknkdjdneldlaaGreatK711
import Derived.Test.YtkknkdjdneldlaaGreatK712
import Derived.Test.YtkknkdjdneldlaaGreatK713
import Derived.Test.YtkknkdjdneldlaaGreatK714
import Derived.Test.YtkknkdjdneldlaaGreatK715
namespace Go.Px
open Go.RowKit

/-! ### hide -/
/-! ### addresses -/
/-! ### what a slice reads as: nil let in -/
section
variable {w w' : World} {A : Option Addr} {xs : List Value}
end

/-! ### rows that a call owns -/
section
variable {w w' : World} {base : Nat} {e : TypeId} {size n : Nat} {v : Value} {xs : List Value}
end

/-! ### bytes and integers -/
/-! ### facts of a slice's type -/
/-! ### append onto a row of the call's own -/
section
variable {P : Program} {w : World}
end

/-! ### places at which a walk stands still, to be led on by hand -/
section
variable {P : Program} {w : World} {ops : Array Oper} {rest : List Oper} {o : Oper} {a : Act} {Q : Exit → Act → World → Prop}
end

/-! ### a row that grows, round by round -/
section
variable {P : Program} {w wr : World} {v0 v : Value} {base e size n : Nat} {xs : List Value}
variable {ops : Array Oper} {rest : List Oper} {o : Oper} {a : Act} {Q : Exit → Act → World → Prop}
end

/-! ### a law's row from its walk -/
section
open Go.ChangeShapes Go.WideShapes Go.ChangeAt
variable {H : Type} {enc : TypeId × Value → H} {P : Program}
theorem trodAll_below (hl : laidOutB P = true) {W W' : World} (hb : Below W.heap.size W W') : ∀ {ts : List TypeId} {vs : List Value} {ds : List (DataW H)} {ps : List MemPlace},
    (∀ t ∈ ts, P.readableRec t = true ∧ t < P.types.size) → DataW.TrodAll enc P W 0 (fun _ => true) true ts vs ds ps → (∀ x ∈ ps, x.block < W.heap.size) →
    ∀ sp : Nat → Bool, (∀ p ∈ ps, sp p.block = true) → DataW.TrodAll enc P W' 0 sp true ts vs ds ps
  | [], vs, ds, ps, _, h, _, _, _ => by
    obtain ⟨rfl, rfl, rfl⟩ := trodAll_nil h
    exact trodAll_mk0
  | t :: ts, vs, ds, ps, hr, h, hlt, sp, hsp => by
    obtain ⟨v, vs', d, ds', p, q, rfl, rfl, rfl, h1, h2⟩ := trodAll_cons h
    have ht := hr t List.mem_cons_self
    refine trodAll_cons_mk ?_ (trodAll_below hl hb (fun t' ht' => hr t' (List.mem_cons_of_mem _ ht')) h2 (fun x hx => hlt x (List.mem_append_right _ hx)) sp (fun x hx => hsp x (List.mem_append_right _ hx)))
    exact WideElems.Trod_stays hl ht.1 ht.2 h1 (fun x hx => hb.same (hlt x (List.mem_append_left _ hx))) (fun x hx => hsp x (List.mem_append_left _ hx))
theorem wf_u64 {v : Int} (h : (Lit.int .u64 v).wf = true) : ∃ n : Nat, v = n ∧ n < 18446744073709551616 := by
  have hz : 0 ≤ v ∧ v ≤ 18446744073709551615 := by simpa [Lit.wf, IntKind.min, IntKind.max, IntKind.signed, IntKind.bits] using h
  exact ⟨v.toNat, by omega, by omega⟩
theorem wf_i64 {v : Int} (h : (Lit.int .i64 v).wf = true) : -9223372036854775808 ≤ v ∧ v ≤ 9223372036854775807 := by
  simpa [Lit.wf, IntKind.min, IntKind.max, IntKind.signed, IntKind.bits] using h
/-- WHAT A LAW OWES: 'it returns true, and nothing that was there has turned'. The rest of its row is the same for all laws that name no variable. -/
theorem law_post {f : Func} {s : ChangeSpec} {W W' : World} {args : Array Value} {ds gs : List (DataW H)} {before : List MemPlace} {tb : TypeId}
    (hl : laidOutB P = true) (hvars : s.vars = []) (hres : f.resultTypes = #[tb]) (htb : P.underlying tb = some .bool)
    (hr : ∀ t ∈ f.params.toList, P.readableRec t = true ∧ t < P.types.size)
    (hW : DataW.Whole enc P f.params.toList s.vars false W args.toList ds gs before)
    (hs : s.fn H (ds ++ gs) = { results := [.lit (.bool true)], args := ds, vars := [] })
    (hb : Below W.heap.size W W') : s.post enc P f false true false false W args (.bool true) W' := by
  have hW0 := hW
  obtain ⟨p, q, hA, hV, rfl, hfz, hnd⟩ := hW
  rw [hvars] at hV
  obtain ⟨rfl, rfl⟩ := trodVars_none hV
  have hlt : ∀ x ∈ p ++ [], x.block < W.heap.size := fun x hx => hW0.lt x hx
  have hold : ∀ p' ∈ p ++ [], (fun b => decide (b < W.heap.size)) p'.block = true := fun p' hp => by simpa using hlt p' hp
  refine ⟨ds, [], p ++ [], [], p, [], hW0, ?_, ?_, ?_, ?_, fun h => by cases h⟩
  · rw [hs, hres]
    exact trodAll_mk1 (shut_bool htb true)
  · rw [hs]
    exact trodAll_below hl hb hr hA (fun x hx => hlt x (List.mem_append_left _ hx)) _ (fun x hx => hold x (List.mem_append_left _ hx))
  · rw [hs, hvars]
    rfl
  · exact World.keptBut_mono (fun x hx => ⟨hx, .inr (.inl (by simpa using hx))⟩) (hb.frame (· ∈ p ++ []))
end
end Go.Px
namespace Go.Px
set_option maxRecDepth 20000
theorem wf_u8 {v : Int} (h : (Lit.int .u8 v).wf = true) : ∃ n : Nat, v = n ∧ n < 256 := by
  have hz : 0 ≤ v ∧ v ≤ 255 := by simpa [Lit.wf, IntKind.min, IntKind.max, IntKind.signed, IntKind.bits] using h
  exact ⟨v.toNat, by omega, by omega⟩
end Go.Px
namespace Go.Px
set_option maxRecDepth 20000
open Go.RowKit Go.ChangeShapes
variable {H : Type} {enc : TypeId × Value → H} {P : Program}
theorem open_bytesF {w : World} {base : Nat} {spare : Nat → Bool} {held : Bool} {t e : TypeId} (ht : P.underlying t = some (.slice e)) (he : P.underlying e = some (.int .u8)) (hc : P.cellsOf e = 1)
    {v : Value} {fuel : Nat} {x : DataW H × List MemPlace} (hf : DataW.trod enc P w base spare held fuel t [v] = some x) :
    ∃ (A : Option Addr) (n c : Nat) (bs : List UInt8), v = .slice A n c ∧ bs.length = n ∧ n ≤ c ∧ c ≤ 9223372036854775807 ∧ Rd w A (bys bs) := by
  rcases Go.ChangeShapes.open_ints ht he hc hf with ⟨hcs, _⟩ | ⟨a, len, cap, zs, hcs, _, hlc, hcm, hlen, _, hcell, hwf⟩
  · obtain rfl : v = .slice none 0 0 := by simpa using hcs
    exact ⟨none, 0, 0, [], rfl, rfl, by omega, by omega, Rd.nil⟩
  · obtain rfl : v = .slice (some a) len cap := by simpa using hcs
    have hle : len ≤ zs.length := by rw [hlen]; split <;> omega
    refine ⟨some a, len, cap, (zs.take len).map fun z => UInt8.ofNat z.toNat, rfl, by simp [Nat.min_eq_left hle], hlc, by unfold maxLen at hcm; omega, Rd.of_some fun j u hu => ?_⟩
    have hj : j < len := by
      have := (List.getElem?_eq_some_iff.1 hu).1
      simp [bys] at this; omega
    have hjz : j < zs.length := by omega
    have hw := hwf zs[j] (List.getElem_mem hjz)
    have hz : 0 ≤ zs[j] ∧ zs[j] ≤ 255 := by simpa [Lit.wf, IntKind.min, IntKind.max, IntKind.signed, IntKind.bits] using hw
    rw [hcell j hjz]
    simp only [bys, List.map_map, List.getElem?_map, List.getElem?_take, if_pos hj, List.getElem?_eq_getElem hjz, Option.map_some, Function.comp] at hu
    rw [← hu]
    simp only [List.getD, List.getElem?_eq_getElem hjz, Option.getD_some]
    congr 2
    have : (UInt8.ofNat (zs[j]).toNat).toNat = (zs[j]).toNat := by
      simp; omega
    rw [this]; omega
end Go.Px
namespace Go.Px
open Go.RowKit Go.ChangeShapes Go.WideShapes Go.ChangeAt Go.Deep
section
variable {w w' : World} {Q Q' : Nat → Prop} {t : Ty} {x : t.Den} {cs : List Value}
variable {xs : List t.Den} {vs : List Value}
/-- .. where they lie, in a slice that begins at a: the walk writes the first one's address so, and the others' .. -/
theorem el_0 {a : Addr} (hat : ∀ (j : Nat) (u : Value), vs[j]? = some u → w'.cell? (a.add j) = some u) {n k : Nat} {u : Value} (h : vs[n * k + 0]? = some u) : w'.cell? (a.add (k * n)) = some u := by
  rw [Nat.mul_comm]; exact hat _ _ h
theorem el_S {a : Addr} (hat : ∀ (j : Nat) (u : Value), vs[j]? = some u → w'.cell? (a.add j) = some u) {n k i : Nat} {u : Value} (h : vs[n * k + (i + 1)]? = some u) : w'.cell? ⟨(a.add (k * n)).block, (a.add (k * n)).off + (i + 1), none⟩ = some u := by
  have := hat _ _ h
  have e : a.add (n * k + (i + 1)) = ⟨(a.add (k * n)).block, (a.add (k * n)).off + (i + 1), none⟩ := by
    unfold Addr.add
    rw [if_neg (by omega)]
    split
    · rename_i h0
      rw [Nat.mul_comm] at h0
      rw [h0, Nat.zero_add]
    · show (⟨a.block, a.off + (n * k + (i + 1)), none⟩ : Addr) = ⟨a.block, a.off + k * n + (i + 1), none⟩
      rw [Nat.mul_comm, Nat.add_assoc]
  rw [← e]; exact this
end
/-! ### those that came in -/
/-- Does a type have a shape? (A list of fields, each with the place of its first cell.) -/
def Ty.fits (P : Program) : Ty → List (TypeId × Nat) → Bool
  | .i64, [(T, _)] => match P.underlying T with | some (.int .i64) => P.cellsOf T == 1 | _ => false
  | .u8, [(T, _)] => match P.underlying T with | some (.int .u8) => P.cellsOf T == 1 | _ => false
  | .u32, [(T, _)] => match P.underlying T with | some (.int .u32) => P.cellsOf T == 1 | _ => false
  | .u64, [(T, _)] => match P.underlying T with | some (.int .u64) => P.cellsOf T == 1 | _ => false
  | .bool, [(T, _)] => match P.underlying T with | some .bool => P.cellsOf T == 1 | _ => false
  | .bytes, [(T, _)] => match P.underlying T with | some (.slice E) => (match P.underlying E with | some (.int .u8) => P.cellsOf E == 1 | _ => false) && P.cellsOf T == 1 | _ => false
  | .row t, [(T, _)] => match P.underlying T with | some (.slice E) => (P.cellsOf E == t.n && t.fits P [(E, 0)]) && P.cellsOf T == 1 | _ => false
  | .pr a b, (T, o) :: (T2, o2) :: L => (o2 == o + a.n && a.fits P [(T, o)]) && b.fits P ((T2, o2) :: L)
  | .st t, [(T, _)] => match P.underlying T with | some (.struct fs) => (P.cellsOf T == t.n && ((fs.toList.map fun f => (f.type, f.offset)).head?.map (·.2) == some 0)) && t.fits P (fs.toList.map fun f => (f.type, f.offset)) | _ => false
  | _, _ => false
variable {H : Type} {enc : TypeId × Value → H} {P : Program}
theorem wf_u32' {z : Int} (h : (Lit.int .u32 z).wf = true) : ∃ n : Nat, z = n ∧ n < 4294967296 := by
  have : 0 ≤ z ∧ z ≤ 4294967295 := by simpa [Lit.wf, IntKind.min, IntKind.max, IntKind.signed, IntKind.bits] using h
  exact ⟨z.toNat, by omega, by omega⟩
theorem fits_cells {P : Program} : ∀ {t : Ty} {T : TypeId} {o : Nat}, t.fits P [(T, o)] = true → P.cellsOf T = t.n := by
  intro t T o h
  cases t <;> simp only [Ty.fits] at h <;> (try split at h) <;> simp_all [Ty.n]
def TrodAt (enc : TypeId × Value → H) (P : Program) (w : World) (base : Nat) (spare : Nat → Bool) (held : Bool) (cs : List Value) (T : TypeId) (o : Nat) : Prop := ∃ fuel x, DataW.trod enc P w base spare held fuel T ((cs.drop o).take (P.cellsOf T)) = some x
theorem one1_of {p : Value → Prop} {cs : List Value} {c : Value} (h : cs = [c]) (hp : p c) : one1 p cs := by subst h; exact hp
def Ty.dft : (t : Ty) → t.Den
  | .i64 => (0 : Int)
  | .u8 | .u32 | .u64 => (0 : Nat)
  | .bool => false
  | .bytes => []
  | .row _ => []
  | .pr a b => (a.dft, b.dft)
  | .st t => t.dft
theorem rows_build {w : World} {Q : Nat → Prop} {t : Ty} (g : Nat → t.Den) (gs : Nat → List Value) : ∀ (n : Nat), (∀ i, i < n → t.Is w Q (g i) (gs i)) → t.Rows w Q ((List.range n).map g) ((List.range n).flatMap gs)
  | 0, _ => Ty.Rows.nil
  | n + 1, h => by
    rw [List.range_succ, List.map_append, List.flatMap_append]
    refine (rows_build g gs n (fun i hi => h i (by omega))).append ?_
    have := Ty.Rows.one (h n (by omega))
    simpa using this
theorem rd_build {w : World} {a : Addr} {m : Nat} {gs : Nat → List Value} : ∀ (n : Nat), (∀ i, i < n → (gs i).length = m) → (∀ i, i < n → ∀ r (u : Value), (gs i)[r]? = some u → w.cell? (a.add (m * i + r)) = some u) → Rd w (some a) ((List.range n).flatMap gs)
  | 0, _, _ => Rd.nil
  | n + 1, hl, h => by
    have ih := rd_build (w := w) (a := a) n (fun i hi => hl i (by omega)) (fun i hi => h i (by omega))
    have hlen : ((List.range n).flatMap gs).length = m * n := by
      clear ih
      induction n with
      | zero => simp
      | succ n ih =>
        rw [List.range_succ, List.flatMap_append, List.length_append, ih (fun i hi => hl i (by omega)) (fun i hi => h i (by omega))]
        simp [hl n (by omega), Nat.mul_succ]
    rw [List.range_succ, List.flatMap_append]
    refine Rd.of_some fun j u hu => ?_
    by_cases hj : j < ((List.range n).flatMap gs).length
    · rw [List.getElem?_append_left hj] at hu
      exact ih.at_ hu
    · rw [List.getElem?_append_right (by omega)] at hu
      simp only [List.flatMap_cons, List.flatMap_nil, List.append_nil] at hu
      have := h n (by omega) _ u hu
      rw [hlen] at this hj
      rwa [show m * n + (j - m * n) = j by omega] at this
theorem open_uni {w : World} {base : Nat} {spare : Nat → Bool} {held : Bool} : ∀ (t : Ty) (L : List (TypeId × Nat)) (cs : List Value), t.fits P L = true → (∀ T o, (T, o) ∈ L → TrodAt enc P w base spare held cs T o) →
    ∃ x : t.Den, t.Is w (fun _ => True) x ((cs.drop ((L.head?.map (·.2)).getD 0)).take t.n)
  | .i64, [(T, o)], cs, hf, h => by
    simp only [Ty.fits] at hf
    split at hf <;> simp_all
    rename_i hu
    obtain ⟨fuel, x, hx⟩ := h
    rw [hf] at hx
    obtain ⟨z, hz, _, hw⟩ := DataW.trod_int hu hx
    have := wf_i64 hw
    exact ⟨z, one1_of hz ⟨rfl, this.1, this.2⟩⟩
  | .u8, [(T, o)], cs, hf, h => by
    simp only [Ty.fits] at hf
    split at hf <;> simp_all
    rename_i hu
    obtain ⟨fuel, x, hx⟩ := h
    rw [hf] at hx
    obtain ⟨z, hz, _, hw⟩ := DataW.trod_int hu hx
    obtain ⟨n, rfl, hn⟩ := wf_u8 hw
    exact ⟨n, one1_of hz ⟨rfl, hn⟩⟩
  | .u32, [(T, o)], cs, hf, h => by
    simp only [Ty.fits] at hf
    split at hf <;> simp_all
    rename_i hu
    obtain ⟨fuel, x, hx⟩ := h
    rw [hf] at hx
    obtain ⟨z, hz, _, hw⟩ := DataW.trod_int hu hx
    obtain ⟨n, rfl, hn⟩ := wf_u32' hw
    exact ⟨n, one1_of hz ⟨rfl, hn⟩⟩
  | .u64, [(T, o)], cs, hf, h => by
    simp only [Ty.fits] at hf
    split at hf <;> simp_all
    rename_i hu
    obtain ⟨fuel, x, hx⟩ := h
    rw [hf] at hx
    obtain ⟨z, hz, _, hw⟩ := DataW.trod_int hu hx
    obtain ⟨n, rfl, hn⟩ := wf_u64 hw
    exact ⟨n, one1_of hz ⟨rfl, hn⟩⟩
  | .bool, [(T, o)], cs, hf, h => by
    simp only [Ty.fits] at hf
    split at hf <;> simp_all
    rename_i hu
    obtain ⟨fuel, x, hx⟩ := h
    rw [hf] at hx
    obtain ⟨z, hz, _⟩ := DataW.trod_bool hu hx
    have hzz : Ty.Is w (fun _ => True) .bool z (List.take (Ty.n .bool) (List.drop o cs)) := one1_of hz rfl
    cases z
    · exact .inl hzz
    · exact .inr hzz
  | .bytes, [(T, o)], cs, hf, h => by
    simp only [Ty.fits] at hf
    split at hf <;> simp_all
    rename_i E hu
    obtain ⟨h1, h2⟩ := hf
    split at h1 <;> simp_all
    rename_i he
    obtain ⟨fuel, x, hx⟩ := h
    rw [h2] at hx
    have hx' := hx
    rcases Go.ChangeShapes.open_ints hu he h1 hx with ⟨hcs, _⟩ | ⟨a, len, cap, zs, hcs, _⟩
    · rw [hcs] at hx'
      obtain ⟨A, n, c, bs, hv, q1, q2, q3, q4⟩ := open_bytesF hu he h1 hx'
      exact ⟨bs, one1_of hcs ⟨A, n, c, hv, q1, q2, q3, q4, fun _ _ _ => trivial⟩⟩
    · rw [hcs] at hx'
      obtain ⟨A, n, c, bs, hv, q1, q2, q3, q4⟩ := open_bytesF hu he h1 hx'
      exact ⟨bs, one1_of hcs ⟨A, n, c, hv, q1, q2, q3, q4, fun _ _ _ => trivial⟩⟩
  | .row t, [(T, o)], cs, hf, h => by
    simp only [Ty.fits] at hf
    split at hf <;> simp_all
    rename_i E hu
    obtain ⟨⟨h1, h3⟩, h2⟩ := hf
    obtain ⟨fuel, x, hx⟩ := h
    rw [h2] at hx
    rcases open_slice hu hx with ⟨hcs, _⟩ | ⟨a, n, c, m, n', D, Pl, hcs, _, hlc, hcm, hm, _, hel⟩
    · exact ⟨[], one1_of hcs ⟨none, 0, 0, [], rfl, rfl, by omega, by omega, Rd.nil, fun _ _ _ => trivial, by simp, fun j y hy => by simp at hy⟩⟩
    · have hall : ∀ i, ∃ (e : t.Den) (es : List Value), i < n → es.length = t.n ∧ t.Is w (fun _ => True) e es ∧ ∀ r (u : Value), es[r]? = some u → w.cell? (a.add (t.n * i + r)) = some u := by
        intro i
        by_cases hi : i < n
        · obtain ⟨cs', hc, ht⟩ := hel i (by rw [hm]; split <;> omega)
          rw [h1] at hc
          obtain ⟨_, hcl, hat⟩ := World.cells?_some hc
          obtain ⟨e, he⟩ := open_uni t [(E, 0)] cs' h3 (fun T o hTo => by
            simp at hTo
            obtain ⟨rfl, rfl⟩ := hTo
            exact ⟨n', _, by rw [List.drop_zero, h1, List.take_of_length_le (by omega)]; exact ht⟩)
          simp only [List.head?_cons, Option.map_some, Option.getD_some, List.drop_zero] at he
          rw [List.take_of_length_le (by omega)] at he
          refine ⟨e, cs', fun _ => ⟨hcl, he, fun r u hu => ?_⟩⟩
          obtain ⟨hr, rfl⟩ := List.getElem?_eq_some_iff.1 hu
          have := hat r (by omega)
          rw [Px.add_add, Nat.mul_comm] at this
          rw [this, List.getElem?_eq_getElem hr]
        · exact ⟨t.dft, [], fun h => absurd h hi⟩
      obtain ⟨g, hg⟩ := Classical.axiomOfChoice hall
      obtain ⟨gs, hg⟩ := Classical.axiomOfChoice hg
      have hR := rows_build (w := w) (Q := fun _ => True) g gs n (fun i hi => (hg i hi).2.1)
      refine ⟨(List.range n).map g, one1_of hcs ⟨some a, n, c, (List.range n).flatMap gs, rfl, by simp, hlc, by unfold maxLen at hcm; omega, ?_, fun _ _ _ => trivial, hR⟩⟩
      exact rd_build n (fun i hi => (hg i hi).1) (fun i hi => (hg i hi).2.2)
  | .pr a b, (T, o) :: (T2, o2) :: L, cs, hf, h => by
    simp only [Ty.fits, Bool.and_eq_true, beq_iff_eq] at hf
    obtain ⟨⟨ho, h1⟩, h2⟩ := hf
    obtain ⟨x, hx⟩ := open_uni a [(T, o)] cs h1 (fun T' o' hm => h T' o' (by simp at hm; simp [hm]))
    obtain ⟨y, hy⟩ := open_uni b ((T2, o2) :: L) cs h2 (fun T' o' hm => h T' o' (List.mem_cons_of_mem _ hm))
    refine ⟨(x, y), ?_, ?_⟩
    · show a.Is w _ x _
      simp only [List.head?_cons, Option.map_some, Option.getD_some] at hx ⊢
      rw [List.take_take, Nat.min_eq_left (by show a.n ≤ a.n + b.n; omega)]
      exact hx
    · show b.Is w _ y _
      simp only [List.head?_cons, Option.map_some, Option.getD_some] at hy ⊢
      rw [List.drop_take, List.drop_drop, show (Ty.pr a b).n - a.n = b.n from by show a.n + b.n - a.n = b.n; omega, ← ho]
      exact hy
  | .st t, [(T, o)], cs, hf, h => by
    simp only [Ty.fits] at hf
    split at hf <;> simp_all
    rename_i fs hu
    obtain ⟨⟨h1, h3⟩, h2⟩ := hf
    obtain ⟨fuel, x, hx⟩ := h
    obtain ⟨ys, n', _, _, hlen, hyl, hg⟩ := DataW.trod_struct hu hx
    obtain ⟨y, hy⟩ := open_uni t (fs.toList.map fun f => (f.type, f.offset)) ((cs.drop o).take (P.cellsOf T)) h2 (fun T' o' hm => by
      obtain ⟨f, hf, he⟩ := List.mem_map.1 hm
      injection he with he1 he2
      subst he1 he2
      obtain ⟨i, hi, hie⟩ := List.mem_iff_getElem.1 hf
      have hi' : i < fs.size := by simpa using hi
      have hgi := hg i f (by rw [Array.getElem?_eq_getElem hi']; simp at hie; rw [hie])
      rw [List.getElem?_eq_getElem (by rw [hyl]; exact hi')] at hgi
      exact ⟨n', _, hgi⟩)
    refine ⟨y, ?_⟩
    obtain ⟨hd, hh1, hh2⟩ := h3
    simp only [List.head?_map, hh1, Option.map_some, Option.getD_some, hh2, List.drop_zero, h1, List.take_take, Nat.min_self] at hy
    exact hy
theorem trod_len {w : World} {base : Nat} {spare : Nat → Bool} {held : Bool} {t : Ty} {T : TypeId} {o fuel : Nat} {cs : List Value} {x : DataW H × List MemPlace} (hf : t.fits P [(T, o)] = true) (h : DataW.trod enc P w base spare held fuel T cs = some x) : cs.length = P.cellsOf T := by
  rw [fits_cells hf]
  cases t <;> simp only [Ty.fits] at hf <;> (try split at hf) <;> simp_all
  all_goals first
    | (rename_i hu; obtain ⟨z, hz, _⟩ := DataW.trod_int hu h; rw [hz]; rfl)
    | (rename_i hu; obtain ⟨z, hz, _⟩ := DataW.trod_bool hu h; rw [hz]; rfl)
    | (rename_i hu; rcases open_slice hu h with ⟨hcs, _⟩ | ⟨a, n, c, m, n', D, Pl, hcs, _⟩ <;> (rw [hcs]; rfl))
    | (rename_i hu; obtain ⟨_, _, _, _, hl, _⟩ := DataW.trod_struct hu h; rw [hl]; exact hf.1.1)
/-- An argument that came in, of any shape. -/
theorem open_any {w : World} {base : Nat} {spare : Nat → Bool} {held : Bool} {t : Ty} {T : TypeId} (hf : t.fits P [(T, 0)] = true) {v : Value} {d : DataW H} {ps : List MemPlace} (h : DataW.Trod enc P w base spare held T v d ps) :
    ∃ x : t.Den, t.Is w (fun b => b < w.heap.size) x v.cells.toList := by
  obtain ⟨fuel, h⟩ := h
  have hl := trod_len hf h
  obtain ⟨x, hx⟩ := open_uni (enc := enc) (w := w) (base := base) (spare := spare) (held := held) t [(T, 0)] v.cells.toList hf (fun T' o' hm => by
    simp at hm
    obtain ⟨rfl, rfl⟩ := hm
    exact ⟨fuel, _, by rw [List.drop_zero, List.take_of_length_le (by omega)]; exact h⟩)
  refine ⟨x, ?_⟩
  simp only [List.head?_cons, Option.map_some, Option.getD_some, List.drop_zero] at hx
  rw [List.take_of_length_le (by rw [hl, fits_cells hf]; exact Nat.le_refl _)] at hx
  exact hx.low
end Go.Px
namespace Go.Px
set_option maxRecDepth 20000
open Go.RowKit
set_option linter.unusedVariables false
theorem row_out {w : World} {Q : Nat → Prop} {t : Ty} {xs : List t.Den} {A : Option Addr} {n c : Nat} (h : (Ty.row t).Is w Q xs [.slice A n c]) : ∃ vs, xs.length = n ∧ n ≤ c ∧ c ≤ 9223372036854775807 ∧ Rd w A vs ∧ (xs ≠ [] → ∀ a, A = some a → Q a.block) ∧ t.Rows w Q xs vs := by
  obtain ⟨A', n', c', vs, hv, h1, h2, h3, h4, h5, h6⟩ := h
  injection hv with e1 e2 e3
  subst e1 e2 e3
  exact ⟨vs, h1, h2, h3, h4, h5, h6⟩
section
variable {w : World} {Q : Nat → Prop}
end
end Go.Px
namespace Go.Proofs.YtkknkdjdneldlaaGreat
set_option maxRecDepth 20000
open Go.RowKit Go.Px
theorem laidOut : laidOutB Tryz.prog = true := by kernel_rfl
end Go.Proofs.YtkknkdjdneldlaaGreat
namespace Go.Proofs.YtkknkdjdneldlaaGreat
set_option maxRecDepth 20000
open Go.RowKit Go.Px Go.Maps
set_option linter.unusedVariables false
set_option maxRecDepth 20000 in
set_option maxHeartbeats 12800000 in
theorem machinePatches_walk (A1 : Option Addr) (n1 c1 : Nat) (es1 : List EntryD) (vs1 : List Value) (since : Int) (w : World) {Q Q' : Nat → Prop} {x o : StateD} {cs ds : List Value} (h : tyState.Is w Q x cs) (hO : tyState.Is w Q' o ds) (hA1 : EntsAt w w.heap.size A1 n1 es1 vs1) (hn1 : n1 ≤ 9223372036854775807) :
    Calls Tryz.prog 4 #[.agg cs.toArray, .slice A1 n1 c1, .agg ds.toArray, .int .i64 since] w fun x w' => x = .returned (.bool true) ∧ Below w.heap.size w w' := by
  have h' := h
  obtain ⟨sNum, sShapeBlocks, sShapeSize, sPages, sPagesA, sPagesn, sPagesc, sPagesv, sRows, sRowsA, sRowsn, sRowsc, sRowsv, sGroupEpoch, sGroupMembers, sGroupMembersA, sGroupMembersn, sGroupMembersc, sGroupMembersv, rfl, rfl, h1_sNum, h2_sNum, h1_sShapeBlocks, h2_sShapeBlocks, h1_sShapeSize, h2_sShapeSize, hl_sPages, hc_sPages, hm_sPages, hr_sPages, hq_sPages, he_sPages, hl_sRows, hc_sRows, hm_sRows, hr_sRows, hq_sRows, he_sRows, h1_sGroupEpoch, h2_sGroupEpoch, hl_sGroupMembers, hc_sGroupMembers, hm_sGroupMembers, hr_sGroupMembers, hq_sGroupMembers, he_sGroupMembers⟩ := State_out h'
  have hO' := hO
  obtain ⟨oNum, oShapeBlocks, oShapeSize, oPages, oPagesA, oPagesn, oPagesc, oPagesv, oRows, oRowsA, oRowsn, oRowsc, oRowsv, oGroupEpoch, oGroupMembers, oGroupMembersA, oGroupMembersn, oGroupMembersc, oGroupMembersv, rfl, rfl, h1_oNum, h2_oNum, h1_oShapeBlocks, h2_oShapeBlocks, h1_oShapeSize, h2_oShapeSize, hl_oPages, hc_oPages, hm_oPages, hr_oPages, hq_oPages, he_oPages, hl_oRows, hc_oRows, hm_oRows, hr_oRows, hq_oRows, he_oRows, h1_oGroupEpoch, h2_oGroupEpoch, hl_oGroupMembers, hc_oGroupMembers, hm_oGroupMembers, hr_oGroupMembers, hq_oGroupMembers, he_oGroupMembers⟩ := State_out hO'
  obtain ⟨gO, hgO⟩ : ∃ y, w.heap.size + 1 = y := ⟨_, rfl⟩
  obtain ⟨w0, hw0⟩ : ∃ x, (w.alloc (.cells #[.int .i64 sNum, .int .i64 sShapeBlocks, .int .i64 sShapeSize, .slice sPagesA sPagesn sPagesc, .slice sRowsA sRowsn sRowsc, .int .i64 sGroupEpoch, .slice sGroupMembersA sGroupMembersn sGroupMembersc] 30)).alloc (.cells #[.int .i64 oNum, .int .i64 oShapeBlocks, .int .i64 oShapeSize, .slice oPagesA oPagesn oPagesc, .slice oRowsA oRowsn oRowsc, .int .i64 oGroupEpoch, .slice oGroupMembersA oGroupMembersn oGroupMembersc] 30) = x := ⟨_, rfl⟩
  have hBS : Blk w0 w.heap.size [.int .i64 sNum, .int .i64 sShapeBlocks, .int .i64 sShapeSize, .slice sPagesA sPagesn sPagesc, .slice sRowsA sRowsn sRowsc, .int .i64 sGroupEpoch, .slice sGroupMembersA sGroupMembersn sGroupMembersc] 30 := by rw [← hw0]; exact (Blk.new w [.int .i64 sNum, .int .i64 sShapeBlocks, .int .i64 sShapeSize, .slice sPagesA sPagesn sPagesc, .slice sRowsA sRowsn sRowsc, .int .i64 sGroupEpoch, .slice sGroupMembersA sGroupMembersn sGroupMembersc] _).alloc _
  have hBO : Blk w0 gO [.int .i64 oNum, .int .i64 oShapeBlocks, .int .i64 oShapeSize, .slice oPagesA oPagesn oPagesc, .slice oRowsA oRowsn oRowsc, .int .i64 oGroupEpoch, .slice oGroupMembersA oGroupMembersn oGroupMembersc] 30 := by
    rw [← hw0, ← hgO]
    have := Blk.new (w.alloc (.cells #[.int .i64 sNum, .int .i64 sShapeBlocks, .int .i64 sShapeSize, .slice sPagesA sPagesn sPagesc, .slice sRowsA sRowsn sRowsc, .int .i64 sGroupEpoch, .slice sGroupMembersA sGroupMembersn sGroupMembersc] 30)) [.int .i64 oNum, .int .i64 oShapeBlocks, .int .i64 oShapeSize, .slice oPagesA oPagesn oPagesc, .slice oRowsA oRowsn oRowsc, .int .i64 oGroupEpoch, .slice oGroupMembersA oGroupMembersn oGroupMembersc] 30
    rwa [World.size_alloc] at this
  have hbw0 : Below w.heap.size w w0 := by rw [← hw0]; exact ((Below.refl _ _).alloc (Nat.le_refl _) _).alloc (by simp) _
  have zz0 : w0.heap.size = gO + 1 := by rw [← hw0, World.size_alloc, World.size_alloc, hgO]
  have h0 := h.below hbw0
  have hO0 := hO.low.below hbw0
  have z0 := hbw0.size
  have Hw0 := hide hw0
  clear hw0 h' hO'
  go_enter Tryz.func4, Tryz.ntmps4
  go_wp2_with fail
  rw [Hw0.out]
  go_fit (awake07_any w0)
  rintro x w1 ⟨rfl, hb1⟩
  have hb01 := hbw0.trans (hb1.mono hbw0.size)
  have z1 := hb1.size
  have hB1 := hBS.below hb1
  have y0 := Blk.cell hB1 (j := 0) rfl; have y1 := Blk.cell hB1 (j := 1) rfl; have y2 := Blk.cell hB1 (j := 2) rfl; have y3 := Blk.cell hB1 (j := 3) rfl; have y4 := Blk.cell hB1 (j := 4) rfl; have y5 := Blk.cell hB1 (j := 5) rfl; have y6 := Blk.cell hB1 (j := 6) rfl
  go_wp2_with fail
  go_fit (begin7_any (h0.below hb1))
  rintro x w2 (⟨rfl, hb2⟩ | ⟨f, rf, lo, rfl, hx, hM2, hR2, hlo, hb2⟩)
  · go_wp2
    go_ret
    exact ⟨rfl, hb01.trans (hb2.mono (by omega))⟩
  have hb02 := hb01.trans (hb2.mono (by omega))
  have z2 := hb2.size
  have hfit0 := fit_of hx
  obtain ⟨a0, ha0⟩ : ∃ y, MA.of (sNum, (sShapeBlocks, sShapeSize), sPages, sRows, (sGroupEpoch, sGroupMembers)) = y := ⟨_, rfl⟩
  rw [ha0] at hM2 hR2 hfit0
  obtain ⟨L0, hL0⟩ : ∃ y, w1.heap.size = y := ⟨_, rfl⟩
  rw [hL0] at hM2 hlo
  have hwL : w.heap.size ≤ L0 := by omega
  have hwlo : w.heap.size ≤ lo := by omega
  have gOL : gO < L0 := by omega
  have hlow := hM2.low
  have hrlow := hR2.low
  have hwz : w.heap.size ≤ w2.heap.size := by omega
  have hnW : ∀ b, b < L0 → ¬ (f.W b ∨ rf.W b) := fun b h1 h2 => by
    rcases h2 with h2 | h2
    · have := hlow b h2; omega
    · have := hrlow b h2; omega
  have hBO2 := (hBO.below hb1).below hb2
  have hO2 := (hO0.below hb1).below hb2
  clear hL0 y0 y1 y2 y3 y4 y5 y6
  go_wp2
  go_loopw [12] (fun iv wr => ∃ (i : Nat) (a : MA) (N : Nat), i ≤ n1 ∧ i ≤ 100 ∧ N ≤ 64 + i ∧ iv = .int .i64 i ∧ MX wr L0 rf.W f a N ∧ RMX wr lo f.W rf a ∧ a.Fit ∧ Fr (fun b => f.W b ∨ rf.W b) w2 wr ∧ Below w.heap.size w wr) (fun iv _ => n1 - (intOf iv).toNat)
  case atStart => exact ⟨0, a0, 64, by omega, by omega, by omega, rfl, hM2, hR2, hfit0, Fr.refl _ _, hb02⟩
  case round =>
    obtain ⟨i, a, N, hi1, hi2, hN, rfl, hM, hR, hfit, FW, hBw⟩ := hrel
    have zW := FW.size
    by_cases hlt : i < n1 ∧ i < 100
    · obtain ⟨hlt1, hlt2⟩ := hlt
      obtain ⟨e, p, cs, he, hAp, hI, hc⟩ := hA1.at_all hlt1
      subst hAp
      have HI := hide hI
      have hI' := (hI wr hBw).1
      obtain ⟨eKind, eNum, eView, eClient, eSerial, eOpKind, eOpAt, eOpN, eOpData, eOpDataA, eOpDatan, eOpDatac, eOpOld, eOpOldA, eOpOldn, eOpOldc, eGroupEpoch, eGroupMembers, eGroupMembersA, eGroupMembersn, eGroupMembersc, eGroupMembersv, rfl, rfl, hu_eKind, h1_eNum, h2_eNum, h1_eView, h2_eView, h1_eClient, h2_eClient, h1_eSerial, h2_eSerial, hu_eOpKind, h1_eOpAt, h2_eOpAt, h1_eOpN, h2_eOpN, hl_eOpData, hc_eOpData, hm_eOpData, hr_eOpData, hq_eOpData, hl_eOpOld, hc_eOpOld, hm_eOpOld, hr_eOpOld, hq_eOpOld, h1_eGroupEpoch, h2_eGroupEpoch, hl_eGroupMembers, hc_eGroupMembers, hm_eGroupMembers, hr_eGroupMembers, hq_eGroupMembers, he_eGroupMembers⟩ := Entry_out hI'
      have hat := (HI.out wr hBw).2
      have y0 := el_0 (n := 12) hat (hc 0 _ rfl); have y1 := el_S (n := 12) (i := 0) hat (hc 1 _ rfl); have y2 := el_S (n := 12) (i := 1) hat (hc 2 _ rfl); have y3 := el_S (n := 12) (i := 2) hat (hc 3 _ rfl); have y4 := el_S (n := 12) (i := 3) hat (hc 4 _ rfl); have y5 := el_S (n := 12) (i := 4) hat (hc 5 _ rfl); have y6 := el_S (n := 12) (i := 5) hat (hc 6 _ rfl); have y7 := el_S (n := 12) (i := 6) hat (hc 7 _ rfl); have y8 := el_S (n := 12) (i := 7) hat (hc 8 _ rfl); have y9 := el_S (n := 12) (i := 8) hat (hc 9 _ rfl); have y10 := el_S (n := 12) (i := 9) hat (hc 10 _ rfl); have y11 := el_S (n := 12) (i := 10) hat (hc 11 _ rfl)
      have HAP := hide (mapply_at hR hM hfit (HI.out wr hBw).1 hwL (by omega) hBw (by omega))
      clear hat hI hM hR
      go_wp2_with fail
      go_fit HAP.out
      rintro x w5 ⟨A5, c5, rfl, k1, k2, k3, k4, hM5, hfit5, hR5, F5, hB5⟩
      have z5 := F5.size
      have HM5 := hide hM5
      have HF5 := hide hfit5
      clear k1 k2 k3 k4 y0 y1 y2 y3 y4 y5 y6 y7 y8 y9 y10 y11
      have hat := (HI.out w5 hB5).2
      have y0 := el_0 (n := 12) hat (hc 0 _ rfl); have y1 := el_S (n := 12) (i := 0) hat (hc 1 _ rfl); have y2 := el_S (n := 12) (i := 1) hat (hc 2 _ rfl); have y3 := el_S (n := 12) (i := 2) hat (hc 3 _ rfl); have y4 := el_S (n := 12) (i := 3) hat (hc 4 _ rfl); have y5 := el_S (n := 12) (i := 4) hat (hc 5 _ rfl); have y6 := el_S (n := 12) (i := 5) hat (hc 6 _ rfl); have y7 := el_S (n := 12) (i := 6) hat (hc 7 _ rfl); have y8 := el_S (n := 12) (i := 7) hat (hc 8 _ rfl); have y9 := el_S (n := 12) (i := 8) hat (hc 9 _ rfl); have y10 := el_S (n := 12) (i := 9) hat (hc 10 _ rfl); have y11 := el_S (n := 12) (i := 10) hat (hc 11 _ rfl)
      have HRP := hide (rapply_at hR5 hM5 hfit.ok (HI.out w5 hB5).1 hwL hwlo hB5 (by omega))
      clear hM5 hfit5 hR5 hat
      go_wp2_with fail
      go_fit HRP.out
      rintro x w6 ⟨A6, c6, rfl, k1, k2, k3, hR6, hM6, F6, hB6⟩
      have z6 := F6.size
      have HM6 := hide hM6
      have HR6 := hide hR6
      have FW6 := hide ((FW.trans (F5.mono fun b hb => .inl hb)).trans (F6.mono fun b hb => .inr hb))
      clear k1 k2 k3 hR6 hM6 y0 y1 y2 y3 y4 y5 y6 y7 y8 y9 y10 y11
      go_wp2
      go_roundw
      case rel => exact ⟨i + 1, _, N + 1, by omega, by omega, by omega, by go_num, HM6.out, HR6.out, HF5.out, FW6.out, hB6⟩
      case measure => simp [intOf]; omega
    · rcases (show i = n1 ∨ (i < n1 ∧ i = 100) by omega) with rfl | ⟨hl2, rfl⟩
      all_goals
        clear hfit0
        obtain ⟨NN, B, D, G, gn, gc, hMI⟩ := hM
        obtain ⟨RN, cb, cv, rn, rc, rows, sv, rcs, RA, RG, rgn, rgc, hJ⟩ := hR
        go_wp2_with fail
        go_fit (state7_any hMI hfit.ok since)
        rintro x w4 ⟨cs4, rfl, hS4, hb4⟩
        have hb04 := hBw.trans (hb4.mono hBw.size)
        go_wp2_with fail
        go_fit (rstate7_any (hJ.below hb4) hfit.ok since)
        rintro x w5 ⟨cs5, rfl, hS5, hb5⟩
        have hb05 := hb04.trans (hb5.mono hb04.size)
        go_wp2_with fail
        go_fit (sameSt_any (hS4.below hb5) hS5 rfl)
        rintro x w6 ⟨rfl, hb6⟩
        have hb06 := hb05.trans (hb6.mono hb05.size)
        have FW6 : Fr (fun b => f.W b ∨ rf.W b) w2 w6 := ((FW.trans (Fr.of_below hb4)).trans (Fr.of_below hb5)).trans (Fr.of_below hb6)
        have hBO6 := hBO2.fr FW6 (hnW _ gOL)
        have hO6 := hO2.fr FW6 (fun b hb => hnW b (by omega))
        have hM6 : MX w6 L0 rf.W f a N := ⟨_, _, _, _, _, _, ((hMI.below hb4).below hb5).below hb6⟩
        have hR6 : RMX w6 lo f.W rf a := ⟨_, _, _, _, _, _, _, _, _, _, _, _, ((hJ.below hb4).below hb5).below hb6⟩
        have z6 := hb06.size
        clear hMI hJ hS4 hS5 hM2 hR2 FW FW6
        have y0 := Blk.cell hBO6 (j := 0) rfl; have y1 := Blk.cell hBO6 (j := 1) rfl; have y2 := Blk.cell hBO6 (j := 2) rfl; have y3 := Blk.cell hBO6 (j := 3) rfl; have y4 := Blk.cell hBO6 (j := 4) rfl; have y5 := Blk.cell hBO6 (j := 5) rfl; have y6 := Blk.cell hBO6 (j := 6) rfl
        go_wp2_with fail
        go_fit (small7_any hO6)
        rintro x w7 ⟨q, rfl, hb7⟩
        have hb07 := hb06.trans (hb7.mono hb06.size)
        cases q with
        | false =>
          go_wp2
          go_ret
          exact ⟨rfl, hb07⟩
        | true =>
          have hBO7 := hBO6.below hb7
          have hO7 := hO6.below hb7
          have hM7 := hM6.below hb7
          have hR7 := hR6.below hb7
          clear y0 y1 y2 y3 y4 y5 y6 hM6 hR6
          by_cases hp : a.patchB (oNum, (oShapeBlocks, oShapeSize), oPages, oRows, (oGroupEpoch, oGroupMembers)) = true
          · have hok2 := hide (ok_patch hfit hp)
            have KC := hide (show ∀ X, Fr (fun b => f.W b ∨ rf.W b) w7 X → (X.cell? ⟨gO, 0, none⟩ = some (.int .i64 oNum) ∧ X.cell? ⟨gO, 1, none⟩ = some (.int .i64 oShapeBlocks) ∧ X.cell? ⟨gO, 2, none⟩ = some (.int .i64 oShapeSize) ∧ X.cell? ⟨gO, 3, none⟩ = some (.slice oPagesA oPagesn oPagesc) ∧ X.cell? ⟨gO, 4, none⟩ = some (.slice oRowsA oRowsn oRowsc) ∧ X.cell? ⟨gO, 5, none⟩ = some (.int .i64 oGroupEpoch) ∧ X.cell? ⟨gO, 6, none⟩ = some (.slice oGroupMembersA oGroupMembersn oGroupMembersc)) from fun X hX => ⟨(hBO7.fr hX (hnW _ gOL)).cell (j := 0) rfl, (hBO7.fr hX (hnW _ gOL)).cell (j := 1) rfl, (hBO7.fr hX (hnW _ gOL)).cell (j := 2) rfl, (hBO7.fr hX (hnW _ gOL)).cell (j := 3) rfl, (hBO7.fr hX (hnW _ gOL)).cell (j := 4) rfl, (hBO7.fr hX (hnW _ gOL)).cell (j := 5) rfl, (hBO7.fr hX (hnW _ gOL)).cell (j := 6) rfl⟩)
            have S0 := KC.out w7.drew (Fr.refl _ _).drew
            have z7 := hb07.size
            have HP1 := hide (mpatch_by (hM7.below (Below.refl _ _).drew) (hR7.below (Below.refl _ _).drew) (hO7.below (Below.refl _ _).drew) (fun b hb => hnW b (by omega)) hp)
            have HP2 := hide (show ∀ (f2 : MFp) (X : World), MX X L0 rf.W f2 (a.patch (oNum, (oShapeBlocks, oShapeSize), oPages, oRows, (oGroupEpoch, oGroupMembers))) 64 → RMX X lo f2.W rf a → Fr (fun b => f.W b ∨ rf.W b) w7 X → Calls Tryz.prog 23 #[.pointer (some ⟨rf.rb, 0, none⟩), .agg #[.int .i64 oNum, .int .i64 oShapeBlocks, .int .i64 oShapeSize, .slice oPagesA oPagesn oPagesc, .slice oRowsA oRowsn oRowsc, .int .i64 oGroupEpoch, .slice oGroupMembersA oGroupMembersn oGroupMembersc]] X fun e w' => e = .returned (.int .i64 0) ∧ ∃ rf2 : RFp, rf2.rb = rf.rb ∧ MX w' L0 rf2.W f2 (a.patch (oNum, (oShapeBlocks, oShapeSize), oPages, oRows, (oGroupEpoch, oGroupMembers))) 64 ∧ RMX w' lo f2.W rf2 (a.patch (oNum, (oShapeBlocks, oShapeSize), oPages, oRows, (oGroupEpoch, oGroupMembers))) ∧ Fr (fun b => f.W b ∨ rf.W b) w7 w' from fun f2 X h1 h2 h3 => (rpatch_by h1 h2 (hO7.fr h3 (fun b hb => hnW b (by omega))) (fun b hb hW => by rcases hW with hW | hW; (have := h1.low b hW; omega); exact hnW b (by omega) (.inr hW)) hp).mono fun e w' ⟨k1, rf2, k2, k3, k4, k5⟩ => ⟨k1, rf2, k2, k3, k4, h3.trans (k5.mono fun b hb => .inr hb)⟩)
            clear hBO7 hO7 hM7 hR7 hBO6 hO6 hBO2 hO2 hBO hO0 hO h h0
            go_wp2_with fail
            go_region_held_law (fun X => X.cell? ⟨gO, 0, none⟩ = some (.int .i64 oNum) ∧ X.cell? ⟨gO, 1, none⟩ = some (.int .i64 oShapeBlocks) ∧ X.cell? ⟨gO, 2, none⟩ = some (.int .i64 oShapeSize) ∧ X.cell? ⟨gO, 3, none⟩ = some (.slice oPagesA oPagesn oPagesc) ∧ X.cell? ⟨gO, 4, none⟩ = some (.slice oRowsA oRowsn oRowsc) ∧ X.cell? ⟨gO, 5, none⟩ = some (.int .i64 oGroupEpoch) ∧ X.cell? ⟨gO, 6, none⟩ = some (.slice oGroupMembersA oGroupMembersn oGroupMembersc)) (first | with_reducible assumption) (first
              | (go_at_call 22; refine HP1.out.mono ?_; rintro xx w8 ⟨rfl, f2, e1, hM8, hR8, F8⟩; have S8 := KC.out w8 ((Fr.refl _ w7).drew.trans F8); have FM8 := hide ((Fr.refl _ w7).drew.trans F8); have HM8 := hide hM8; have HR8 := hide hR8; have E8 := hide e1; clear hM8 hR8 F8 e1)
              | (go_at_call 23; refine (HP2.out f2 w8 HM8.out HR8.out FM8.out).mono ?_; rintro xx w9 ⟨rfl, rf2, e1, hM9, hR9, F9⟩; have S9 := KC.out w9 F9; have FM9 := hide F9; have HM9 := hide hM9; have HR9 := hide hR9; have E9 := hide e1; clear hM9 hR9 F9 e1)
              | (go_at_call 17; refine (mstate_by HM9.out hok2.out E8.out 0).mono ?_; rintro xx w10 ⟨cs10, rfl, hS10, hb10⟩; have S10 := KC.out w10 (FM9.out.trans (Fr.of_below hb10)); have FM10 := hide (FM9.out.trans (Fr.of_below hb10)); have HS10 := hide hS10; have HB10 := hide hb10; clear hS10 hb10)
              | (go_at_call 18; refine (rstate_by (HR9.out.below HB10.out) hok2.out E9.out 0).mono ?_; rintro xx w11 ⟨cs11, rfl, hS11, hb11⟩; have S11 := KC.out w11 (FM10.out.trans (Fr.of_below hb11)); have FM11 := hide (FM10.out.trans (Fr.of_below hb11)); have HS11 := hide hS11; have HB11 := hide hb11; clear hS11 hb11)
              | (go_at_call 16; refine (sameSt_any (HS10.out.below HB11.out) HS11.out rfl).mono ?_; rintro xx w12 ⟨rfl, hb12⟩; have S12 := KC.out w12 (FM11.out.trans (Fr.of_below hb12)); have FM12 := hide (FM11.out.trans (Fr.of_below hb12)); clear hb12))
            all_goals
              go_wp2
              go_ret
              exact ⟨rfl, FM12.out.below hb07 hb07.size (fun k hk => by rcases hk with hk | hk; (have := hlow k hk; omega); (have := hrlow k hk; omega))⟩
          · have hok2 := hide hfit.ok
            have KC := hide (show ∀ X, Fr (fun b => f.W b ∨ rf.W b) w7 X → (X.cell? ⟨gO, 0, none⟩ = some (.int .i64 oNum) ∧ X.cell? ⟨gO, 1, none⟩ = some (.int .i64 oShapeBlocks) ∧ X.cell? ⟨gO, 2, none⟩ = some (.int .i64 oShapeSize) ∧ X.cell? ⟨gO, 3, none⟩ = some (.slice oPagesA oPagesn oPagesc) ∧ X.cell? ⟨gO, 4, none⟩ = some (.slice oRowsA oRowsn oRowsc) ∧ X.cell? ⟨gO, 5, none⟩ = some (.int .i64 oGroupEpoch) ∧ X.cell? ⟨gO, 6, none⟩ = some (.slice oGroupMembersA oGroupMembersn oGroupMembersc)) from fun X hX => ⟨(hBO7.fr hX (hnW _ gOL)).cell (j := 0) rfl, (hBO7.fr hX (hnW _ gOL)).cell (j := 1) rfl, (hBO7.fr hX (hnW _ gOL)).cell (j := 2) rfl, (hBO7.fr hX (hnW _ gOL)).cell (j := 3) rfl, (hBO7.fr hX (hnW _ gOL)).cell (j := 4) rfl, (hBO7.fr hX (hnW _ gOL)).cell (j := 5) rfl, (hBO7.fr hX (hnW _ gOL)).cell (j := 6) rfl⟩)
            have S0 := KC.out w7.drew (Fr.refl _ _).drew
            have z7 := hb07.size
            have HM7 := hide hM7
            have HR7 := hide hR7
            have HP1 := hide (patch7_no (hM7.below (Below.refl _ _).drew) (hO7.below (Below.refl _ _).drew) (fun b hb hW => hnW b (by omega) (.inl hW)) (fun b hb => hR7.lts b hb) hp)
            have HP2 := hide (show ∀ (X : World), Below w7.heap.size w7 X → Calls Tryz.prog 23 #[.pointer (some ⟨rf.rb, 0, none⟩), .agg #[.int .i64 oNum, .int .i64 oShapeBlocks, .int .i64 oShapeSize, .slice oPagesA oPagesn oPagesc, .slice oRowsA oRowsn oRowsc, .int .i64 oGroupEpoch, .slice oGroupMembersA oGroupMembersn oGroupMembersc]] X fun e w' => e = .returned (.int .i64 72) ∧ Below w7.heap.size w7 w' from fun X h1 => (rpatch7_no (hR7.below h1) (hO7.below h1) (fun b hb => ⟨fun hW => hnW b (by omega) (.inl hW), fun hW => hnW b (by omega) (.inr hW)⟩) (fun b hb => by have := hM7.lts b hb; have := h1.size; omega) hp).mono fun e w' ⟨k1, k2⟩ => ⟨k1, h1.trans (k2.mono h1.size)⟩)
            clear hBO7 hO7 hM7 hR7 hBO6 hO6 hBO2 hO2 hBO hO0 hO h h0
            go_wp2_with fail
            go_region_held_law (fun X => X.cell? ⟨gO, 0, none⟩ = some (.int .i64 oNum) ∧ X.cell? ⟨gO, 1, none⟩ = some (.int .i64 oShapeBlocks) ∧ X.cell? ⟨gO, 2, none⟩ = some (.int .i64 oShapeSize) ∧ X.cell? ⟨gO, 3, none⟩ = some (.slice oPagesA oPagesn oPagesc) ∧ X.cell? ⟨gO, 4, none⟩ = some (.slice oRowsA oRowsn oRowsc) ∧ X.cell? ⟨gO, 5, none⟩ = some (.int .i64 oGroupEpoch) ∧ X.cell? ⟨gO, 6, none⟩ = some (.slice oGroupMembersA oGroupMembersn oGroupMembersc)) (first | with_reducible assumption) (first
              | (go_at_call 22; refine HP1.out.mono ?_; rintro xx w8 ⟨rfl, hb8⟩; have FM8 := hide ((Below.refl _ w7).drew.trans hb8); have S8 := KC.out w8 (Fr.of_below FM8.out); clear hb8)
              | (go_at_call 23; refine (HP2.out w8 FM8.out).mono ?_; rintro xx w9 ⟨rfl, hb9⟩; have FM9 := hide hb9; have S9 := KC.out w9 (Fr.of_below hb9); clear hb9)
              | (go_at_call 17; refine (mstate_by (HM7.out.below FM9.out) hok2.out rfl 0).mono ?_; rintro xx w10 ⟨cs10, rfl, hS10, hb10⟩; have FM10 := hide (FM9.out.trans (hb10.mono FM9.out.size)); have S10 := KC.out w10 (Fr.of_below FM10.out); have HS10 := hide hS10; have HB10 := hide hb10; clear hS10 hb10)
              | (go_at_call 18; refine (rstate_by (HR7.out.below FM10.out) hok2.out rfl 0).mono ?_; rintro xx w11 ⟨cs11, rfl, hS11, hb11⟩; have FM11' := hide (FM10.out.trans (hb11.mono FM10.out.size)); have S11 := KC.out w11 (Fr.of_below FM11'.out); have FM11 := hide (Fr.of_below (X := fun b => f.W b ∨ rf.W b) FM11'.out); have HS11 := hide hS11; have HB11 := hide hb11; clear hS11 hb11)
              | (go_at_call 16; refine (sameSt_any (HS10.out.below HB11.out) HS11.out rfl).mono ?_; rintro xx w12 ⟨rfl, hb12⟩; have S12 := KC.out w12 (FM11.out.trans (Fr.of_below hb12)); have FM12 := hide (FM11.out.trans (Fr.of_below hb12)); clear hb12))
            all_goals
              go_wp2
              go_ret
              exact ⟨rfl, FM12.out.below hb07 hb07.size (fun k hk => by rcases hk with hk | hk; (have := hlow k hk; omega); (have := hrlow k hk; omega))⟩
end Go.Proofs.YtkknkdjdneldlaaGreat
namespace Go.Proofs.YtkknkdjdneldlaaGreat
set_option maxRecDepth 20000
open Go.ChangeShapes Go.WideShapes Go.ChangeAt Go.RowKit Go.Px Go.Joins Go.Deep
set_option linter.unusedVariables false

set_option maxRecDepth 100000 in
theorem machinePatches_lifted (os : Os) (started : os.Started) (H : Type) (enc : TypeId × Value → H) :
    ReturnsInHanded {} Tryz.checked os 4 .any (Rows.machinePatchesSpec.pre6 enc Tryz.prog Tryz.f4 Rows.machinePatchesRow.domain false) (Rows.machinePatchesSpec.post enc Tryz.prog Tryz.f4 false true false false) := by
  refine returnsInHanded_of_change (C := Tryz.checked) own started (by kernel_rfl) Tryz.func4
    (ChangeSpec.witness6 (enc := enc) (C := Tryz.checked) false ⟨#[], #[.agg #[.int .i64 0, .int .i64 0, .int .i64 0, .slice none 0 0, .slice none 0 0, .int .i64 0, .slice none 0 0], .slice none 0 0, .agg #[.int .i64 0, .int .i64 0, .int .i64 0, .slice none 0 0, .slice none 0 0, .int .i64 0, .slice none 0 0], .int .i64 0], []⟩ 8 (by kernel_rfl) (by kernel_rfl) (by kernel_rfl) (by kernel_rfl)) ?_
  intro W base args ds gs before hval0 hW _ hweigh
  have hval : ∀ (j : Nat) t v, Tryz.f4.params[j]? = some t → args[j]? = some v → Value.okWide Tryz.prog W .any base t v := hval0
  have hW' := hW
  obtain ⟨p, q, hA0, hV, rfl, hfz, hnd⟩ := hW
  have hA : DataW.TrodAll enc Tryz.prog W 0 (fun _ => true) true Tryz.f4.params.toList args.toList ds p := hA0
  rw [Tryz.params4] at hA hval
  obtain ⟨v0, l0, d0, e0, p0, q0, ha0, rfl, rfl, h0, r0⟩ := trodAll_cons hA
  obtain ⟨v1, l1, d1, e1, p1, q1, rfl, rfl, rfl, h1, r1⟩ := trodAll_cons r0
  obtain ⟨v2, l2, d2, e2, p2, q2, rfl, rfl, rfl, h2, r2⟩ := trodAll_cons r1
  obtain ⟨v3, l3, d3, e3, p3, q3, rfl, rfl, rfl, h3, r3⟩ := trodAll_cons r2
  obtain ⟨rfl, rfl, rfl⟩ := trodAll_nil r3
  obtain rfl : args = #[v0, v1, v2, v3] := by cases args; simp_all
  obtain ⟨rfl, rfl⟩ := trodVars_none hV
  obtain ⟨⟨ls⟩, rfl, _⟩ := okWide_struct Tryz.underlying30 (hval 0 30 v0 rfl rfl); obtain ⟨s, hx0⟩ := open_any (t := tyState) (T := 30) (by kernel_rfl) h0; have hy0 : tyState.Is _ _ s ls := hx0
  obtain ⟨bA, bn, bc, rfl⟩ := okWide_slice Tryz.underlying31 (hval 1 31 v1 rfl rfl); obtain ⟨b, hx1⟩ := open_any (t := (.row tyEntry)) (T := 31) (by kernel_rfl) h1; obtain ⟨bv, hl_b, hc_b, hm_b, hr_b, hq_b, he_b⟩ := row_out hx1
  obtain ⟨⟨lo⟩, rfl, _⟩ := okWide_struct Tryz.underlying30 (hval 2 30 v2 rfl rfl); obtain ⟨o, hx2⟩ := open_any (t := tyState) (T := 30) (by kernel_rfl) h2; have hy2 : tyState.Is _ _ o lo := hx2
  obtain ⟨since, rfl, rfl, rfl, w3⟩ := open_int Tryz.underlying3 (hval 3 3 v3 rfl rfl) h3
  have hi3 := wf_i64 w3
  refine (machinePatches_walk bA bn bc b bv since W hy0 hy2 (entsAt_of hl_b hr_b he_b) (by omega)).mono fun e W' ⟨he, hb⟩ => ?_
  subst he
  exact ⟨_, rfl, law_post laidOut rfl rfl Tryz.underlying4 (fun t ht => (show ∀ t ∈ Tryz.f4.params.toList, Tryz.prog.readableRec t = true ∧ t < Tryz.prog.types.size from by decide +kernel) t ht) hW' rfl hb⟩

theorem machinePatches_holds : Rows.MachinePatchesSaid :=
  OpenClaim.holds_of_wide 4 Tryz.f4 rfl rfl rfl rfl rfl rfl rfl ⟨rfl, rfl, rfl, rfl, rfl⟩ rfl rfl rfl rfl rfl (by kernel_rfl) Tryz.func4 (by kernel_rfl)
    (of_decide_eq_true (by kernel_rfl)) (by unfold Func.isWrapper; first | (rw [if_pos (by decide +kernel)]; kernel_rfl) | (rw [if_neg (by decide +kernel)]; exact ⟨rfl, rfl⟩))
    (fun os started H enc _ => machinePatches_lifted os started H enc)
end Go.Proofs.YtkknkdjdneldlaaGreat
