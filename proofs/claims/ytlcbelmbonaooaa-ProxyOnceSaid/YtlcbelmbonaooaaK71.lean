/- Texts joined (shake.py). -/
import Derived.WalkKit
import Derived.ProofKit
import Derived.OpenShut
import Derived.JoinedCond
import Derived.Deep.Slices
import Derived.Deep.Draws
import Derived.Maps.AppendAt
import Derived.Laws.CopyOwn
import Derived.Deep.RegionWith
import Derived.Deep.QuietTactic
import Derived.BigQuiet
import Derived.WalkSpells
import Derived.WalkLawsBesides
import Derived.Lib.SlBytesConst
import Derived.Lib.SmallJoins
import Derived.Deep.RegionHeld3
import Derived.Deep.MidRow
import Derived.Deep.WholeRow
namespace Go.Px
open Go.RowKit

@[go_sem] theorem signed_u8 : IntKind.u8.signed = false := rfl
@[go_sem] theorem signed_u16 : IntKind.u16.signed = false := rfl
@[go_sem] theorem signed_u32 : IntKind.u32.signed = false := rfl
@[go_sem] theorem signed_u64 : IntKind.u64.signed = false := rfl
@[go_sem] theorem signed_i64 : IntKind.i64.signed = true := rfl
@[go_sem] theorem max_u32 : IntKind.u32.max = 4294967295 := rfl
@[go_sem] theorem max_u8 : IntKind.u8.max = 255 := rfl

/-! ### hide -/
theorem hide {p : Prop} (h : p) : Hid p := h

/-! ### addresses -/
theorem add_block (a : Addr) (n : Nat) : (a.add n).block = a.block := by unfold Addr.add; split <;> rfl
theorem add_add (a : Addr) (i j : Nat) : (a.add i).add j = a.add (i + j) := by
  unfold Addr.add
  by_cases hi : i = 0 <;> by_cases hj : j = 0 <;> simp [hi, hj, Nat.add_assoc]

/-! ### what a slice reads as: nil let in -/
/-- The cells from an address on hold these values (of no values nothing is asked). -/
def Rd (w : World) (A : Option Addr) (xs : List Value) : Prop := ∀ (j : Nat) (u : Value), xs[j]? = some u → ∃ a, A = some a ∧ w.cell? (a.add j) = some u

section
variable {w w' : World} {A : Option Addr} {xs : List Value}
theorem Rd.nil : Rd w A [] := fun j u h => by simp at h
theorem Rd.get (h : Rd w A xs) {k : Nat} (hk : k < xs.length) : ∃ a, A = some a ∧ w.cell? (a.add k) = some (xs[k]) := h k _ (List.getElem?_eq_getElem hk)
theorem Rd.keep (h : Rd w A xs) (hk : ∀ (p : Addr) u, w.cell? p = some u → w'.cell? p = some u) : Rd w' A xs := fun j u hu =>
  let ⟨a, ha, hc⟩ := h j u hu; ⟨a, ha, hk _ _ hc⟩
theorem Rd.below (h : Rd w A xs) (hb : Below w.heap.size w w') : Rd w' A xs :=
  h.keep fun p _ hu => (hb.cell (p := p) (World.block_lt_of_cell? w p hu)).trans hu
theorem Rd.alloc (h : Rd w A xs) (o : Obj) : Rd (w.alloc o) A xs := h.below ((Below.refl _ _).alloc (Nat.le_refl _) o)
theorem Rd.drew (h : Rd w A xs) : Rd w.drew A xs := h
theorem Rd.drewN (h : Rd w A xs) (k : Nat) : Rd (w.drewN k) A xs := h
/-- A reading of a block below B is kept where below B nothing has turned. -/
def Lo (B : Nat) (A : Option Addr) : Prop := ∀ a, A = some a → a.block < B
theorem Rd.lo (h : Rd w A xs) {B : Nat} (hl : Lo B A) (hb : Below B w w') : Rd w' A xs := fun j u hu => by
  obtain ⟨a, rfl, hc⟩ := h j u hu
  exact ⟨a, rfl, (hb.cell (p := a.add j) (by rw [add_block]; exact hl a rfl)).trans hc⟩
theorem Rd.grown (h : Rd w A xs) {row : Option Nat} (hg : w.grownBy w' row) (hne : ∀ a, A = some a → some a.block ≠ row) : Rd w' A xs := fun j u hu => by
  obtain ⟨a, rfl, hc⟩ := h j u hu
  exact ⟨a, rfl, hg.cell hc (by rw [add_block]; exact hne a rfl)⟩
theorem Rd.cut (h : Rd w A xs) {k : Nat} : Rd w (A.map (·.add k)) (xs.drop k) := fun j u hu => by
  rw [List.getElem?_drop] at hu
  obtain ⟨a, rfl, hc⟩ := h _ u hu
  exact ⟨a.add k, rfl, by rw [add_add]; exact hc⟩
theorem Rd.take (h : Rd w A xs) (k : Nat) : Rd w A (xs.take k) := fun j u hu => by
  rw [List.getElem?_take] at hu
  split at hu
  · exact h j u hu
  · cases hu
/-- 's[k:]' keeps the address where k is the capacity: nothing is read there. -/
theorem Rd.cut' (h : Rd w A xs) {n k cap : Nat} (hx : xs.length ≤ n) (hk : k ≤ n) (hc : n ≤ cap) : Rd w (if cap = k then A else A.map (·.add k)) (xs.drop k) := by
  split
  · rename_i he
    have : xs.drop k = [] := List.drop_eq_nil_of_le (by omega)
    rw [this]; exact Rd.nil
  · exact h.cut
theorem Rd.some_of (h : Rd w A xs) (hx : 0 < xs.length) : ∃ a, A = some a ∧ ∀ j u, xs[j]? = some u → w.cell? (a.add j) = some u := by
  obtain ⟨a, rfl, _⟩ := h.get hx
  exact ⟨a, rfl, fun j u hu => by obtain ⟨b, hb, hc⟩ := h j u hu; injection hb with hb; subst hb; exact hc⟩
theorem Rd.of_some {a : Addr} (h : ∀ j u, xs[j]? = some u → w.cell? (a.add j) = some u) : Rd w (some a) xs := fun j u hu => ⟨a, rfl, h j u hu⟩
theorem Rd.at_ {a : Addr} (h : Rd w (some a) xs) {j : Nat} {u : Value} (hu : xs[j]? = some u) : w.cell? (a.add j) = some u := by
  obtain ⟨b, hb, hc⟩ := h j u hu; injection hb with hb; subst hb; exact hc
end

/-- .. at a literal place above 0: the walk writes the address out. -/
theorem Rd.atS {w : World} {xs : List Value} {a : Addr} (h : Rd w (some a) xs) {k : Nat} {u : Value} (hu : xs[k + 1]? = some u) : w.cell? ⟨a.block, a.off + (k + 1), none⟩ = some u := by
  have := h.at_ hu
  unfold Addr.add at this
  rwa [if_neg (by omega)] at this
theorem Rd.new1 (w : World) (u : Value) (t : TypeId) : Rd (w.alloc (.cells #[u] t)) (some ⟨w.heap.size, 0, none⟩) [u] := fun j x hx => by
  have hj : j = 0 := by
    have := (List.getElem?_eq_some_iff.1 hx).1
    simp at this; exact this
  subst hj
  refine ⟨_, rfl, ?_⟩
  have e : (⟨w.heap.size, 0, none⟩ : Addr).add 0 = ⟨w.heap.size, 0, none⟩ := rfl
  rw [e, cell_of_row _ _ 0 #[u] t (0, 0) (heap_alloc_new w _)]
  simpa using hx
theorem Rd.newN (w : World) (us : List Value) (t : TypeId) (fr : Nat × Nat) : Rd (w.alloc (.cells us.toArray t fr)) (some ⟨w.heap.size, 0, none⟩) us := fun j x hx => by
  refine ⟨_, rfl, ?_⟩
  have e : (⟨w.heap.size, 0, none⟩ : Addr).add j = ⟨w.heap.size, j, none⟩ := by unfold Addr.add; split <;> simp_all
  rw [e, cell_of_row _ _ j us.toArray t fr (heap_alloc_new w _)]
  simpa using hx

theorem Rd.newG {w : World} {us : List Value} {t : TypeId} {fr : Nat × Nat} {g : Nat} (hg : g = w.heap.size) : Rd (w.alloc (.cells us.toArray t fr)) (some ⟨g, 0, none⟩) us := by subst hg; exact Rd.newN _ _ _ _
/-- Where a piece of a slice begins: behind an array's end no address points. -/
def cutA (A : Option Addr) (cap k size : Nat) : Option Addr := if cap = k then A else A.map (·.add (k * size))
@[go_sem ↓] theorem sliced_cut (A : Option Addr) (l h m s : Nat) : sliced A l h m s = .slice (cutA A m l s) (h - l) (m - l) := rfl
@[go_sem] theorem cutA_zero (A : Option Addr) (c s : Nat) : cutA A c 0 s = A := by
  unfold cutA
  have e : A.map (fun x => x.add (0 * s)) = A := by
    cases A <;> simp [Addr.add]
  rw [e]; simp
theorem Rd.cutA {w : World} {A : Option Addr} {xs : List Value} (h : Rd w A xs) {n k cap : Nat} (hx : xs.length ≤ n) (hk : k ≤ n) (hc : n ≤ cap) : Rd w (cutA A cap k 1) (xs.drop k) := by
  unfold Px.cutA; rw [Nat.mul_one]; exact h.cut' hx hk hc
theorem Rd.cutN {w : World} {A : Option Addr} {xs : List Value} (h : Rd w A xs) {n k cap size : Nat} (hx : xs.length ≤ n * size) (hk : k ≤ n) (hc : n ≤ cap) : Rd w (Px.cutA A cap k size) (xs.drop (k * size)) := by
  unfold Px.cutA
  split
  · rename_i he
    have : xs.drop (k * size) = [] := List.drop_eq_nil_of_le (by have : n = k := by omega
                                                                 subst this; exact hx)
    rw [this]; exact Rd.nil
  · exact h.cut

/-! ### rows that a call owns -/
section
variable {w w' : World} {base : Nat} {e : TypeId} {size n : Nat} {v : Value} {xs : List Value}
/-- An owned row, taken apart: it is a slice, it reads as its cells, its block is new. -/
theorem own_out (h : w.ownsRow base e size v n xs) : ∃ A c, v = .slice A n c ∧ xs.length = n * size ∧ n ≤ c ∧ c ≤ maxLen ∧ Rd w A xs ∧ (∀ a, A = some a → base ≤ a.block ∧ a.block < w.heap.size) := by
  rcases h.2 with ⟨rfl, rfl⟩ | ⟨g, cap, cur, rfl, hbg, hg, hnc, hcm, _, _⟩
  · have hx : xs = [] := List.eq_nil_of_length_eq_zero (by simpa using h.1)
    subst hx
    exact ⟨none, 0, rfl, by simp, Nat.le_refl _, Nat.zero_le _, Rd.nil, fun a ha => by cases ha⟩
  · refine ⟨_, cap, rfl, h.1, hnc, hcm, Rd.of_some (h.cells (g := g) rfl), fun a ha => ?_⟩
    injection ha with ha
    subst ha
    exact ⟨hbg, (Array.getElem?_eq_some_iff.1 hg).1⟩
theorem own_weak {base' : Nat} (h : w.ownsRow base e size v n xs) (hb : base' ≤ base) : w.ownsRow base' e size v n xs := by
  refine ⟨h.1, ?_⟩
  rcases h.2 with h2 | ⟨g, cap, cur, hv, hbg, r⟩
  · exact .inl h2
  · exact .inr ⟨g, cap, cur, hv, by omega, r⟩
theorem own_below (h : w.ownsRow base e size v n xs) (hb : Below w.heap.size w w') : w'.ownsRow base e size v n xs := by
  refine ⟨h.1, ?_⟩
  rcases h.2 with h2 | ⟨g, cap, cur, hv, hbg, hg, r⟩
  · exact .inl h2
  · exact .inr ⟨g, cap, cur, hv, hbg, (hb.block g (Array.getElem?_eq_some_iff.1 hg).1).trans hg, r⟩
/-- A row that is made whole, in a block of its own. -/
theorem own_made (cur : Array Value) (n cap : Nat) (hb : base ≤ w.heap.size) (hnc : n ≤ cap) (hm : cap ≤ maxLen) (hs : cur.size = cap * size) :
    (w.alloc (.cells cur e)).ownsRow base e size (.slice (some ⟨w.heap.size, 0, none⟩) n cap) n (cur.toList.take (n * size)) :=
  ⟨by rw [List.length_take, Array.length_toList, hs]; exact Nat.min_eq_left (Nat.mul_le_mul_right _ hnc), .inr ⟨w.heap.size, cap, cur, rfl, hb, heap_alloc_new w _, hnc, hm, hs, rfl⟩⟩
end

theorem own_form {w : World} {base e size n c : Nat} {A : Option Addr} {xs : List Value} (h : w.ownsRow base e size (.slice A n c) n xs) (hn : 0 < n) : ∃ g, A = some ⟨g, 0, none⟩ ∧ base ≤ g ∧ g < w.heap.size := by
  rcases h.2 with ⟨_, h0⟩ | ⟨g, cap, cur, hv, hbg, hg, _⟩
  · omega
  · injection hv with h1 h2 h3
    exact ⟨g, h1, hbg, (Array.getElem?_eq_some_iff.1 hg).1⟩
theorem grown_below {B : Nat} {a w w' : World} {row : Option Nat} (h : Below B a w) (hg : w.grownBy w' row) (hB : B ≤ w.heap.size) (hr : ∀ k, row = some k → B ≤ k) : Below B a w' := h.grown hg hB hr
theorem grown_refl (w : World) (row : Option Nat) : w.grownBy w row := ⟨rfl, rfl, rfl, Nat.le_refl _, fun _ _ _ => rfl⟩
theorem grown_of_below {w w' : World} (h : Below w.heap.size w w') (row : Option Nat) : w.grownBy w' row := ⟨h.os, h.tape, h.output, h.size, fun k hk _ => h.block k hk⟩
/-- Two steps, the second into the first one's row, or into one that was not there. -/
theorem grown_chain {a b c : World} {r r' : Option Nat} (h : a.grownBy b r) (k : b.grownBy c r') (hr : r' = r ∨ ∀ g, r' = some g → a.heap.size ≤ g) : a.grownBy c r :=
  ⟨k.os.trans h.os, k.tape.trans h.tape, k.output.trans h.output, Nat.le_trans h.size k.size, fun i hi hne => by
    refine (k.block i (Nat.lt_of_lt_of_le hi h.size) ?_).trans (h.block i hi hne)
    rcases hr with rfl | hr
    · exact hne
    · intro e; have := hr i e.symm; omega⟩

/-! ### bytes and integers -/
def bys (l : List UInt8) : List Value := l.map fun b => .int .u8 (b.toNat : Int)
theorem bys_length (l : List UInt8) : (bys l).length = l.length := by simp [bys]
theorem bys_get {l : List UInt8} {k : Nat} (h : k < l.length) : (bys l)[k]? = some (.int .u8 ((l[k]).toNat : Int)) := by simp [bys, List.getElem?_eq_getElem h]
theorem bys_append (l m : List UInt8) : bys (l ++ m) = bys l ++ bys m := by simp [bys]
theorem bys_take (l : List UInt8) (k : Nat) : bys (l.take k) = (bys l).take k := by simp [bys]
theorem bys_drop (l : List UInt8) (k : Nat) : bys (l.drop k) = (bys l).drop k := by simp [bys]
theorem bys_one (l : List UInt8) : ∀ u ∈ bys l, u.oneCell' = true := by
  intro u hu; simp [bys] at hu; obtain ⟨b, _, rfl⟩ := hu; rfl
/-- Cells that are slices of bytes. -/
def BRows (w : World) (vs : List Value) (bss : List (List UInt8)) : Prop := vs.length = bss.length ∧ ∀ (j : Nat) (h : j < bss.length), ∃ A n c, vs[j]? = some (.slice A n c) ∧ (bss[j]).length = n ∧ n ≤ c ∧ n ≤ 1099511627776 ∧ c ≤ 9223372036854775807 ∧ Rd w A (bys bss[j])
theorem BRows.nil {w : World} : BRows w [] [] := ⟨rfl, fun j h => by simp at h⟩
theorem BRows.below {w w' : World} {vs : List Value} {bss : List (List UInt8)} (h : BRows w vs bss) (hb : Below w.heap.size w w') : BRows w' vs bss :=
  ⟨h.1, fun j hj => by obtain ⟨A, n, c, h1, h2, h3, h4, h5, h6⟩ := h.2 j hj; exact ⟨A, n, c, h1, h2, h3, h4, h5, h6.below hb⟩⟩
theorem BRows.snoc {w : World} {vs : List Value} {bss : List (List UInt8)} (h : BRows w vs bss) {A : Option Addr} {n c : Nat} {bs : List UInt8} (hn : bs.length = n) (hc : n ≤ c) (h8 : n ≤ 1099511627776) (h63 : c ≤ 9223372036854775807) (hr : Rd w A (bys bs)) :
    BRows w (vs ++ [.slice A n c]) (bss ++ [bs]) := by
  refine ⟨by simp [h.1], fun j hj => ?_⟩
  by_cases hlt : j < bss.length
  · obtain ⟨A', n', c', h1, h2⟩ := h.2 j hlt
    rw [List.getElem_append_left hlt]
    exact ⟨A', n', c', by rw [List.getElem?_append_left (by rw [h.1]; exact hlt)]; exact h1, h2⟩
  · have hj' : j = bss.length := by simp at hj; omega
    subst hj'
    simp only [List.getElem_concat_length]
    exact ⟨A, n, c, by rw [← h.1]; simp, hn, hc, h8, h63, hr⟩
theorem BRows.get {w : World} {vs : List Value} {bss : List (List UInt8)} (h : BRows w vs bss) {j : Nat} (hj : j < bss.length) : ∃ A n c, vs[j]? = some (.slice A n c) ∧ (bss[j]).length = n ∧ n ≤ c ∧ n ≤ 1099511627776 ∧ c ≤ 9223372036854775807 ∧ Rd w A (bys bss[j]) := h.2 j hj
def ints (l : List Int) : List Value := l.map fun i => .int .i64 i
theorem ints_length (l : List Int) : (ints l).length = l.length := by simp [ints]
theorem ints_get {l : List Int} {k : Nat} (h : k < l.length) : (ints l)[k]? = some (.int .i64 (l[k])) := by simp [ints, List.getElem?_eq_getElem h]
theorem ints_append (l m : List Int) : ints (l ++ m) = ints l ++ ints m := by simp [ints]
theorem ints_one (l : List Int) : ∀ u ∈ ints l, u.oneCell' = true := by
  intro u hu; simp [ints] at hu; obtain ⟨b, _, rfl⟩ := hu; rfl

def strOf (bs : List UInt8) : ByteArray := ⟨bs.toArray⟩
theorem strOf_inj {a b : List UInt8} : strOf a = strOf b ↔ a = b := by
  constructor
  · intro h
    have := congrArg (fun s : ByteArray => s.data.toList) h
    simpa [strOf] using this
  · rintro rfl; rfl
@[go_sem] theorem strOf_toList (bs : List UInt8) : (strOf bs).toList = bs := ByteArray.toList_mk bs
theorem rd_nil_none {w : World} {xs : List Value} (h : Rd w none xs) : xs = [] := by
  rcases xs with _ | ⟨u, r⟩
  · rfl
  · obtain ⟨a, ha, _⟩ := h 0 u rfl; cases ha
/-- 'string(b)'. -/
theorem conv_bytes {P : Program} {w : World} {src dst e : TypeId} (hs : P.underlying src = some (.slice e)) (he : P.underlying e = some (.int .u8)) (hd : P.underlying dst = some .string)
    {A : Option Addr} {n c : Nat} {bs : List UInt8} (hn : bs.length = n) (h : Rd w A (bys bs)) : (convert src dst (.slice A n c)).run P w = .ok (.string (strOf bs)) w := by
  rcases A with _ | a
  · have hb : bs = [] := by have := rd_nil_none h; simpa [bys] using this
    subst hb
    exact run_convert_bytes_nil w src e hs he n c dst hd
  · have hl : (loadCells a n).run P w = .ok ((bs.map fun b => (b.toNat : Int)).map (Value.int .u8)).toArray w := by
      have := run_loadCells_list (P := P) w a (bys bs) (fun j v hj => h.at_ hj)
      rw [bys_length, hn] at this
      rw [this]; simp [bys, Function.comp_def]
    rw [run_convert_bytes_string w src dst e _ n c hs he hd, run_bytesToString w _ n c _ hl, foldl_push_bytes]
    simp [strOf, ByteArray.empty, ByteArray.emptyWithCapacity, Function.comp_def]
    rfl

/-! ### facts of a slice's type -/
structure SlT (P : Program) (t e size bytes : Nat) : Prop where
  und : P.underlying t = some (.slice e)
  info : ∃ i z, P.info? e = some i ∧ i.zero = some z ∧ i.size = size ∧ i.bytes = bytes ∧ z.cells.size = size
  pos : 0 < size
theorem slT_mk {P : Program} {t e size bytes : Nat} {z : Value} (h : P.underlying t = some (.slice e)) (hi : (P.info? e).map (fun i => (i.zero, i.size, i.bytes)) = some (some z, size, bytes)) (hz : z.cells.size = size) (hp : 0 < size) : SlT P t e size bytes := by
  cases hq : P.info? e with
  | none => rw [hq] at hi; cases hi
  | some i =>
    rw [hq] at hi
    simp only [Option.map_some, Option.some.injEq, Prod.mk.injEq] at hi
    exact ⟨h, ⟨i, z, hq, hi.1, hi.2.1, hi.2.2, hz⟩, hp⟩

/-! ### append onto a row of the call's own -/
section
variable {P : Program} {w : World}
theorem run_append_rd {base t ty e size bytes : Nat} (T : SlT P t e size bytes) {v : Value} {n : Nat} {xs : List Value} (hown : w.ownsRow base e size v n xs)
    {A : Option Addr} {m c : Nat} {news : List Value} (hl : news.length = m * size) (hr : Rd w A news) (h1 : ∀ u ∈ news, u.oneCell' = true)
    (hb : (n + m) * bytes ≤ 140737488355328) (h63 : n + m ≤ 140737488355328) (hbase : base ≤ w.heap.size) :
    ∃ v' w', (Builtin.append_ #[t, t] ty #[v, .slice A m c]).run P w = .ok v' w' ∧ w'.ownsRow base e size v' (n + m) (xs ++ news) ∧ w.grownBy w' v.ownBlock ∧ (v'.ownBlock = v.ownBlock ∨ v'.ownBlock = some w.heap.size) := by
  obtain ⟨hu, ⟨i, z, hi, hz, hs, hby, hzs⟩, hp⟩ := T
  rcases A with _ | a
  · have hn : news = [] := by
      rcases news with _ | ⟨u, r⟩
      · rfl
      · obtain ⟨a, ha, _⟩ := hr 0 u rfl; cases ha
    subst hn
    have hm : m = 0 := by
      rcases Nat.eq_zero_or_pos m with h | h
      · exact h
      · have := Nat.mul_pos h hp; simp at hl; omega
    subst hm
    refine ⟨v, w, ?_, by simpa using hown, grown_refl w _, .inl rfl⟩
    rcases hown.2 with ⟨rfl, rfl⟩ | ⟨g, cap, cur, rfl, _, _, hnc, _⟩
    · simp [Builtin.append_, run_underlying hu, sizeOf, typeInfo, hi, Builtin.lenOf, Builtin.firstCells]
    · simp [Builtin.append_, run_underlying hu, sizeOf, typeInfo, hi, Builtin.lenOf, Builtin.firstCells, hnc, storeCells]
  · obtain ⟨v', w', hrun, h2, h3, _, h5⟩ := run_append_own_at (P := P) w base t ty e i z size bytes hu hi hz hs hby hzs hp v n xs hown a m c news hl (fun j u hu => hr.at_ hu) h1
      (by unfold maxLen; omega) hb hbase
    exact ⟨v', w', hrun, h2, h3, h5⟩
theorem wl_append {ops : Array Oper} {rest : List Oper} {o : Oper} {a : Act} {Q : Exit → Act → World → Prop} (hg : o.guard = none) {s x : Operand} {t : TypeId}
    (ho : o.op = .call { callee := .builtin .append, args := #[s, x], argTypes := #[t, t] })
    {base e size bytes : Nat} (T : SlT P t e size bytes) {v : Value} {n : Nat} {xs : List Value} (hs : a.eval s = v) (hown : w.ownsRow base e size v n xs)
    {A : Option Addr} {m c : Nat} {news : List Value} (hx : a.eval x = .slice A m c) (hl : news.length = m * size) (hr : Rd w A news) (h1 : ∀ u ∈ news, u.oneCell' = true)
    (hb : (n + m) * bytes ≤ 140737488355328) (h63 : n + m ≤ 140737488355328) (hbase : base ≤ w.heap.size)
    (h : ∀ v' w', w'.ownsRow base e size v' (n + m) (xs ++ news) → w.grownBy w' v.ownBlock → (v'.ownBlock = v.ownBlock ∨ v'.ownBlock = some w.heap.size) → wpList P ops Q rest (a.put o.dst v') w') :
    wpList P ops Q (o :: rest) a w := by
  refine wpList_plain hg fun K hK => ?_
  obtain ⟨v', w', hrun, h2, h3, h4⟩ := run_append_rd (P := P) (ty := o.type) (c := c) T hown hl hr h1 hb h63 hbase
  unfold Oper.wp execOp
  simp only [ho, resolve, invoke, builtin, Sem.run_bind, Sem.run_pure, Result.andThen_ok, List.map_toArray, List.map_cons, List.map_nil, hs, hx, hrun]
  exact hK _ _ (h v' w' h2 h3 h4)
end

/-! ### places at which a walk stands still, to be led on by hand -/
def Stop (p : Prop) : Prop := p
section
variable {P : Program} {w : World} {ops : Array Oper} {rest : List Oper} {o : Oper} {a : Act} {Q : Exit → Act → World → Prop}
theorem stop_append {args : Array Operand} {ts : Array TypeId} (_ : o.op = .call { callee := .builtin .append, args := args, argTypes := ts }) (h : Stop (wpList P ops Q (o :: rest) a w)) : wpList P ops Q (o :: rest) a w := h
theorem stop_copy {args : Array Operand} {ts : Array TypeId} (_ : o.op = .call { callee := .builtin .copy, args := args, argTypes := ts }) (h : Stop (wpList P ops Q (o :: rest) a w)) : wpList P ops Q (o :: rest) a w := h
theorem stop_make {t : TypeId} {l c : Operand} (_ : o.op = .makeSlice t l c) (h : Stop (wpList P ops Q (o :: rest) a w)) : wpList P ops Q (o :: rest) a w := h
theorem go_append (hg : o.guard = none) {s x : Operand} {t : TypeId}
    (ho : o.op = .call { callee := .builtin .append, args := #[s, x], argTypes := #[t, t] })
    {base e size bytes : Nat} (T : SlT P t e size bytes) {v : Value} {n : Nat} {xs : List Value} (hs : a.eval s = v) (hown : w.ownsRow base e size v n xs)
    {A : Option Addr} {m c : Nat} {news : List Value} (hx : a.eval x = .slice A m c) (hl : news.length = m * size) (hr : Rd w A news) (h1 : ∀ u ∈ news, u.oneCell' = true)
    (hb : (n + m) * bytes ≤ 140737488355328) (h63 : n + m ≤ 140737488355328) (hbase : base ≤ w.heap.size)
    (h : ∀ v' w', w'.ownsRow base e size v' (n + m) (xs ++ news) → w.grownBy w' v.ownBlock → (v'.ownBlock = v.ownBlock ∨ v'.ownBlock = some w.heap.size) → wpList P ops Q rest (a.put o.dst v') w') :
    Stop (wpList P ops Q (o :: rest) a w) := wl_append hg ho T hs hown hx hl hr h1 hb h63 hbase h
/-- A new row, all zeros, of length n and capacity c. -/
theorem go_make (hg : o.guard = none) {l c : Operand} {t : TypeId} (ho : o.op = .makeSlice t l c) {base e size bytes : Nat} (T : SlT P t e size bytes)
    {kl kc : IntKind} {L C : Int} {n m : Nat} (hl : a.eval l = .int kl L) (hc : a.eval c = .int kc C) (hL : L = (n : Int)) (hC : C = (m : Int)) (hnm : n ≤ m) (hb : m * bytes ≤ 140737488355328) (h63 : m ≤ 140737488355328) (hbase : base ≤ w.heap.size)
    (h : ∀ (z : Value) (w' : World), (∃ i, P.info? e = some i ∧ i.zero = some z) → z.cells.size = size → w' = w.alloc (.cells (madeCells z.cells (m * size)) e) → w'.ownsRow base e size (.slice (some ⟨w.heap.size, 0, none⟩) n m) n ((madeCells z.cells (m * size)).toList.take (n * size)) → w.grownBy w' none →
      wpList P ops Q rest (a.put o.dst (.slice (some ⟨w.heap.size, 0, none⟩) n m)) w') :
    Stop (wpList P ops Q (o :: rest) a w) := by
  refine wpList_plain hg fun K hK => ?_
  obtain ⟨hu, ⟨i, z, hi, hz, hs, hby, hzs⟩, hp⟩ := T
  subst hL
  subst hC
  have hbz : i.bytes * m ≤ 281474976710656 := by rw [hby, Nat.mul_comm]; omega
  have hr := run_make (P := P) w t e i z hu hi hz kl kc (n : Int) (m : Int) (by omega) (by omega) (by
    have h2 : ((i.bytes * m : Nat) : Int) ≤ 281474976710656 := by omega
    rwa [Int.natCast_mul] at h2) (by omega)
  simp only [Int.toNat_natCast, hs] at hr
  unfold Oper.wp
  simp [execOp, ho, hl, hc, hr, Result.andThen]
  refine hK _ _ (h z _ ⟨i, hi, hz⟩ hzs rfl ?_ (World.grownBy_alloc _ _ _))
  exact own_made _ n m hbase hnm (by unfold maxLen; omega) (by simp [madeCells])
/-- copy into a part of a row of the call's own, from whatever reads as ys (the row itself let out). -/
theorem go_copy (hg : o.guard = none) {d s : Operand} {dT sT : TypeId} (ho : o.op = .call { callee := .builtin .copy, args := #[d, s], argTypes := #[dT, sT] })
    {base e bytes : Nat} (T : SlT P dT e 1 bytes) {g n cap off dLen dCap m c : Nat} {xs ys : List Value} {A : Option Addr}
    (hown : w.ownsRow base e 1 (.slice (some ⟨g, 0, none⟩) n cap) n xs) (hd : a.eval d = .slice (some ⟨g, off, none⟩) dLen dCap) (hoff : off + dLen ≤ n)
    (hs : a.eval s = .slice A m c) (hys : ys.length = m) (hr : Rd w A ys) (h1 : ∀ u ∈ ys, u.oneCell' = true)
    (h : ∀ w', w'.ownsRow base e 1 (.slice (some ⟨g, 0, none⟩) n cap) n (xs.take off ++ (ys.take dLen ++ xs.drop (off + min m dLen))) → w.grownBy w' (some g) → wpList P ops Q rest (a.put o.dst (goInt ((min m dLen : Nat) : Int))) w') :
    Stop (wpList P ops Q (o :: rest) a w) := by
  obtain ⟨hu, ⟨i, z, hi, hz, hsz, hby, hzs⟩, hp⟩ := T
  have hsz' : (P.info? e).map (·.size) = some 1 := by rw [hi]; simp [hsz]
  rcases hown with ⟨hlen, h0 | ⟨g', cap', cur, hv, hbg, hgg, hnc, hcm, hcs, htake⟩⟩
  · exact absurd h0.1 (by simp)
  injection hv with hv1 hv2 hv3
  injection hv1 with hv1
  injection hv1 with hv1
  subst hv1
  subst hv3
  simp only [Nat.mul_one] at hcs htake hlen
  have hdrop : cur.toList = xs ++ cur.toList.drop n := by rw [← htake]; exact (List.take_append_drop n cur.toList).symm
  by_cases hz0 : min m dLen = 0
  · refine wpList_copy_nothing hg d s dT sT ho e hu hsz' _ _ dLen dCap m c hd hs hz0 ?_
    have he : xs.take off ++ (ys.take dLen ++ xs.drop (off + min m dLen)) = xs := by
      have hy : ys.take dLen = [] := by
        rcases Nat.eq_zero_or_pos dLen with hd0 | hd0
        · subst hd0; simp
        · have : ys = [] := List.eq_nil_of_length_eq_zero (by omega)
          subst this; simp
      rw [hy, hz0]; simp
    have := h w ⟨by rw [he]; simpa using hlen, .inr ⟨g, cap, cur, rfl, hbg, hgg, hnc, hcm, by simpa using hcs, by rw [he]; simpa using htake⟩⟩ (grown_refl _ _)
    rw [hz0] at this
    exact this
  · obtain ⟨ad, rfl, hat⟩ := hr.some_of (by omega)
    have hcl : (ys.take dLen).length = min m dLen := by rw [List.length_take, hys]; exact Nat.min_comm _ _
    refine wpList_copy_own hg d s dT sT ho e hu hsz' g off dLen dCap ad m c hd hs cur e hgg (ys.take dLen) hcl (fun j v hv => hat j v ?_) (by rw [hcl, hcs]; omega) (fun u hu' => h1 u (List.mem_of_mem_take hu')) ?_
    · rw [List.getElem?_take] at hv
      split at hv
      · exact hv
      · cases hv
    · rw [hcl]
      have hl1 : (cur.toList.take off ++ (ys.take dLen ++ cur.toList.drop (off + min m dLen))).length = cap := by
        simp only [List.length_append, List.length_take, List.length_drop, Array.length_toList, hcs, hys]; omega
      have hl2 : (xs.take off ++ (ys.take dLen ++ xs.drop (off + min m dLen))).length = n := by
        simp only [List.length_append, List.length_take, List.length_drop, hlen, hys]; omega
      refine h _ ⟨by simpa using hl2, .inr ⟨g, cap, _, rfl, hbg, setRow_heap w g _ _ e _ hgg, hnc, hcm, by simp only [Nat.mul_one, List.size_toArray]; exact hl1, ?_⟩⟩ ⟨rfl, rfl, rfl, by simp [World.setRow], fun k _ hne => setRow_other w g k _ (by rintro rfl; exact hne rfl)⟩
      simp only [Nat.mul_one]
      have e1 : cur.toList.take off = xs.take off := by
        conv => lhs; rw [hdrop]
        rw [List.take_append_of_le_length (by omega)]
      have e2 : cur.toList.drop (off + min m dLen) = xs.drop (off + min m dLen) ++ cur.toList.drop n := by
        conv => lhs; rw [hdrop]
        rw [List.drop_append_of_le_length (by omega)]
      rw [e1, e2, ← List.append_assoc, ← List.append_assoc, List.append_assoc (xs.take off), List.take_append_of_le_length (by rw [hl2]; omega), List.take_of_length_le (by rw [hl2]; omega)]
end

/-! ### a row that grows, round by round -/
/-- Since the world w, in which the row v0 was the call's own, the row has become v, with n elements, xs in all; nothing else of what was there has turned. -/
structure Grow (w : World) (v0 : Value) (base e size : Nat) (wr : World) (v : Value) (n : Nat) (xs : List Value) : Prop where
  owns : wr.ownsRow base e size v n xs
  grown : w.grownBy wr v0.ownBlock
  blk : v.ownBlock = v0.ownBlock ∨ ∀ g, v.ownBlock = some g → w.heap.size ≤ g
  base : base ≤ w.heap.size
section
variable {P : Program} {w wr : World} {v0 v : Value} {base e size n : Nat} {xs : List Value}
theorem Grow.start (h : w.ownsRow base e size v n xs) (hb : base ≤ w.heap.size) : Grow w v base e size w v n xs := ⟨h, grown_refl _ _, .inl rfl, hb⟩
theorem Grow.nil (w : World) (e size : Nat) : Grow w (.slice none 0 0) w.heap.size e size w (.slice none 0 0) 0 [] := ⟨World.ownsRow_nil _ _ _ _, grown_refl _ _, .inl rfl, Nat.le_refl _⟩
/-- 'append([]T{}, ..)': an empty row of its own. -/
theorem Grow.empty (w : World) (e size : Nat) : Grow (w.alloc (.cells #[] e)) (.slice (some ⟨w.heap.size, 0, none⟩) 0 0) w.heap.size e size (w.alloc (.cells #[] e)) (.slice (some ⟨w.heap.size, 0, none⟩) 0 0) 0 [] :=
  Grow.start (World.ownsRow_made w #[] 0 (Nat.le_refl _) (by unfold maxLen; omega) (by simp)) (by simp)
theorem Grow.le (h : Grow w v0 base e size wr v n xs) : base ≤ wr.heap.size := Nat.le_trans h.base h.grown.size
theorem Grow.below (h : Grow w v0 base e size wr v n xs) {w' : World} (hb : Below wr.heap.size wr w') : Grow w v0 base e size w' v n xs :=
  ⟨own_below h.owns hb, grown_chain h.grown (grown_of_below hb none) (.inr fun g hg => by cases hg), h.blk, h.base⟩
theorem Grow.alloc (h : Grow w v0 base e size wr v n xs) (o : Obj) : Grow w v0 base e size (wr.alloc o) v n xs := h.below ((Below.refl _ _).alloc (Nat.le_refl _) o)
theorem Grow.drew (h : Grow w v0 base e size wr v n xs) : Grow w v0 base e size wr.drew v n xs := h.below (Below.refl _ _).drew
theorem Grow.drewN (h : Grow w v0 base e size wr v n xs) (k : Nat) : Grow w v0 base e size (wr.drewN k) v n xs := h.below ⟨rfl, rfl, rfl, Nat.le_refl _, fun _ _ => rfl⟩
/-- A function that began with nothing has turned nothing. -/
theorem Grow.all {c : Nat} (h : Grow w (.slice none 0 c) base e size wr v n xs) : Below w.heap.size w wr := ⟨h.grown.os, h.grown.tape, h.grown.output, h.grown.size, fun k hk => h.grown.block k hk (by simp [Value.ownBlock])⟩
theorem Grow.allOf (h : Grow w v0 base e size wr v n xs) {B : Nat} {W : World} (hW : Below B W w) (hB : B ≤ w.heap.size) (hv : ∀ g, v0.ownBlock = some g → B ≤ g) : Below B W wr := hW.grown h.grown hB hv
theorem Grow.emptyAll {w0 : World} {c : Nat} (h : Grow (w0.alloc (.cells #[] e)) (.slice (some ⟨w0.heap.size, 0, none⟩) 0 c) base e size wr v n xs) : Below w0.heap.size w0 wr :=
  h.allOf ((Below.refl _ _).alloc (Nat.le_refl _) _) (by simp) (fun g hg => by simp [Value.ownBlock] at hg; omega)
theorem Grow.trans (h : Grow w v0 base e size wr v n xs) {w2 : World} {v2 : Value} {m : Nat} {ys : List Value} (k : Grow wr v base e size w2 v2 m ys) : Grow w v0 base e size w2 v2 m ys := by
  refine ⟨k.owns, grown_chain h.grown k.grown h.blk, ?_, h.base⟩
  rcases k.blk with hk | hk
  · rw [hk]; exact h.blk
  · exact .inr fun g hg => Nat.le_trans h.grown.size (hk g hg)
variable {ops : Array Oper} {rest : List Oper} {o : Oper} {a : Act} {Q : Exit → Act → World → Prop}
theorem Grow.append (h : Grow w v0 base e size wr v n xs) {bytes : Nat} (hg : o.guard = none) {s x : Operand} {t : TypeId}
    (ho : o.op = .call { callee := .builtin .append, args := #[s, x], argTypes := #[t, t] })
    (T : SlT P t e size bytes) (hs : a.eval s = v)
    {A : Option Addr} {m c : Nat} {news : List Value} (hx : a.eval x = .slice A m c) (hl : news.length = m * size) (hr : Rd wr A news) (h1 : ∀ u ∈ news, u.oneCell' = true)
    (hb : (n + m) * bytes ≤ 140737488355328) (h63 : n + m ≤ 140737488355328)
    (hk : ∀ v' w', Grow w v0 base e size w' v' (n + m) (xs ++ news) → wr.heap.size ≤ w'.heap.size → wpList P ops Q rest (a.put o.dst v') w') :
    Stop (wpList P ops Q (o :: rest) a wr) := by
  refine go_append hg ho T hs h.owns hx hl hr h1 hb h63 h.le ?_
  intro v' w' ho' hg' hb'
  refine hk v' w' ⟨ho', grown_chain h.grown hg' h.blk, ?_, h.base⟩ hg'.size
  rcases hb' with hb' | hb'
  · rw [hb']; exact h.blk
  · rw [hb']; exact .inr fun g hg => by injection hg with hg; have := h.grown.size; omega
/-- One more, out of a new block of its own. -/
theorem Grow.push {w0 : World} {u : Value} {tt : TypeId} (h : Grow w v0 base e 1 w0 v n xs) {bytes : Nat} (hw : wr = w0.alloc (.cells #[u] tt)) (hg : o.guard = none) {s x : Operand} {t : TypeId}
    (ho : o.op = .call { callee := .builtin .append, args := #[s, x], argTypes := #[t, t] })
    (T : SlT P t e 1 bytes) (hs : a.eval s = v)
    {c : Nat} (hx : a.eval x = .slice (some ⟨w0.heap.size, 0, none⟩) 1 c) (h1 : u.oneCell' = true)
    (hb : (n + 1) * bytes ≤ 140737488355328) (h63 : n + 1 ≤ 140737488355328)
    (hk : ∀ v' w', Grow w v0 base e 1 w' v' (n + 1) (xs ++ [u]) → w0.heap.size ≤ w'.heap.size → wpList P ops Q rest (a.put o.dst v') w') :
    Stop (wpList P ops Q (o :: rest) a wr) := by
  subst hw
  refine (h.alloc _).append hg ho T hs hx (m := 1) rfl (Rd.new1 _ _ _) (fun u' hu' => by simp at hu'; subst hu'; exact h1) hb h63 ?_
  exact fun v' w' g hle => hk v' w' g (by simp at hle; omega)
end

/-! ### a law's row from its walk -/
section
open Go.ChangeShapes Go.WideShapes Go.ChangeAt
variable {H : Type} {enc : TypeId × Value → H} {P : Program}
theorem trodAll_below (hl : laidOutB P = true) {W W' : World} (hb : Below W.heap.size W W') : ∀ {ts : List TypeId} {vs : List Value} {ds : List (DataW H)} {ps : List MemPlace},
    (∀ t ∈ ts, P.readableRec t = true ∧ t < P.types.size) → DataW.TrodAll enc P W 0 (fun _ => true) true ts vs ds ps → (∀ x ∈ ps, x.block < W.heap.size) →
    ∀ sp : Nat → Bool, (∀ p ∈ ps, sp p.block = true) → DataW.TrodAll enc P W' 0 sp true ts vs ds ps
  | [], vs, ds, ps, _, h, _, _, _ => by
    obtain ⟨rfl, rfl, rfl⟩ := trodAll_nil h
    exact trodAll_mk0
  | t :: ts, vs, ds, ps, hr, h, hlt, sp, hsp => by
    obtain ⟨v, vs', d, ds', p, q, rfl, rfl, rfl, h1, h2⟩ := trodAll_cons h
    have ht := hr t List.mem_cons_self
    refine trodAll_cons_mk ?_ (trodAll_below hl hb (fun t' ht' => hr t' (List.mem_cons_of_mem _ ht')) h2 (fun x hx => hlt x (List.mem_append_right _ hx)) sp (fun x hx => hsp x (List.mem_append_right _ hx)))
    exact WideElems.Trod_stays hl ht.1 ht.2 h1 (fun x hx => hb.same (hlt x (List.mem_append_left _ hx))) (fun x hx => hsp x (List.mem_append_left _ hx))
/-- A slice of bytes that came in. -/
theorem open_bytes {r : Reach} {b0 : Nat} {w : World} {base : Nat} {spare : Nat → Bool} {held : Bool} {t e : TypeId} (ht : P.underlying t = some (.slice e)) (he : P.underlying e = some (.int .u8)) (hc : P.cellsOf e = 1)
    {v : Value} {d : DataW H} {ps : List MemPlace} (hval : Value.okWide P w r b0 t v) (h : DataW.Trod enc P w base spare held t v d ps) :
    ∃ (A : Option Addr) (n c : Nat) (bs : List UInt8), v = .slice A n c ∧ bs.length = n ∧ n ≤ c ∧ c ≤ 9223372036854775807 ∧ Rd w A (bys bs) := by
  obtain ⟨A, n, c, rfl⟩ := okWide_slice ht hval
  obtain ⟨fuel, hf⟩ := h
  rcases Go.ChangeShapes.open_ints ht he hc hf with ⟨hcs, _⟩ | ⟨a, len, cap, zs, hcs, _, hlc, hcm, hlen, _, hcell, hwf⟩
  · simp [Value.cells] at hcs
    obtain ⟨rfl, rfl, rfl⟩ := hcs
    exact ⟨none, 0, 0, [], rfl, rfl, by omega, by omega, Rd.nil⟩
  · simp [Value.cells] at hcs
    obtain ⟨rfl, rfl, rfl⟩ := hcs
    have hle : n ≤ zs.length := by rw [hlen]; split <;> omega
    refine ⟨some a, n, c, (zs.take n).map fun z => UInt8.ofNat z.toNat, rfl, by simp [Nat.min_eq_left hle], hlc, by unfold maxLen at hcm; omega, Rd.of_some fun j u hu => ?_⟩
    have hj : j < n := by
      have := (List.getElem?_eq_some_iff.1 hu).1
      simp [bys] at this; omega
    have hjz : j < zs.length := by omega
    have hw := hwf zs[j] (List.getElem_mem hjz)
    have hz : 0 ≤ zs[j] ∧ zs[j] ≤ 255 := by simpa [Lit.wf, IntKind.min, IntKind.max, IntKind.signed, IntKind.bits] using hw
    rw [hcell j hjz]
    simp only [bys, List.map_map, List.getElem?_map, List.getElem?_take, if_pos hj, List.getElem?_eq_getElem hjz, Option.map_some, Function.comp] at hu
    rw [← hu]
    simp only [List.getD, List.getElem?_eq_getElem hjz, Option.getD_some]
    congr 2
    have : (UInt8.ofNat (zs[j]).toNat).toNat = (zs[j]).toNat := by
      simp; omega
    rw [this]; omega
theorem wf_u64 {v : Int} (h : (Lit.int .u64 v).wf = true) : ∃ n : Nat, v = n ∧ n < 18446744073709551616 := by
  have hz : 0 ≤ v ∧ v ≤ 18446744073709551615 := by simpa [Lit.wf, IntKind.min, IntKind.max, IntKind.signed, IntKind.bits] using h
  exact ⟨v.toNat, by omega, by omega⟩
theorem wf_u32 {v : Int} (h : (Lit.int .u32 v).wf = true) : ∃ n : Nat, v = n ∧ n < 4294967296 := by
  have hz : 0 ≤ v ∧ v ≤ 4294967295 := by simpa [Lit.wf, IntKind.min, IntKind.max, IntKind.signed, IntKind.bits] using h
  exact ⟨v.toNat, by omega, by omega⟩
theorem wf_i64 {v : Int} (h : (Lit.int .i64 v).wf = true) : -9223372036854775808 ≤ v ∧ v ≤ 9223372036854775807 := by
  simpa [Lit.wf, IntKind.min, IntKind.max, IntKind.signed, IntKind.bits] using h
/-- WHAT A LAW OWES: 'it returns true, and nothing that was there has turned'. The rest of its row is the same for all laws that name no variable. -/
theorem law_post {f : Func} {s : ChangeSpec} {W W' : World} {args : Array Value} {ds gs : List (DataW H)} {before : List MemPlace} {tb : TypeId}
    (hl : laidOutB P = true) (hvars : s.vars = []) (hres : f.resultTypes = #[tb]) (htb : P.underlying tb = some .bool)
    (hr : ∀ t ∈ f.params.toList, P.readableRec t = true ∧ t < P.types.size)
    (hW : DataW.Whole enc P f.params.toList s.vars false W args.toList ds gs before)
    (hs : s.fn H (ds ++ gs) = { results := [.lit (.bool true)], args := ds, vars := [] })
    (hb : Below W.heap.size W W') : s.post enc P f false true false false W args (.bool true) W' := by
  have hW0 := hW
  obtain ⟨p, q, hA, hV, rfl, hfz, hnd⟩ := hW
  rw [hvars] at hV
  obtain ⟨rfl, rfl⟩ := trodVars_none hV
  have hlt : ∀ x ∈ p ++ [], x.block < W.heap.size := fun x hx => hW0.lt x hx
  have hold : ∀ p' ∈ p ++ [], (fun b => decide (b < W.heap.size)) p'.block = true := fun p' hp => by simpa using hlt p' hp
  refine ⟨ds, [], p ++ [], [], p, [], hW0, ?_, ?_, ?_, ?_, fun h => by cases h⟩
  · rw [hs, hres]
    exact trodAll_mk1 (shut_bool htb true)
  · rw [hs]
    exact trodAll_below hl hb hr hA (fun x hx => hlt x (List.mem_append_left _ hx)) _ (fun x hx => hold x (List.mem_append_left _ hx))
  · rw [hs, hvars]
    rfl
  · exact World.keptBut_mono (fun x hx => ⟨hx, .inr (.inl (by simpa using hx))⟩) (hb.frame (· ∈ p ++ []))
end
end Go.Px
namespace Go.Px
set_option maxRecDepth 20000
theorem wf_u8 {v : Int} (h : (Lit.int .u8 v).wf = true) : ∃ n : Nat, v = n ∧ n < 256 := by
  have hz : 0 ≤ v ∧ v ≤ 255 := by simpa [Lit.wf, IntKind.min, IntKind.max, IntKind.signed, IntKind.bits] using h
  exact ⟨v.toNat, by omega, by omega⟩
end Go.Px
namespace Go.Px
set_option maxRecDepth 20000
open Go.RowKit Go.ChangeShapes
variable {H : Type} {enc : TypeId × Value → H} {P : Program}
theorem open_bytesF {w : World} {base : Nat} {spare : Nat → Bool} {held : Bool} {t e : TypeId} (ht : P.underlying t = some (.slice e)) (he : P.underlying e = some (.int .u8)) (hc : P.cellsOf e = 1)
    {v : Value} {fuel : Nat} {x : DataW H × List MemPlace} (hf : DataW.trod enc P w base spare held fuel t [v] = some x) :
    ∃ (A : Option Addr) (n c : Nat) (bs : List UInt8), v = .slice A n c ∧ bs.length = n ∧ n ≤ c ∧ c ≤ 9223372036854775807 ∧ Rd w A (bys bs) := by
  rcases Go.ChangeShapes.open_ints ht he hc hf with ⟨hcs, _⟩ | ⟨a, len, cap, zs, hcs, _, hlc, hcm, hlen, _, hcell, hwf⟩
  · obtain rfl : v = .slice none 0 0 := by simpa using hcs
    exact ⟨none, 0, 0, [], rfl, rfl, by omega, by omega, Rd.nil⟩
  · obtain rfl : v = .slice (some a) len cap := by simpa using hcs
    have hle : len ≤ zs.length := by rw [hlen]; split <;> omega
    refine ⟨some a, len, cap, (zs.take len).map fun z => UInt8.ofNat z.toNat, rfl, by simp [Nat.min_eq_left hle], hlc, by unfold maxLen at hcm; omega, Rd.of_some fun j u hu => ?_⟩
    have hj : j < len := by
      have := (List.getElem?_eq_some_iff.1 hu).1
      simp [bys] at this; omega
    have hjz : j < zs.length := by omega
    have hw := hwf zs[j] (List.getElem_mem hjz)
    have hz : 0 ≤ zs[j] ∧ zs[j] ≤ 255 := by simpa [Lit.wf, IntKind.min, IntKind.max, IntKind.signed, IntKind.bits] using hw
    rw [hcell j hjz]
    simp only [bys, List.map_map, List.getElem?_map, List.getElem?_take, if_pos hj, List.getElem?_eq_getElem hjz, Option.map_some, Function.comp] at hu
    rw [← hu]
    simp only [List.getD, List.getElem?_eq_getElem hjz, Option.getD_some]
    congr 2
    have : (UInt8.ofNat (zs[j]).toNat).toNat = (zs[j]).toNat := by
      simp; omega
    rw [this]; omega
theorem open_u8F {w : World} {base : Nat} {spare : Nat → Bool} {held : Bool} {t : TypeId} (ht : P.underlying t = some (.int .u8)) {v : Value} {fuel : Nat} {x : DataW H × List MemPlace} (hf : DataW.trod enc P w base spare held fuel t [v] = some x) :
    ∃ n : Nat, v = .int .u8 n ∧ n < 256 := by
  obtain ⟨z, hz, _, hw⟩ := DataW.trod_int ht hf
  obtain ⟨n, rfl, hn⟩ := wf_u8 hw
  exact ⟨n, by simpa using hz, hn⟩
theorem open_u64F {w : World} {base : Nat} {spare : Nat → Bool} {held : Bool} {t : TypeId} (ht : P.underlying t = some (.int .u64)) {v : Value} {fuel : Nat} {x : DataW H × List MemPlace} (hf : DataW.trod enc P w base spare held fuel t [v] = some x) :
    ∃ n : Nat, v = .int .u64 n ∧ n < 18446744073709551616 := by
  obtain ⟨z, hz, _, hw⟩ := DataW.trod_int ht hf
  obtain ⟨n, rfl, hn⟩ := wf_u64 hw
  exact ⟨n, by simpa using hz, hn⟩
end Go.Px
namespace Go.Px
set_option maxRecDepth 20000
open Go.RowKit Go.ChangeShapes Go.WideShapes Go.ChangeAt
variable {H : Type} {enc : TypeId × Value → H} {P : Program}
theorem open_intsF {w : World} {base : Nat} {spare : Nat → Bool} {held : Bool} {t e : TypeId} (ht : P.underlying t = some (.slice e)) (he : P.underlying e = some (.int .i64)) (hc : P.cellsOf e = 1)
    {v : Value} {fuel : Nat} {x : DataW H × List MemPlace} (hf : DataW.trod enc P w base spare held fuel t [v] = some x) :
    ∃ (A : Option Addr) (n c : Nat) (l : List Int), v = .slice A n c ∧ l.length = n ∧ n ≤ c ∧ c ≤ 9223372036854775807 ∧ Rd w A (ints l) := by
  rcases Go.ChangeShapes.open_ints ht he hc hf with ⟨hcs, _⟩ | ⟨a, len, cap, zs, hcs, _, hlc, hcm, hlen, _, hcell, hwf⟩
  · obtain rfl : v = .slice none 0 0 := by simpa using hcs
    exact ⟨none, 0, 0, [], rfl, rfl, by omega, by omega, Rd.nil⟩
  · obtain rfl : v = .slice (some a) len cap := by simpa using hcs
    have hle : len ≤ zs.length := by rw [hlen]; split <;> omega
    refine ⟨some a, len, cap, zs.take len, rfl, by simp [Nat.min_eq_left hle], hlc, by unfold maxLen at hcm; omega, Rd.of_some fun j u hu => ?_⟩
    have hj : j < len := by
      have := (List.getElem?_eq_some_iff.1 hu).1
      simp [ints] at this; omega
    have hjz : j < zs.length := by omega
    rw [hcell j hjz]
    simp only [ints, List.getElem?_map, List.getElem?_take, if_pos hj, List.getElem?_eq_getElem hjz, Option.map_some] at hu
    rw [← hu]
    simp only [List.getD, List.getElem?_eq_getElem hjz, Option.getD_some]
theorem open_i64F {w : World} {base : Nat} {spare : Nat → Bool} {held : Bool} {t : TypeId} (ht : P.underlying t = some (.int .i64)) {v : Value} {fuel : Nat} {x : DataW H × List MemPlace} (hf : DataW.trod enc P w base spare held fuel t [v] = some x) :
    ∃ z : Int, v = .int .i64 z ∧ -9223372036854775808 ≤ z ∧ z ≤ 9223372036854775807 := by
  obtain ⟨z, hz, _, hw⟩ := DataW.trod_int ht hf
  have := wf_i64 hw
  exact ⟨z, by simpa using hz, this.1, this.2⟩
theorem open_intsT {r : Reach} {b0 : Nat} {w : World} {base : Nat} {spare : Nat → Bool} {held : Bool} {t e : TypeId} (ht : P.underlying t = some (.slice e)) (he : P.underlying e = some (.int .i64)) (hc : P.cellsOf e = 1)
    {v : Value} {d : DataW H} {ps : List MemPlace} (hval : Value.okWide P w r b0 t v) (h : DataW.Trod enc P w base spare held t v d ps) :
    ∃ (A : Option Addr) (n c : Nat) (l : List Int), v = .slice A n c ∧ l.length = n ∧ n ≤ c ∧ c ≤ 9223372036854775807 ∧ Rd w A (ints l) := by
  obtain ⟨A, n, c, rfl⟩ := okWide_slice ht hval
  obtain ⟨fuel, hf⟩ := h
  have hf' : DataW.trod enc P w base spare held fuel t [.slice A n c] = some (d, ps) := hf
  exact open_intsF ht he hc hf'
end Go.Px
namespace Go.Px
set_option maxRecDepth 20000
open Go.RowKit
theorem addr_add0 (g m : Nat) : (⟨g, 0, none⟩ : Addr).add m = ⟨g, m, none⟩ := by
  unfold Addr.add; split <;> simp_all

abbrev Blk (w : World) (g : Nat) (vs : List Value) (T : TypeId) : Prop := w.heap[g]? = some (.cells vs.toArray T (0, 0))
section
variable {w w' : World} {g : Nat} {vs : List Value} {T : TypeId}
theorem Blk.lt (h : Blk w g vs T) : g < w.heap.size := (Array.getElem?_eq_some_iff.1 h).1
theorem Blk.below (h : Blk w g vs T) (hb : Below w.heap.size w w') : Blk w' g vs T := (hb.block g h.lt).trans h
theorem Blk.cell (h : Blk w g vs T) {j : Nat} {v : Value} (hv : vs[j]? = some v) : w.cell? ⟨g, j, none⟩ = some v := by
  rw [cell_of_row _ _ _ _ _ _ h]; simpa using hv
theorem Blk.range (h : Blk w g vs T) : w.rangeAt g 0 vs := fun j v hv => by rw [Nat.zero_add]; exact h.cell hv
theorem Blk.there (h : Blk w g vs T) : w.there g 0 vs.length := fun j hj => by
  rw [Nat.zero_add]; exact ⟨by rw [h.cell (List.getElem?_eq_getElem hj)]; rfl, frozen_of_row _ _ _ _ _ h⟩
theorem Blk.frozen (h : Blk w g vs T) (j : Nat) : w.frozen? ⟨g, j, none⟩ = false := frozen_of_row _ _ _ _ _ h
theorem Blk.set (h : Blk w g vs T) (j : Nat) (u : Value) : Blk (w.setCell ⟨g, j, none⟩ u) g (vs.set j u) T := by
  have := heap_setCell_same w g j _ _ u h
  rwa [List.setIfInBounds_toArray] at this
theorem Blk.apart (h : Blk w g vs T) {k : Nat} (hk : g ≠ k) (j : Nat) (u : Value) : Blk (w.setCell ⟨k, j, none⟩ u) g vs T :=
  (heap_setCell_other w ⟨k, j, none⟩ g u hk).trans h
theorem Blk.setAll (h : Blk w g vs T) (us : List Value) : Blk (w.setRow g us.toArray) g us T := setRow_heap w g _ _ _ _ h
theorem heap_setRow_other (w : World) (g k : Nat) (cs : Array Value) (h : k ≠ g) : (w.setRow g cs).heap[k]? = w.heap[k]? := by
  simp only [World.setRow, Array.getElem?_modify]
  rw [if_neg (fun e => h e.symm)]
theorem Blk.apartAll (h : Blk w g vs T) {k : Nat} (hk : g ≠ k) (us : List Value) : Blk (w.setRow k us.toArray) g vs T :=
  (heap_setRow_other w k g _ hk).trans h
theorem below_setRow {B : Nat} {a : World} (h : Below B a w) {k : Nat} (hk : B ≤ k) (cs : Array Value) : Below B a (w.setRow k cs) :=
  ⟨h.os, h.tape, h.output, by simpa [World.setRow] using h.size, fun i hi => (heap_setRow_other w k i cs (by omega)).trans (h.block i hi)⟩
theorem Blk.new (w : World) (vs : List Value) (T : TypeId) : Blk (w.alloc (.cells vs.toArray T)) w.heap.size vs T := heap_alloc_new w _
theorem Blk.alloc (h : Blk w g vs T) (o : Obj) : Blk (w.alloc o) g vs T := h.below ((Below.refl _ _).alloc (Nat.le_refl _) o)
theorem Blk.drew (h : Blk w g vs T) : Blk w.drew g vs T := h
end
/-- What a cell holds. -/
def cellOf (w : World) (a : Addr) : Value := (w.cell? a).getD undef
theorem cellOf_eq {w : World} {a : Addr} (h : (w.cell? a).isSome = true) : w.cell? a = some (cellOf w a) := by
  unfold cellOf
  cases hh : w.cell? a with
  | none => rw [hh] at h; cases h
  | some v => rfl
theorem blk4 {w : World} {g g2 j : Nat} {vs us : List Value} {v : Value} {T T2 : TypeId} (h : Blk w g vs T) (h2 : Blk w g2 us T2) (hv : vs[j]? = some v) (hj : j < us.length) :
    w.rangeAt g 0 vs ∧ w.cell? ⟨g, j, none⟩ = some v ∧ w.cell? ⟨g2, j, none⟩ = some (cellOf w ⟨g2, j, none⟩) ∧ w.frozen? ⟨g2, j, none⟩ = false := by
  have := h2.there j hj
  rw [Nat.zero_add] at this
  refine ⟨h.range, h.cell hv, ?_, this.2⟩
  rw [cellOf, h2.cell (List.getElem?_eq_getElem hj)]; rfl

section
variable {P : Program} {w : World} {ops : Array Oper} {rest : List Oper} {o : Oper} {a : Act} {Q : Exit → Act → World → Prop}
theorem stop_load (T : TypeId) {x : Operand} (_ : o.op = .load T x) (h : Stop (wpList P ops Q (o :: rest) a w)) : wpList P ops Q (o :: rest) a w := h
theorem stop_store (T : TypeId) {x y : Operand} (_ : o.op = .store T x y) (h : Stop (wpList P ops Q (o :: rest) a w)) : wpList P ops Q (o :: rest) a w := h
theorem go_load (hgd : o.guard = none) {T : TypeId} {x : Operand} (ho : o.op = .load T x) {b : Nat} (hx : a.eval x = .pointer (some ⟨b, 0, none⟩)) {cs : List Value} {d : TypeDesc} {B : TypeId} (hc : Blk w b cs B)
    (hu : P.underlying T = some d) (hd : d.isRow = true) (hi : (P.info? T).map (·.size) = some cs.length)
    (h : wpList P ops Q rest (a.put o.dst (.agg cs.toArray)) w) : Stop (wpList P ops Q (o :: rest) a w) :=
  wpList_load_mid hgd T x ho b 0 hx cs d hc.range hu hd hi h
theorem go_store (hgd : o.guard = none) (hdn : o.dst = none) {T : TypeId} {x y : Operand} (ho : o.op = .store T x y) {b : Nat} (hx : a.eval x = .pointer (some ⟨b, 0, none⟩)) {cs us : List Value} (hy : a.eval y = .agg us.toArray) (hc : Blk w b cs T)
    (hi : (P.info? T).map (·.size) = some us.length) (hl : cs.length = us.length) (h1 : ∀ u ∈ us, u.oneCell' = true)
    (h : wpList P ops Q rest a (w.setRow b us.toArray)) : Stop (wpList P ops Q (o :: rest) a w) :=
  wpList_plain hgd fun K hK => by
    unfold Oper.wp execOp
    simp only [ho, hx, hy, Instr.storeAt, Instr.sureAddr, Sem.run_bind, Sem.run_pure, Result.andThen_ok, run_storeVar_row w b T T cs.toArray us.toArray hc (by simpa using hi) (by simpa using hl) (all_oneCell_toArray h1)]
    have hp : a.put o.dst undef = a := by rw [hdn]; rfl
    show K (a.put o.dst undef) _
    rw [hp]
    exact hK _ _ h
theorem results_cell {fn : Func} {t : Tmp} {T : TypeId} (h : fn.results = #[.cell t T]) {tmps : Array Value} {b : Nat} (hx : tmps.getD t undef = .pointer (some ⟨b, 0, none⟩)) {vs : List Value} {B : TypeId} {d : TypeDesc} (hc : Blk w b vs B)
    (hu : P.underlying T = some d) (hd : d.isRow = true) (hi : (P.info? T).map (·.size) = some vs.length) : (results fn tmps).run P w = .ok (.agg vs.toArray) w := by
  have := run_loadVar_mid (P := P) w b 0 T vs d hc.range hu hd hi
  have hx' : (tmps[t]?).getD undef = .pointer (some ⟨b, 0, none⟩) := by rw [← hx]; simp [Array.getD_eq_getD_getElem?]
  simp [results, h, hx', asAddr, this]
theorem results_cell3 {fn : Func} {t t2 t3 : Tmp} {T : TypeId} (h : fn.results = #[.cell t T, .tmp t2, .tmp t3]) {tmps : Array Value} {b : Nat} (hx : tmps.getD t undef = .pointer (some ⟨b, 0, none⟩)) {vs : List Value} {B : TypeId} {d : TypeDesc} (hc : Blk w b vs B)
    (hu : P.underlying T = some d) (hd : d.isRow = true) (hi : (P.info? T).map (·.size) = some vs.length) : (results fn tmps).run P w = .ok (.tuple #[.agg vs.toArray, tmps.getD t2 undef, tmps.getD t3 undef]) w := by
  have := run_loadVar_mid (P := P) w b 0 T vs d hc.range hu hd hi
  have hx' : (tmps[t]?).getD undef = .pointer (some ⟨b, 0, none⟩) := by rw [← hx]; simp [Array.getD_eq_getD_getElem?]
  simp [results, h, hx', asAddr, this]
end
end Go.Px
