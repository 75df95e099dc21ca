/- Texts joined (shake.py). -/
import Derived.WalkKit
import Derived.ProofKit
import Derived.OpenShut
import Derived.JoinedCond
import Derived.Deep.Slices
import Derived.Deep.Draws
import Derived.Maps.AppendAt
import Derived.Laws.CopyOwn
import Derived.Deep.RegionWith
import Derived.Deep.QuietTactic
import Derived.BigQuiet
import Derived.WalkSpells
import Derived.WalkLawsBesides
import Derived.Lib.SlBytesConst
import Derived.Deep.RegionHeld3
import Derived.Deep.MidRow
import Derived.Deep.WholeRow
import Derived.Lib.SmallJoins
import Derived.Deep.RegionLaw
import Derived.Deep.Quiet
import Derived.OrdersHeld
import Derived.OrdersIn
import Derived.RangeFuncNested
import Derived.RangeFuncBound
import Derived.RangeFuncCalls
import Derived.RangeFuncLeaves
import Derived.RangeFuncBox
import Derived.Shelf.Abstract
import Derived.OwnWalkIn
import Derived.TacticsInMore
import Derived.LoopNIn
import Derived.LoopIn
namespace Go.Px
open Go.RowKit

@[go_sem] theorem signed_u8 : IntKind.u8.signed = false := rfl
@[go_sem] theorem signed_u16 : IntKind.u16.signed = false := rfl
@[go_sem] theorem signed_u32 : IntKind.u32.signed = false := rfl
@[go_sem] theorem signed_u64 : IntKind.u64.signed = false := rfl
@[go_sem] theorem signed_i64 : IntKind.i64.signed = true := rfl
@[go_sem] theorem max_u32 : IntKind.u32.max = 4294967295 := rfl
@[go_sem] theorem max_u8 : IntKind.u8.max = 255 := rfl

/-! ### hide -/
theorem hide {p : Prop} (h : p) : Hid p := h

/-! ### addresses -/
theorem add_block (a : Addr) (n : Nat) : (a.add n).block = a.block := by unfold Addr.add; split <;> rfl
theorem add_add (a : Addr) (i j : Nat) : (a.add i).add j = a.add (i + j) := by
  unfold Addr.add
  by_cases hi : i = 0 <;> by_cases hj : j = 0 <;> simp [hi, hj, Nat.add_assoc]

/-! ### what a slice reads as: nil let in -/
/-- The cells from an address on hold these values (of no values nothing is asked). -/
def Rd (w : World) (A : Option Addr) (xs : List Value) : Prop := ∀ (j : Nat) (u : Value), xs[j]? = some u → ∃ a, A = some a ∧ w.cell? (a.add j) = some u

section
variable {w w' : World} {A : Option Addr} {xs : List Value}
theorem Rd.nil : Rd w A [] := fun j u h => by simp at h
theorem Rd.get (h : Rd w A xs) {k : Nat} (hk : k < xs.length) : ∃ a, A = some a ∧ w.cell? (a.add k) = some (xs[k]) := h k _ (List.getElem?_eq_getElem hk)
theorem Rd.keep (h : Rd w A xs) (hk : ∀ (p : Addr) u, w.cell? p = some u → w'.cell? p = some u) : Rd w' A xs := fun j u hu =>
  let ⟨a, ha, hc⟩ := h j u hu; ⟨a, ha, hk _ _ hc⟩
theorem Rd.below (h : Rd w A xs) (hb : Below w.heap.size w w') : Rd w' A xs :=
  h.keep fun p _ hu => (hb.cell (p := p) (World.block_lt_of_cell? w p hu)).trans hu
theorem Rd.alloc (h : Rd w A xs) (o : Obj) : Rd (w.alloc o) A xs := h.below ((Below.refl _ _).alloc (Nat.le_refl _) o)
theorem Rd.drew (h : Rd w A xs) : Rd w.drew A xs := h
theorem Rd.drewN (h : Rd w A xs) (k : Nat) : Rd (w.drewN k) A xs := h
/-- A reading of a block below B is kept where below B nothing has turned. -/
def Lo (B : Nat) (A : Option Addr) : Prop := ∀ a, A = some a → a.block < B
theorem Rd.lo (h : Rd w A xs) {B : Nat} (hl : Lo B A) (hb : Below B w w') : Rd w' A xs := fun j u hu => by
  obtain ⟨a, rfl, hc⟩ := h j u hu
  exact ⟨a, rfl, (hb.cell (p := a.add j) (by rw [add_block]; exact hl a rfl)).trans hc⟩
theorem Rd.grown (h : Rd w A xs) {row : Option Nat} (hg : w.grownBy w' row) (hne : ∀ a, A = some a → some a.block ≠ row) : Rd w' A xs := fun j u hu => by
  obtain ⟨a, rfl, hc⟩ := h j u hu
  exact ⟨a, rfl, hg.cell hc (by rw [add_block]; exact hne a rfl)⟩
theorem Rd.cut (h : Rd w A xs) {k : Nat} : Rd w (A.map (·.add k)) (xs.drop k) := fun j u hu => by
  rw [List.getElem?_drop] at hu
  obtain ⟨a, rfl, hc⟩ := h _ u hu
  exact ⟨a.add k, rfl, by rw [add_add]; exact hc⟩
theorem Rd.take (h : Rd w A xs) (k : Nat) : Rd w A (xs.take k) := fun j u hu => by
  rw [List.getElem?_take] at hu
  split at hu
  · exact h j u hu
  · cases hu
/-- 's[k:]' keeps the address where k is the capacity: nothing is read there. -/
theorem Rd.cut' (h : Rd w A xs) {n k cap : Nat} (hx : xs.length ≤ n) (hk : k ≤ n) (hc : n ≤ cap) : Rd w (if cap = k then A else A.map (·.add k)) (xs.drop k) := by
  split
  · rename_i he
    have : xs.drop k = [] := List.drop_eq_nil_of_le (by omega)
    rw [this]; exact Rd.nil
  · exact h.cut
theorem Rd.some_of (h : Rd w A xs) (hx : 0 < xs.length) : ∃ a, A = some a ∧ ∀ j u, xs[j]? = some u → w.cell? (a.add j) = some u := by
  obtain ⟨a, rfl, _⟩ := h.get hx
  exact ⟨a, rfl, fun j u hu => by obtain ⟨b, hb, hc⟩ := h j u hu; injection hb with hb; subst hb; exact hc⟩
theorem Rd.of_some {a : Addr} (h : ∀ j u, xs[j]? = some u → w.cell? (a.add j) = some u) : Rd w (some a) xs := fun j u hu => ⟨a, rfl, h j u hu⟩
theorem Rd.at_ {a : Addr} (h : Rd w (some a) xs) {j : Nat} {u : Value} (hu : xs[j]? = some u) : w.cell? (a.add j) = some u := by
  obtain ⟨b, hb, hc⟩ := h j u hu; injection hb with hb; subst hb; exact hc
end

theorem Rd.new1 (w : World) (u : Value) (t : TypeId) : Rd (w.alloc (.cells #[u] t)) (some ⟨w.heap.size, 0, none⟩) [u] := fun j x hx => by
  have hj : j = 0 := by
    have := (List.getElem?_eq_some_iff.1 hx).1
    simp at this; exact this
  subst hj
  refine ⟨_, rfl, ?_⟩
  have e : (⟨w.heap.size, 0, none⟩ : Addr).add 0 = ⟨w.heap.size, 0, none⟩ := rfl
  rw [e, cell_of_row _ _ 0 #[u] t (0, 0) (heap_alloc_new w _)]
  simpa using hx
theorem Rd.newN (w : World) (us : List Value) (t : TypeId) (fr : Nat × Nat) : Rd (w.alloc (.cells us.toArray t fr)) (some ⟨w.heap.size, 0, none⟩) us := fun j x hx => by
  refine ⟨_, rfl, ?_⟩
  have e : (⟨w.heap.size, 0, none⟩ : Addr).add j = ⟨w.heap.size, j, none⟩ := by unfold Addr.add; split <;> simp_all
  rw [e, cell_of_row _ _ j us.toArray t fr (heap_alloc_new w _)]
  simpa using hx

theorem Rd.newG {w : World} {us : List Value} {t : TypeId} {fr : Nat × Nat} {g : Nat} (hg : g = w.heap.size) : Rd (w.alloc (.cells us.toArray t fr)) (some ⟨g, 0, none⟩) us := by subst hg; exact Rd.newN _ _ _ _
/-- Where a piece of a slice begins: behind an array's end no address points. -/
def cutA (A : Option Addr) (cap k size : Nat) : Option Addr := if cap = k then A else A.map (·.add (k * size))
@[go_sem ↓] theorem sliced_cut (A : Option Addr) (l h m s : Nat) : sliced A l h m s = .slice (cutA A m l s) (h - l) (m - l) := rfl
@[go_sem] theorem cutA_zero (A : Option Addr) (c s : Nat) : cutA A c 0 s = A := by
  unfold cutA
  have e : A.map (fun x => x.add (0 * s)) = A := by
    cases A <;> simp [Addr.add]
  rw [e]; simp
theorem Rd.cutA {w : World} {A : Option Addr} {xs : List Value} (h : Rd w A xs) {n k cap : Nat} (hx : xs.length ≤ n) (hk : k ≤ n) (hc : n ≤ cap) : Rd w (cutA A cap k 1) (xs.drop k) := by
  unfold Px.cutA; rw [Nat.mul_one]; exact h.cut' hx hk hc
/-! ### rows that a call owns -/
section
variable {w w' : World} {base : Nat} {e : TypeId} {size n : Nat} {v : Value} {xs : List Value}
/-- An owned row, taken apart: it is a slice, it reads as its cells, its block is new. -/
theorem own_out (h : w.ownsRow base e size v n xs) : ∃ A c, v = .slice A n c ∧ xs.length = n * size ∧ n ≤ c ∧ c ≤ maxLen ∧ Rd w A xs ∧ (∀ a, A = some a → base ≤ a.block ∧ a.block < w.heap.size) := by
  rcases h.2 with ⟨rfl, rfl⟩ | ⟨g, cap, cur, rfl, hbg, hg, hnc, hcm, _, _⟩
  · have hx : xs = [] := List.eq_nil_of_length_eq_zero (by simpa using h.1)
    subst hx
    exact ⟨none, 0, rfl, by simp, Nat.le_refl _, Nat.zero_le _, Rd.nil, fun a ha => by cases ha⟩
  · refine ⟨_, cap, rfl, h.1, hnc, hcm, Rd.of_some (h.cells (g := g) rfl), fun a ha => ?_⟩
    injection ha with ha
    subst ha
    exact ⟨hbg, (Array.getElem?_eq_some_iff.1 hg).1⟩
theorem own_weak {base' : Nat} (h : w.ownsRow base e size v n xs) (hb : base' ≤ base) : w.ownsRow base' e size v n xs := by
  refine ⟨h.1, ?_⟩
  rcases h.2 with h2 | ⟨g, cap, cur, hv, hbg, r⟩
  · exact .inl h2
  · exact .inr ⟨g, cap, cur, hv, by omega, r⟩
theorem own_below (h : w.ownsRow base e size v n xs) (hb : Below w.heap.size w w') : w'.ownsRow base e size v n xs := by
  refine ⟨h.1, ?_⟩
  rcases h.2 with h2 | ⟨g, cap, cur, hv, hbg, hg, r⟩
  · exact .inl h2
  · exact .inr ⟨g, cap, cur, hv, hbg, (hb.block g (Array.getElem?_eq_some_iff.1 hg).1).trans hg, r⟩
/-- A row that is made whole, in a block of its own. -/
theorem own_made (cur : Array Value) (n cap : Nat) (hb : base ≤ w.heap.size) (hnc : n ≤ cap) (hm : cap ≤ maxLen) (hs : cur.size = cap * size) :
    (w.alloc (.cells cur e)).ownsRow base e size (.slice (some ⟨w.heap.size, 0, none⟩) n cap) n (cur.toList.take (n * size)) :=
  ⟨by rw [List.length_take, Array.length_toList, hs]; exact Nat.min_eq_left (Nat.mul_le_mul_right _ hnc), .inr ⟨w.heap.size, cap, cur, rfl, hb, heap_alloc_new w _, hnc, hm, hs, rfl⟩⟩
end

theorem grown_below {B : Nat} {a w w' : World} {row : Option Nat} (h : Below B a w) (hg : w.grownBy w' row) (hB : B ≤ w.heap.size) (hr : ∀ k, row = some k → B ≤ k) : Below B a w' := h.grown hg hB hr
theorem grown_refl (w : World) (row : Option Nat) : w.grownBy w row := ⟨rfl, rfl, rfl, Nat.le_refl _, fun _ _ _ => rfl⟩
theorem grown_of_below {w w' : World} (h : Below w.heap.size w w') (row : Option Nat) : w.grownBy w' row := ⟨h.os, h.tape, h.output, h.size, fun k hk _ => h.block k hk⟩
/-- Two steps, the second into the first one's row, or into one that was not there. -/
theorem grown_chain {a b c : World} {r r' : Option Nat} (h : a.grownBy b r) (k : b.grownBy c r') (hr : r' = r ∨ ∀ g, r' = some g → a.heap.size ≤ g) : a.grownBy c r :=
  ⟨k.os.trans h.os, k.tape.trans h.tape, k.output.trans h.output, Nat.le_trans h.size k.size, fun i hi hne => by
    refine (k.block i (Nat.lt_of_lt_of_le hi h.size) ?_).trans (h.block i hi hne)
    rcases hr with rfl | hr
    · exact hne
    · intro e; have := hr i e.symm; omega⟩

/-! ### bytes and integers -/
def bys (l : List UInt8) : List Value := l.map fun b => .int .u8 (b.toNat : Int)
theorem bys_length (l : List UInt8) : (bys l).length = l.length := by simp [bys]
theorem bys_get {l : List UInt8} {k : Nat} (h : k < l.length) : (bys l)[k]? = some (.int .u8 ((l[k]).toNat : Int)) := by simp [bys, List.getElem?_eq_getElem h]
theorem bys_append (l m : List UInt8) : bys (l ++ m) = bys l ++ bys m := by simp [bys]
theorem bys_take (l : List UInt8) (k : Nat) : bys (l.take k) = (bys l).take k := by simp [bys]
theorem bys_drop (l : List UInt8) (k : Nat) : bys (l.drop k) = (bys l).drop k := by simp [bys]
theorem bys_one (l : List UInt8) : ∀ u ∈ bys l, u.oneCell' = true := by
  intro u hu; simp [bys] at hu; obtain ⟨b, _, rfl⟩ := hu; rfl
/-- Cells that are slices of bytes. -/
def BRows (w : World) (vs : List Value) (bss : List (List UInt8)) : Prop := vs.length = bss.length ∧ ∀ (j : Nat) (h : j < bss.length), ∃ A n c, vs[j]? = some (.slice A n c) ∧ (bss[j]).length = n ∧ n ≤ c ∧ n ≤ 1099511627776 ∧ c ≤ 9223372036854775807 ∧ Rd w A (bys bss[j])
theorem BRows.nil {w : World} : BRows w [] [] := ⟨rfl, fun j h => by simp at h⟩
theorem BRows.below {w w' : World} {vs : List Value} {bss : List (List UInt8)} (h : BRows w vs bss) (hb : Below w.heap.size w w') : BRows w' vs bss :=
  ⟨h.1, fun j hj => by obtain ⟨A, n, c, h1, h2, h3, h4, h5, h6⟩ := h.2 j hj; exact ⟨A, n, c, h1, h2, h3, h4, h5, h6.below hb⟩⟩
theorem BRows.snoc {w : World} {vs : List Value} {bss : List (List UInt8)} (h : BRows w vs bss) {A : Option Addr} {n c : Nat} {bs : List UInt8} (hn : bs.length = n) (hc : n ≤ c) (h8 : n ≤ 1099511627776) (h63 : c ≤ 9223372036854775807) (hr : Rd w A (bys bs)) :
    BRows w (vs ++ [.slice A n c]) (bss ++ [bs]) := by
  refine ⟨by simp [h.1], fun j hj => ?_⟩
  by_cases hlt : j < bss.length
  · obtain ⟨A', n', c', h1, h2⟩ := h.2 j hlt
    rw [List.getElem_append_left hlt]
    exact ⟨A', n', c', by rw [List.getElem?_append_left (by rw [h.1]; exact hlt)]; exact h1, h2⟩
  · have hj' : j = bss.length := by simp at hj; omega
    subst hj'
    simp only [List.getElem_concat_length]
    exact ⟨A, n, c, by rw [← h.1]; simp, hn, hc, h8, h63, hr⟩
theorem BRows.get {w : World} {vs : List Value} {bss : List (List UInt8)} (h : BRows w vs bss) {j : Nat} (hj : j < bss.length) : ∃ A n c, vs[j]? = some (.slice A n c) ∧ (bss[j]).length = n ∧ n ≤ c ∧ n ≤ 1099511627776 ∧ c ≤ 9223372036854775807 ∧ Rd w A (bys bss[j]) := h.2 j hj
def ints (l : List Int) : List Value := l.map fun i => .int .i64 i
theorem ints_length (l : List Int) : (ints l).length = l.length := by simp [ints]
theorem ints_get {l : List Int} {k : Nat} (h : k < l.length) : (ints l)[k]? = some (.int .i64 (l[k])) := by simp [ints, List.getElem?_eq_getElem h]
theorem ints_one (l : List Int) : ∀ u ∈ ints l, u.oneCell' = true := by
  intro u hu; simp [ints] at hu; obtain ⟨b, _, rfl⟩ := hu; rfl

def strOf (bs : List UInt8) : ByteArray := ⟨bs.toArray⟩
@[go_sem] theorem strOf_toList (bs : List UInt8) : (strOf bs).toList = bs := ByteArray.toList_mk bs
theorem rd_nil_none {w : World} {xs : List Value} (h : Rd w none xs) : xs = [] := by
  rcases xs with _ | ⟨u, r⟩
  · rfl
  · obtain ⟨a, ha, _⟩ := h 0 u rfl; cases ha
/-- 'string(b)'. -/
theorem conv_bytes {P : Program} {w : World} {src dst e : TypeId} (hs : P.underlying src = some (.slice e)) (he : P.underlying e = some (.int .u8)) (hd : P.underlying dst = some .string)
    {A : Option Addr} {n c : Nat} {bs : List UInt8} (hn : bs.length = n) (h : Rd w A (bys bs)) : (convert src dst (.slice A n c)).run P w = .ok (.string (strOf bs)) w := by
  rcases A with _ | a
  · have hb : bs = [] := by have := rd_nil_none h; simpa [bys] using this
    subst hb
    exact run_convert_bytes_nil w src e hs he n c dst hd
  · have hl : (loadCells a n).run P w = .ok ((bs.map fun b => (b.toNat : Int)).map (Value.int .u8)).toArray w := by
      have := run_loadCells_list (P := P) w a (bys bs) (fun j v hj => h.at_ hj)
      rw [bys_length, hn] at this
      rw [this]; simp [bys, Function.comp_def]
    rw [run_convert_bytes_string w src dst e _ n c hs he hd, run_bytesToString w _ n c _ hl, foldl_push_bytes]
    simp [strOf, ByteArray.empty, ByteArray.emptyWithCapacity, Function.comp_def]
    rfl

/-! ### facts of a slice's type -/
structure SlT (P : Program) (t e size bytes : Nat) : Prop where
  und : P.underlying t = some (.slice e)
  info : ∃ i z, P.info? e = some i ∧ i.zero = some z ∧ i.size = size ∧ i.bytes = bytes ∧ z.cells.size = size
  pos : 0 < size
theorem slT_mk {P : Program} {t e size bytes : Nat} {z : Value} (h : P.underlying t = some (.slice e)) (hi : (P.info? e).map (fun i => (i.zero, i.size, i.bytes)) = some (some z, size, bytes)) (hz : z.cells.size = size) (hp : 0 < size) : SlT P t e size bytes := by
  cases hq : P.info? e with
  | none => rw [hq] at hi; cases hi
  | some i =>
    rw [hq] at hi
    simp only [Option.map_some, Option.some.injEq, Prod.mk.injEq] at hi
    exact ⟨h, ⟨i, z, hq, hi.1, hi.2.1, hi.2.2, hz⟩, hp⟩

/-! ### append onto a row of the call's own -/
section
variable {P : Program} {w : World}
theorem run_append_rd {base t ty e size bytes : Nat} (T : SlT P t e size bytes) {v : Value} {n : Nat} {xs : List Value} (hown : w.ownsRow base e size v n xs)
    {A : Option Addr} {m c : Nat} {news : List Value} (hl : news.length = m * size) (hr : Rd w A news) (h1 : ∀ u ∈ news, u.oneCell' = true)
    (hb : (n + m) * bytes ≤ 140737488355328) (h63 : n + m ≤ 140737488355328) (hbase : base ≤ w.heap.size) :
    ∃ v' w', (Builtin.append_ #[t, t] ty #[v, .slice A m c]).run P w = .ok v' w' ∧ w'.ownsRow base e size v' (n + m) (xs ++ news) ∧ w.grownBy w' v.ownBlock ∧ (v'.ownBlock = v.ownBlock ∨ v'.ownBlock = some w.heap.size) := by
  obtain ⟨hu, ⟨i, z, hi, hz, hs, hby, hzs⟩, hp⟩ := T
  rcases A with _ | a
  · have hn : news = [] := by
      rcases news with _ | ⟨u, r⟩
      · rfl
      · obtain ⟨a, ha, _⟩ := hr 0 u rfl; cases ha
    subst hn
    have hm : m = 0 := by
      rcases Nat.eq_zero_or_pos m with h | h
      · exact h
      · have := Nat.mul_pos h hp; simp at hl; omega
    subst hm
    refine ⟨v, w, ?_, by simpa using hown, grown_refl w _, .inl rfl⟩
    rcases hown.2 with ⟨rfl, rfl⟩ | ⟨g, cap, cur, rfl, _, _, hnc, _⟩
    · simp [Builtin.append_, run_underlying hu, sizeOf, typeInfo, hi, Builtin.lenOf, Builtin.firstCells]
    · simp [Builtin.append_, run_underlying hu, sizeOf, typeInfo, hi, Builtin.lenOf, Builtin.firstCells, hnc, storeCells]
  · obtain ⟨v', w', hrun, h2, h3, _, h5⟩ := run_append_own_at (P := P) w base t ty e i z size bytes hu hi hz hs hby hzs hp v n xs hown a m c news hl (fun j u hu => hr.at_ hu) h1
      (by unfold maxLen; omega) hb hbase
    exact ⟨v', w', hrun, h2, h3, h5⟩
theorem wl_append {ops : Array Oper} {rest : List Oper} {o : Oper} {a : Act} {Q : Exit → Act → World → Prop} (hg : o.guard = none) {s x : Operand} {t : TypeId}
    (ho : o.op = .call { callee := .builtin .append, args := #[s, x], argTypes := #[t, t] })
    {base e size bytes : Nat} (T : SlT P t e size bytes) {v : Value} {n : Nat} {xs : List Value} (hs : a.eval s = v) (hown : w.ownsRow base e size v n xs)
    {A : Option Addr} {m c : Nat} {news : List Value} (hx : a.eval x = .slice A m c) (hl : news.length = m * size) (hr : Rd w A news) (h1 : ∀ u ∈ news, u.oneCell' = true)
    (hb : (n + m) * bytes ≤ 140737488355328) (h63 : n + m ≤ 140737488355328) (hbase : base ≤ w.heap.size)
    (h : ∀ v' w', w'.ownsRow base e size v' (n + m) (xs ++ news) → w.grownBy w' v.ownBlock → (v'.ownBlock = v.ownBlock ∨ v'.ownBlock = some w.heap.size) → wpList P ops Q rest (a.put o.dst v') w') :
    wpList P ops Q (o :: rest) a w := by
  refine wpList_plain hg fun K hK => ?_
  obtain ⟨v', w', hrun, h2, h3, h4⟩ := run_append_rd (P := P) (ty := o.type) (c := c) T hown hl hr h1 hb h63 hbase
  unfold Oper.wp execOp
  simp only [ho, resolve, invoke, builtin, Sem.run_bind, Sem.run_pure, Result.andThen_ok, List.map_toArray, List.map_cons, List.map_nil, hs, hx, hrun]
  exact hK _ _ (h v' w' h2 h3 h4)
end

/-! ### places at which a walk stands still, to be led on by hand -/
def Stop (p : Prop) : Prop := p
section
variable {P : Program} {w : World} {ops : Array Oper} {rest : List Oper} {o : Oper} {a : Act} {Q : Exit → Act → World → Prop}
theorem stop_append {args : Array Operand} {ts : Array TypeId} (_ : o.op = .call { callee := .builtin .append, args := args, argTypes := ts }) (h : Stop (wpList P ops Q (o :: rest) a w)) : wpList P ops Q (o :: rest) a w := h
theorem stop_copy {args : Array Operand} {ts : Array TypeId} (_ : o.op = .call { callee := .builtin .copy, args := args, argTypes := ts }) (h : Stop (wpList P ops Q (o :: rest) a w)) : wpList P ops Q (o :: rest) a w := h
theorem stop_make {t : TypeId} {l c : Operand} (_ : o.op = .makeSlice t l c) (h : Stop (wpList P ops Q (o :: rest) a w)) : wpList P ops Q (o :: rest) a w := h
theorem go_append (hg : o.guard = none) {s x : Operand} {t : TypeId}
    (ho : o.op = .call { callee := .builtin .append, args := #[s, x], argTypes := #[t, t] })
    {base e size bytes : Nat} (T : SlT P t e size bytes) {v : Value} {n : Nat} {xs : List Value} (hs : a.eval s = v) (hown : w.ownsRow base e size v n xs)
    {A : Option Addr} {m c : Nat} {news : List Value} (hx : a.eval x = .slice A m c) (hl : news.length = m * size) (hr : Rd w A news) (h1 : ∀ u ∈ news, u.oneCell' = true)
    (hb : (n + m) * bytes ≤ 140737488355328) (h63 : n + m ≤ 140737488355328) (hbase : base ≤ w.heap.size)
    (h : ∀ v' w', w'.ownsRow base e size v' (n + m) (xs ++ news) → w.grownBy w' v.ownBlock → (v'.ownBlock = v.ownBlock ∨ v'.ownBlock = some w.heap.size) → wpList P ops Q rest (a.put o.dst v') w') :
    Stop (wpList P ops Q (o :: rest) a w) := wl_append hg ho T hs hown hx hl hr h1 hb h63 hbase h
/-- A new row, all zeros, of length n and capacity c. -/
theorem go_make (hg : o.guard = none) {l c : Operand} {t : TypeId} (ho : o.op = .makeSlice t l c) {base e size bytes : Nat} (T : SlT P t e size bytes)
    {kl kc : IntKind} {L C : Int} {n m : Nat} (hl : a.eval l = .int kl L) (hc : a.eval c = .int kc C) (hL : L = (n : Int)) (hC : C = (m : Int)) (hnm : n ≤ m) (hb : m * bytes ≤ 140737488355328) (h63 : m ≤ 140737488355328) (hbase : base ≤ w.heap.size)
    (h : ∀ (z : Value) (w' : World), (∃ i, P.info? e = some i ∧ i.zero = some z) → z.cells.size = size → w' = w.alloc (.cells (madeCells z.cells (m * size)) e) → w'.ownsRow base e size (.slice (some ⟨w.heap.size, 0, none⟩) n m) n ((madeCells z.cells (m * size)).toList.take (n * size)) → w.grownBy w' none →
      wpList P ops Q rest (a.put o.dst (.slice (some ⟨w.heap.size, 0, none⟩) n m)) w') :
    Stop (wpList P ops Q (o :: rest) a w) := by
  refine wpList_plain hg fun K hK => ?_
  obtain ⟨hu, ⟨i, z, hi, hz, hs, hby, hzs⟩, hp⟩ := T
  subst hL
  subst hC
  have hbz : i.bytes * m ≤ 281474976710656 := by rw [hby, Nat.mul_comm]; omega
  have hr := run_make (P := P) w t e i z hu hi hz kl kc (n : Int) (m : Int) (by omega) (by omega) (by
    have h2 : ((i.bytes * m : Nat) : Int) ≤ 281474976710656 := by omega
    rwa [Int.natCast_mul] at h2) (by omega)
  simp only [Int.toNat_natCast, hs] at hr
  unfold Oper.wp
  simp [execOp, ho, hl, hc, hr, Result.andThen]
  refine hK _ _ (h z _ ⟨i, hi, hz⟩ hzs rfl ?_ (World.grownBy_alloc _ _ _))
  exact own_made _ n m hbase hnm (by unfold maxLen; omega) (by simp [madeCells])
/-- copy into a part of a row of the call's own, from whatever reads as ys (the row itself let out). -/
theorem go_copy (hg : o.guard = none) {d s : Operand} {dT sT : TypeId} (ho : o.op = .call { callee := .builtin .copy, args := #[d, s], argTypes := #[dT, sT] })
    {base e bytes : Nat} (T : SlT P dT e 1 bytes) {g n cap off dLen dCap m c : Nat} {xs ys : List Value} {A : Option Addr}
    (hown : w.ownsRow base e 1 (.slice (some ⟨g, 0, none⟩) n cap) n xs) (hd : a.eval d = .slice (some ⟨g, off, none⟩) dLen dCap) (hoff : off + dLen ≤ n)
    (hs : a.eval s = .slice A m c) (hys : ys.length = m) (hr : Rd w A ys) (h1 : ∀ u ∈ ys, u.oneCell' = true)
    (h : ∀ w', w'.ownsRow base e 1 (.slice (some ⟨g, 0, none⟩) n cap) n (xs.take off ++ (ys.take dLen ++ xs.drop (off + min m dLen))) → w.grownBy w' (some g) → wpList P ops Q rest (a.put o.dst (goInt ((min m dLen : Nat) : Int))) w') :
    Stop (wpList P ops Q (o :: rest) a w) := by
  obtain ⟨hu, ⟨i, z, hi, hz, hsz, hby, hzs⟩, hp⟩ := T
  have hsz' : (P.info? e).map (·.size) = some 1 := by rw [hi]; simp [hsz]
  rcases hown with ⟨hlen, h0 | ⟨g', cap', cur, hv, hbg, hgg, hnc, hcm, hcs, htake⟩⟩
  · exact absurd h0.1 (by simp)
  injection hv with hv1 hv2 hv3
  injection hv1 with hv1
  injection hv1 with hv1
  subst hv1
  subst hv3
  simp only [Nat.mul_one] at hcs htake hlen
  have hdrop : cur.toList = xs ++ cur.toList.drop n := by rw [← htake]; exact (List.take_append_drop n cur.toList).symm
  by_cases hz0 : min m dLen = 0
  · refine wpList_copy_nothing hg d s dT sT ho e hu hsz' _ _ dLen dCap m c hd hs hz0 ?_
    have he : xs.take off ++ (ys.take dLen ++ xs.drop (off + min m dLen)) = xs := by
      have hy : ys.take dLen = [] := by
        rcases Nat.eq_zero_or_pos dLen with hd0 | hd0
        · subst hd0; simp
        · have : ys = [] := List.eq_nil_of_length_eq_zero (by omega)
          subst this; simp
      rw [hy, hz0]; simp
    have := h w ⟨by rw [he]; simpa using hlen, .inr ⟨g, cap, cur, rfl, hbg, hgg, hnc, hcm, by simpa using hcs, by rw [he]; simpa using htake⟩⟩ (grown_refl _ _)
    rw [hz0] at this
    exact this
  · obtain ⟨ad, rfl, hat⟩ := hr.some_of (by omega)
    have hcl : (ys.take dLen).length = min m dLen := by rw [List.length_take, hys]; exact Nat.min_comm _ _
    refine wpList_copy_own hg d s dT sT ho e hu hsz' g off dLen dCap ad m c hd hs cur e hgg (ys.take dLen) hcl (fun j v hv => hat j v ?_) (by rw [hcl, hcs]; omega) (fun u hu' => h1 u (List.mem_of_mem_take hu')) ?_
    · rw [List.getElem?_take] at hv
      split at hv
      · exact hv
      · cases hv
    · rw [hcl]
      have hl1 : (cur.toList.take off ++ (ys.take dLen ++ cur.toList.drop (off + min m dLen))).length = cap := by
        simp only [List.length_append, List.length_take, List.length_drop, Array.length_toList, hcs, hys]; omega
      have hl2 : (xs.take off ++ (ys.take dLen ++ xs.drop (off + min m dLen))).length = n := by
        simp only [List.length_append, List.length_take, List.length_drop, hlen, hys]; omega
      refine h _ ⟨by simpa using hl2, .inr ⟨g, cap, _, rfl, hbg, setRow_heap w g _ _ e _ hgg, hnc, hcm, by simp only [Nat.mul_one, List.size_toArray]; exact hl1, ?_⟩⟩ ⟨rfl, rfl, rfl, by simp [World.setRow], fun k _ hne => setRow_other w g k _ (by rintro rfl; exact hne rfl)⟩
      simp only [Nat.mul_one]
      have e1 : cur.toList.take off = xs.take off := by
        conv => lhs; rw [hdrop]
        rw [List.take_append_of_le_length (by omega)]
      have e2 : cur.toList.drop (off + min m dLen) = xs.drop (off + min m dLen) ++ cur.toList.drop n := by
        conv => lhs; rw [hdrop]
        rw [List.drop_append_of_le_length (by omega)]
      rw [e1, e2, ← List.append_assoc, ← List.append_assoc, List.append_assoc (xs.take off), List.take_append_of_le_length (by rw [hl2]; omega), List.take_of_length_le (by rw [hl2]; omega)]
end

/-! ### a row that grows, round by round -/
/-- Since the world w, in which the row v0 was the call's own, the row has become v, with n elements, xs in all; nothing else of what was there has turned. -/
structure Grow (w : World) (v0 : Value) (base e size : Nat) (wr : World) (v : Value) (n : Nat) (xs : List Value) : Prop where
  owns : wr.ownsRow base e size v n xs
  grown : w.grownBy wr v0.ownBlock
  blk : v.ownBlock = v0.ownBlock ∨ ∀ g, v.ownBlock = some g → w.heap.size ≤ g
  base : base ≤ w.heap.size
section
variable {P : Program} {w wr : World} {v0 v : Value} {base e size n : Nat} {xs : List Value}
theorem Grow.start (h : w.ownsRow base e size v n xs) (hb : base ≤ w.heap.size) : Grow w v base e size w v n xs := ⟨h, grown_refl _ _, .inl rfl, hb⟩
theorem Grow.nil (w : World) (e size : Nat) : Grow w (.slice none 0 0) w.heap.size e size w (.slice none 0 0) 0 [] := ⟨World.ownsRow_nil _ _ _ _, grown_refl _ _, .inl rfl, Nat.le_refl _⟩
/-- 'append([]T{}, ..)': an empty row of its own. -/
theorem Grow.empty (w : World) (e size : Nat) : Grow (w.alloc (.cells #[] e)) (.slice (some ⟨w.heap.size, 0, none⟩) 0 0) w.heap.size e size (w.alloc (.cells #[] e)) (.slice (some ⟨w.heap.size, 0, none⟩) 0 0) 0 [] :=
  Grow.start (World.ownsRow_made w #[] 0 (Nat.le_refl _) (by unfold maxLen; omega) (by simp)) (by simp)
theorem Grow.le (h : Grow w v0 base e size wr v n xs) : base ≤ wr.heap.size := Nat.le_trans h.base h.grown.size
theorem Grow.below (h : Grow w v0 base e size wr v n xs) {w' : World} (hb : Below wr.heap.size wr w') : Grow w v0 base e size w' v n xs :=
  ⟨own_below h.owns hb, grown_chain h.grown (grown_of_below hb none) (.inr fun g hg => by cases hg), h.blk, h.base⟩
theorem Grow.alloc (h : Grow w v0 base e size wr v n xs) (o : Obj) : Grow w v0 base e size (wr.alloc o) v n xs := h.below ((Below.refl _ _).alloc (Nat.le_refl _) o)
theorem Grow.drew (h : Grow w v0 base e size wr v n xs) : Grow w v0 base e size wr.drew v n xs := h.below (Below.refl _ _).drew
theorem Grow.drewN (h : Grow w v0 base e size wr v n xs) (k : Nat) : Grow w v0 base e size (wr.drewN k) v n xs := h.below ⟨rfl, rfl, rfl, Nat.le_refl _, fun _ _ => rfl⟩
/-- A function that began with nothing has turned nothing. -/
theorem Grow.all {c : Nat} (h : Grow w (.slice none 0 c) base e size wr v n xs) : Below w.heap.size w wr := ⟨h.grown.os, h.grown.tape, h.grown.output, h.grown.size, fun k hk => h.grown.block k hk (by simp [Value.ownBlock])⟩
theorem Grow.allOf (h : Grow w v0 base e size wr v n xs) {B : Nat} {W : World} (hW : Below B W w) (hB : B ≤ w.heap.size) (hv : ∀ g, v0.ownBlock = some g → B ≤ g) : Below B W wr := hW.grown h.grown hB hv
theorem Grow.emptyAll {w0 : World} {c : Nat} (h : Grow (w0.alloc (.cells #[] e)) (.slice (some ⟨w0.heap.size, 0, none⟩) 0 c) base e size wr v n xs) : Below w0.heap.size w0 wr :=
  h.allOf ((Below.refl _ _).alloc (Nat.le_refl _) _) (by simp) (fun g hg => by simp [Value.ownBlock] at hg; omega)
theorem Grow.trans (h : Grow w v0 base e size wr v n xs) {w2 : World} {v2 : Value} {m : Nat} {ys : List Value} (k : Grow wr v base e size w2 v2 m ys) : Grow w v0 base e size w2 v2 m ys := by
  refine ⟨k.owns, grown_chain h.grown k.grown h.blk, ?_, h.base⟩
  rcases k.blk with hk | hk
  · rw [hk]; exact h.blk
  · exact .inr fun g hg => Nat.le_trans h.grown.size (hk g hg)
variable {ops : Array Oper} {rest : List Oper} {o : Oper} {a : Act} {Q : Exit → Act → World → Prop}
theorem Grow.append (h : Grow w v0 base e size wr v n xs) {bytes : Nat} (hg : o.guard = none) {s x : Operand} {t : TypeId}
    (ho : o.op = .call { callee := .builtin .append, args := #[s, x], argTypes := #[t, t] })
    (T : SlT P t e size bytes) (hs : a.eval s = v)
    {A : Option Addr} {m c : Nat} {news : List Value} (hx : a.eval x = .slice A m c) (hl : news.length = m * size) (hr : Rd wr A news) (h1 : ∀ u ∈ news, u.oneCell' = true)
    (hb : (n + m) * bytes ≤ 140737488355328) (h63 : n + m ≤ 140737488355328)
    (hk : ∀ v' w', Grow w v0 base e size w' v' (n + m) (xs ++ news) → wr.heap.size ≤ w'.heap.size → wpList P ops Q rest (a.put o.dst v') w') :
    Stop (wpList P ops Q (o :: rest) a wr) := by
  refine go_append hg ho T hs h.owns hx hl hr h1 hb h63 h.le ?_
  intro v' w' ho' hg' hb'
  refine hk v' w' ⟨ho', grown_chain h.grown hg' h.blk, ?_, h.base⟩ hg'.size
  rcases hb' with hb' | hb'
  · rw [hb']; exact h.blk
  · rw [hb']; exact .inr fun g hg => by injection hg with hg; have := h.grown.size; omega
/-- One more, out of a new block of its own. -/
theorem Grow.push {w0 : World} {u : Value} {tt : TypeId} (h : Grow w v0 base e 1 w0 v n xs) {bytes : Nat} (hw : wr = w0.alloc (.cells #[u] tt)) (hg : o.guard = none) {s x : Operand} {t : TypeId}
    (ho : o.op = .call { callee := .builtin .append, args := #[s, x], argTypes := #[t, t] })
    (T : SlT P t e 1 bytes) (hs : a.eval s = v)
    {c : Nat} (hx : a.eval x = .slice (some ⟨w0.heap.size, 0, none⟩) 1 c) (h1 : u.oneCell' = true)
    (hb : (n + 1) * bytes ≤ 140737488355328) (h63 : n + 1 ≤ 140737488355328)
    (hk : ∀ v' w', Grow w v0 base e 1 w' v' (n + 1) (xs ++ [u]) → w0.heap.size ≤ w'.heap.size → wpList P ops Q rest (a.put o.dst v') w') :
    Stop (wpList P ops Q (o :: rest) a wr) := by
  subst hw
  refine (h.alloc _).append hg ho T hs hx (m := 1) rfl (Rd.new1 _ _ _) (fun u' hu' => by simp at hu'; subst hu'; exact h1) hb h63 ?_
  exact fun v' w' g hle => hk v' w' g (by simp at hle; omega)
end

/-! ### a law's row from its walk -/
section
open Go.ChangeShapes Go.WideShapes Go.ChangeAt
variable {H : Type} {enc : TypeId × Value → H} {P : Program}
end
end Go.Px
namespace Go.Px
set_option maxRecDepth 20000
open Go.RowKit
theorem addr_add0 (g m : Nat) : (⟨g, 0, none⟩ : Addr).add m = ⟨g, m, none⟩ := by
  unfold Addr.add; split <;> simp_all

abbrev Blk (w : World) (g : Nat) (vs : List Value) (T : TypeId) : Prop := w.heap[g]? = some (.cells vs.toArray T (0, 0))
section
variable {w w' : World} {g : Nat} {vs : List Value} {T : TypeId}
theorem Blk.lt (h : Blk w g vs T) : g < w.heap.size := (Array.getElem?_eq_some_iff.1 h).1
theorem Blk.below (h : Blk w g vs T) (hb : Below w.heap.size w w') : Blk w' g vs T := (hb.block g h.lt).trans h
theorem Blk.cell (h : Blk w g vs T) {j : Nat} {v : Value} (hv : vs[j]? = some v) : w.cell? ⟨g, j, none⟩ = some v := by
  rw [cell_of_row _ _ _ _ _ _ h]; simpa using hv
theorem Blk.range (h : Blk w g vs T) : w.rangeAt g 0 vs := fun j v hv => by rw [Nat.zero_add]; exact h.cell hv
theorem Blk.there (h : Blk w g vs T) : w.there g 0 vs.length := fun j hj => by
  rw [Nat.zero_add]; exact ⟨by rw [h.cell (List.getElem?_eq_getElem hj)]; rfl, frozen_of_row _ _ _ _ _ h⟩
theorem Blk.frozen (h : Blk w g vs T) (j : Nat) : w.frozen? ⟨g, j, none⟩ = false := frozen_of_row _ _ _ _ _ h
theorem Blk.set (h : Blk w g vs T) (j : Nat) (u : Value) : Blk (w.setCell ⟨g, j, none⟩ u) g (vs.set j u) T := by
  have := heap_setCell_same w g j _ _ u h
  rwa [List.setIfInBounds_toArray] at this
theorem Blk.apart (h : Blk w g vs T) {k : Nat} (hk : g ≠ k) (j : Nat) (u : Value) : Blk (w.setCell ⟨k, j, none⟩ u) g vs T :=
  (heap_setCell_other w ⟨k, j, none⟩ g u hk).trans h
theorem Blk.setAll (h : Blk w g vs T) (us : List Value) : Blk (w.setRow g us.toArray) g us T := setRow_heap w g _ _ _ _ h
theorem heap_setRow_other (w : World) (g k : Nat) (cs : Array Value) (h : k ≠ g) : (w.setRow g cs).heap[k]? = w.heap[k]? := by
  simp only [World.setRow, Array.getElem?_modify]
  rw [if_neg (fun e => h e.symm)]
theorem Blk.apartAll (h : Blk w g vs T) {k : Nat} (hk : g ≠ k) (us : List Value) : Blk (w.setRow k us.toArray) g vs T :=
  (heap_setRow_other w k g _ hk).trans h
theorem below_setRow {B : Nat} {a : World} (h : Below B a w) {k : Nat} (hk : B ≤ k) (cs : Array Value) : Below B a (w.setRow k cs) :=
  ⟨h.os, h.tape, h.output, by simpa [World.setRow] using h.size, fun i hi => (heap_setRow_other w k i cs (by omega)).trans (h.block i hi)⟩
theorem Blk.new (w : World) (vs : List Value) (T : TypeId) : Blk (w.alloc (.cells vs.toArray T)) w.heap.size vs T := heap_alloc_new w _
theorem Blk.alloc (h : Blk w g vs T) (o : Obj) : Blk (w.alloc o) g vs T := h.below ((Below.refl _ _).alloc (Nat.le_refl _) o)
theorem Blk.drew (h : Blk w g vs T) : Blk w.drew g vs T := h
end
section
variable {P : Program} {w : World} {ops : Array Oper} {rest : List Oper} {o : Oper} {a : Act} {Q : Exit → Act → World → Prop}
theorem stop_load (T : TypeId) {x : Operand} (_ : o.op = .load T x) (h : Stop (wpList P ops Q (o :: rest) a w)) : wpList P ops Q (o :: rest) a w := h
theorem stop_store (T : TypeId) {x y : Operand} (_ : o.op = .store T x y) (h : Stop (wpList P ops Q (o :: rest) a w)) : wpList P ops Q (o :: rest) a w := h
theorem go_load (hgd : o.guard = none) {T : TypeId} {x : Operand} (ho : o.op = .load T x) {b : Nat} (hx : a.eval x = .pointer (some ⟨b, 0, none⟩)) {cs : List Value} {d : TypeDesc} {B : TypeId} (hc : Blk w b cs B)
    (hu : P.underlying T = some d) (hd : d.isRow = true) (hi : (P.info? T).map (·.size) = some cs.length)
    (h : wpList P ops Q rest (a.put o.dst (.agg cs.toArray)) w) : Stop (wpList P ops Q (o :: rest) a w) :=
  wpList_load_mid hgd T x ho b 0 hx cs d hc.range hu hd hi h
theorem go_store (hgd : o.guard = none) (hdn : o.dst = none) {T : TypeId} {x y : Operand} (ho : o.op = .store T x y) {b : Nat} (hx : a.eval x = .pointer (some ⟨b, 0, none⟩)) {cs us : List Value} (hy : a.eval y = .agg us.toArray) (hc : Blk w b cs T)
    (hi : (P.info? T).map (·.size) = some us.length) (hl : cs.length = us.length) (h1 : ∀ u ∈ us, u.oneCell' = true)
    (h : wpList P ops Q rest a (w.setRow b us.toArray)) : Stop (wpList P ops Q (o :: rest) a w) :=
  wpList_plain hgd fun K hK => by
    unfold Oper.wp execOp
    simp only [ho, hx, hy, Instr.storeAt, Instr.sureAddr, Sem.run_bind, Sem.run_pure, Result.andThen_ok, run_storeVar_row w b T T cs.toArray us.toArray hc (by simpa using hi) (by simpa using hl) (all_oneCell_toArray h1)]
    have hp : a.put o.dst undef = a := by rw [hdn]; rfl
    show K (a.put o.dst undef) _
    rw [hp]
    exact hK _ _ h
theorem results_cell {fn : Func} {t : Tmp} {T : TypeId} (h : fn.results = #[.cell t T]) {tmps : Array Value} {b : Nat} (hx : tmps.getD t undef = .pointer (some ⟨b, 0, none⟩)) {vs : List Value} {B : TypeId} {d : TypeDesc} (hc : Blk w b vs B)
    (hu : P.underlying T = some d) (hd : d.isRow = true) (hi : (P.info? T).map (·.size) = some vs.length) : (results fn tmps).run P w = .ok (.agg vs.toArray) w := by
  have := run_loadVar_mid (P := P) w b 0 T vs d hc.range hu hd hi
  have hx' : (tmps[t]?).getD undef = .pointer (some ⟨b, 0, none⟩) := by rw [← hx]; simp [Array.getD_eq_getD_getElem?]
  simp [results, h, hx', asAddr, this]
theorem results_cell3 {fn : Func} {t t2 t3 : Tmp} {T : TypeId} (h : fn.results = #[.cell t T, .tmp t2, .tmp t3]) {tmps : Array Value} {b : Nat} (hx : tmps.getD t undef = .pointer (some ⟨b, 0, none⟩)) {vs : List Value} {B : TypeId} {d : TypeDesc} (hc : Blk w b vs B)
    (hu : P.underlying T = some d) (hd : d.isRow = true) (hi : (P.info? T).map (·.size) = some vs.length) : (results fn tmps).run P w = .ok (.tuple #[.agg vs.toArray, tmps.getD t2 undef, tmps.getD t3 undef]) w := by
  have := run_loadVar_mid (P := P) w b 0 T vs d hc.range hu hd hi
  have hx' : (tmps[t]?).getD undef = .pointer (some ⟨b, 0, none⟩) := by rw [← hx]; simp [Array.getD_eq_getD_getElem?]
  simp [results, h, hx', asAddr, this]
end
end Go.Px
namespace Go.Px
open Go.RowKit Go.ChangeShapes Go.WideShapes Go.ChangeAt Go.Deep
/-- A shape of data. -/
inductive Ty where
  | i64 | u8 | u32 | u64 | bool | bytes
  | row (t : Ty)
  | pr (a b : Ty)
  | st (t : Ty)
abbrev Ty.Den : Ty → Type
  | .i64 => Int
  | .u8 | .u32 | .u64 => Nat
  | .bool => Bool
  | .bytes => List UInt8
  | .row t => List t.Den
  | .pr a b => a.Den × b.Den
  | .st t => t.Den
def Ty.n : Ty → Nat
  | .pr a b => a.n + b.n
  | .st t => t.n
  | _ => 1
theorem Ty.n_pos : ∀ t : Ty, 0 < t.n
  | .i64 | .u8 | .u32 | .u64 | .bool | .bytes | .row _ => Nat.zero_lt_one
  | .pr a _ => Nat.lt_of_lt_of_le a.n_pos (Nat.le_add_right _ _)
  | .st t => t.n_pos
/-- One cell. -/
def one1 (p : Value → Prop) : List Value → Prop
  | [c] => p c
  | _ => False
theorem one1_len {p : Value → Prop} : ∀ {cs : List Value}, one1 p cs → cs.length = 1
  | [_], _ => rfl
theorem one1_out {p : Value → Prop} : ∀ {cs : List Value}, one1 p cs → ∃ c, cs = [c] ∧ p c
  | [c], h => ⟨c, rfl, h⟩
/-- Cells hold data; Q: which blocks what they point at lies in. -/
def Ty.Is (w : World) (Q : Nat → Prop) : (t : Ty) → t.Den → List Value → Prop
  | .i64, x, cs => one1 (fun v => v = .int .i64 x ∧ -9223372036854775808 ≤ x ∧ x ≤ 9223372036854775807) cs
  | .u8, x, cs => one1 (fun v => v = .int .u8 ((x : Nat) : Int) ∧ x < 256) cs
  | .u32, x, cs => one1 (fun v => v = .int .u32 ((x : Nat) : Int) ∧ x < 4294967296) cs
  | .u64, x, cs => one1 (fun v => v = .int .u64 ((x : Nat) : Int) ∧ x < 18446744073709551616) cs
  | .bool, x, cs => one1 (fun v => v = .bool x) cs
  | .bytes, bs, cs => one1 (fun v => ∃ (A : Option Addr) (n c : Nat), v = .slice A n c ∧ bs.length = n ∧ n ≤ c ∧ c ≤ 9223372036854775807 ∧ Rd w A (bys bs) ∧ (bs ≠ [] → ∀ a, A = some a → Q a.block)) cs
  | .row t, xs, cs => one1 (fun v => ∃ (A : Option Addr) (n c : Nat) (vs : List Value), v = .slice A n c ∧ xs.length = n ∧ n ≤ c ∧ c ≤ 9223372036854775807 ∧ Rd w A vs ∧ (xs ≠ [] → ∀ a, A = some a → Q a.block) ∧
      (vs.length = t.n * xs.length ∧ ∀ (j : Nat) (x : t.Den), xs[j]? = some x → t.Is w Q x ((vs.drop (t.n * j)).take t.n))) cs
  | .pr a b, x, cs => a.Is w Q x.1 (cs.take a.n) ∧ b.Is w Q x.2 (cs.drop a.n)
  | .st t, x, cs => t.Is w Q x cs
/-- The cells of a row, laid one behind the other. -/
def Ty.Rows (w : World) (Q : Nat → Prop) (t : Ty) (xs : List t.Den) (vs : List Value) : Prop := vs.length = t.n * xs.length ∧ ∀ (j : Nat) (x : t.Den), xs[j]? = some x → t.Is w Q x ((vs.drop (t.n * j)).take t.n)
theorem one1_imp {p q : Value → Prop} (h : ∀ v, p v → q v) : ∀ {cs : List Value}, one1 p cs → one1 q cs
  | [c], hc => h c hc
theorem Ty.Is.len {w : World} {Q : Nat → Prop} : ∀ {t : Ty} {x : t.Den} {cs : List Value}, t.Is w Q x cs → cs.length = t.n
  | .i64, _, _, h => one1_len h
  | .u8, _, _, h => one1_len h
  | .u32, _, _, h => one1_len h
  | .u64, _, _, h => one1_len h
  | .bool, _, _, h => one1_len h
  | .bytes, _, _, h => one1_len h
  | .row _, _, _, h => one1_len h
  | .pr a b, x, cs, ⟨h1, h2⟩ => by
    have e1 := Ty.Is.len h1
    have e2 := Ty.Is.len h2
    have := b.n_pos
    simp only [List.length_take, List.length_drop] at e1 e2
    show cs.length = a.n + b.n
    omega
  | .st t, x, cs, h => Ty.Is.len (t := t) h
theorem Ty.Is.keep {w w' : World} {Q Q' : Nat → Prop} (hk : ∀ (A : Option Addr) (xs : List Value), Rd w A xs → (xs ≠ [] → ∀ a, A = some a → Q a.block) → Rd w' A xs) (hQ : ∀ b, Q b → Q' b) :
    ∀ (t : Ty) (x : t.Den) (cs : List Value), t.Is w Q x cs → t.Is w' Q' x cs
  | .i64, _, _, h => h
  | .u8, _, _, h => h
  | .u32, _, _, h => h
  | .u64, _, _, h => h
  | .bool, _, _, h => h
  | .bytes, bs, cs, h => one1_imp (fun v ⟨A, n, c, h1, h2, h3, h4, h5, h6⟩ => ⟨A, n, c, h1, h2, h3, h4, hk _ _ h5 (fun hne a ha => h6 (fun e => hne (by rw [e]; rfl)) a ha), fun hne a ha => hQ _ (h6 hne a ha)⟩) h
  | .row t, xs, cs, h => one1_imp (fun v ⟨A, n, c, vs, h1, h2, h3, h4, h5, h6, h7, h8⟩ =>
    ⟨A, n, c, vs, h1, h2, h3, h4, hk _ _ h5 (fun hne a ha => h6 (fun e => hne (List.eq_nil_of_length_eq_zero (by rw [h7, e]; simp))) a ha), fun hne a ha => hQ _ (h6 hne a ha), h7, fun j x hx => Ty.Is.keep hk hQ t x _ (h8 j x hx)⟩) h
  | .pr a b, x, cs, ⟨h2, h3⟩ => ⟨Ty.Is.keep hk hQ a _ _ h2, Ty.Is.keep hk hQ b _ _ h3⟩
  | .st t, x, cs, h => Ty.Is.keep hk hQ t x cs h
theorem rd_empty {w : World} {A : Option Addr} {xs : List Value} (h : xs = []) : Rd w A xs := by rw [h]; exact Rd.nil
theorem rd_block {w : World} {A : Option Addr} {xs : List Value} (h : Rd w A xs) (hne : xs ≠ []) : ∀ a, A = some a → a.block < w.heap.size := by
  rintro a rfl
  obtain ⟨u, us, rfl⟩ := List.exists_cons_of_ne_nil hne
  have := World.block_lt_of_cell? w _ (h.at_ (j := 0) (u := u) rfl)
  rwa [add_block] at this
/-- What reads at all lies below the heap's end. -/
theorem Ty.Is.here {w : World} {Q : Nat → Prop} : ∀ {t : Ty} {x : t.Den} {cs : List Value}, t.Is w Q x cs → t.Is w (fun b => Q b ∧ b < w.heap.size) x cs
  | .i64, _, _, h => h
  | .u8, _, _, h => h
  | .u32, _, _, h => h
  | .u64, _, _, h => h
  | .bool, _, _, h => h
  | .bytes, bs, cs, h => one1_imp (fun v ⟨A, n, c, h1, h2, h3, h4, h5, h6⟩ => ⟨A, n, c, h1, h2, h3, h4, h5, fun hne a ha => ⟨h6 hne a ha, rd_block h5 (fun e => hne (List.map_eq_nil_iff.1 e)) a ha⟩⟩) h
  | .row t, xs, cs, h => one1_imp (fun v ⟨A, n, c, vs, h1, h2, h3, h4, h5, h6, h7, h8⟩ => by
    refine ⟨A, n, c, vs, h1, h2, h3, h4, h5, fun hne a ha => ⟨h6 hne a ha, rd_block h5 (fun e => ?_) a ha⟩, h7, fun j x hx => Ty.Is.here (t := t) (h8 j x hx)⟩
    have h0 := t.n_pos
    have hl : 0 < xs.length := List.length_pos_iff.2 hne
    have := Nat.mul_pos h0 hl
    rw [e] at h7
    simp at h7
    omega) h
  | .pr a b, x, cs, ⟨h2, h3⟩ => ⟨Ty.Is.here h2, Ty.Is.here h3⟩
  | .st t, x, cs, h => Ty.Is.here (t := t) h
section
variable {w w' : World} {Q Q' : Nat → Prop} {t : Ty} {x : t.Den} {cs : List Value}
theorem Ty.Is.below (h : t.Is w Q x cs) (hb : Below w.heap.size w w') : t.Is w' Q x cs := Ty.Is.keep (fun _ _ hr _ => hr.below hb) (fun _ h => h) t x cs h
theorem Ty.Is.mono (h : t.Is w Q x cs) (hQ : ∀ b, Q b → Q' b) : t.Is w Q' x cs := Ty.Is.keep (fun _ _ hr _ => hr) hQ t x cs h
theorem Ty.Is.any (h : t.Is w Q x cs) : t.Is w (fun _ => True) x cs := h.mono fun _ _ => trivial
theorem Ty.Is.low (h : t.Is w Q x cs) : t.Is w (fun b => b < w.heap.size) x cs := h.here.mono fun _ h => h.2
theorem Ty.Is.grown (h : t.Is w Q x cs) {r : Option Nat} (hg : w.grownBy w' r) (hr : ∀ b, Q b → some b ≠ r) : t.Is w' Q x cs :=
  Ty.Is.keep (fun A xs h hq => by
    by_cases he : xs = []
    · exact rd_empty he
    · exact h.grown hg (fun a ha => hr _ (hq he a ha))) (fun _ h => h) t x cs h
theorem Ty.Is.lo {B : Nat} (h : t.Is w (fun b => b < B) x cs) (hb : Below B w w') : t.Is w' (fun b => b < B) x cs :=
  Ty.Is.keep (fun A xs h hq => by
    by_cases he : xs = []
    · exact rd_empty he
    · exact h.lo (fun a ha => hq he a ha) hb) (fun _ h => h) t x cs h
variable {xs : List t.Den} {vs : List Value}
theorem Ty.Rows.len (h : t.Rows w Q xs vs) : vs.length = t.n * xs.length := h.1
theorem Ty.Rows.nil : t.Rows w Q [] [] := ⟨by simp, fun j x h => by simp at h⟩
theorem Ty.Rows.keep (h : t.Rows w Q xs vs) (hk : ∀ (A : Option Addr) (xs : List Value), Rd w A xs → (xs ≠ [] → ∀ a, A = some a → Q a.block) → Rd w' A xs) (hQ : ∀ b, Q b → Q' b) : t.Rows w' Q' xs vs := ⟨h.1, fun j x hx => (h.2 j x hx).keep hk hQ⟩
theorem Ty.Rows.below (h : t.Rows w Q xs vs) (hb : Below w.heap.size w w') : t.Rows w' Q xs vs := ⟨h.1, fun j x hx => (h.2 j x hx).below hb⟩
theorem Ty.Rows.mono (h : t.Rows w Q xs vs) (hQ : ∀ b, Q b → Q' b) : t.Rows w Q' xs vs := ⟨h.1, fun j x hx => (h.2 j x hx).mono hQ⟩
theorem Ty.Rows.any (h : t.Rows w Q xs vs) : t.Rows w (fun _ => True) xs vs := h.mono fun _ _ => trivial
theorem Ty.Rows.low (h : t.Rows w Q xs vs) : t.Rows w (fun b => b < w.heap.size) xs vs := ⟨h.1, fun j x hx => (h.2 j x hx).low⟩
theorem Ty.Rows.grown (h : t.Rows w Q xs vs) {r : Option Nat} (hg : w.grownBy w' r) (hr : ∀ b, Q b → some b ≠ r) : t.Rows w' Q xs vs := ⟨h.1, fun j x hx => (h.2 j x hx).grown hg hr⟩
theorem Ty.Rows.lo {B : Nat} (h : t.Rows w (fun b => b < B) xs vs) (hb : Below B w w') : t.Rows w' (fun b => b < B) xs vs := ⟨h.1, fun j x hx => (h.2 j x hx).lo hb⟩
theorem Ty.Rows.append (h : t.Rows w Q xs vs) {ys : List t.Den} {us : List Value} (h2 : t.Rows w Q ys us) : t.Rows w Q (xs ++ ys) (vs ++ us) := by
  refine ⟨by simp [h.1, h2.1, Nat.mul_add], fun j x hx => ?_⟩
  have h0 := t.n_pos
  by_cases hj : j < xs.length
  · rw [List.getElem?_append_left hj] at hx
    have := h.2 j x hx
    have hm : t.n * j + t.n ≤ vs.length := by
      rw [h.1, ← Nat.mul_succ]; exact Nat.mul_le_mul_left _ hj
    rw [List.drop_append_of_le_length (by omega), List.take_append_of_le_length (by simp; omega)]
    exact this
  · rw [List.getElem?_append_right (by omega)] at hx
    have := h2.2 (j - xs.length) x hx
    have e : t.n * j = vs.length + t.n * (j - xs.length) := by
      rw [h.1, ← Nat.mul_add]; congr 1; omega
    rw [e, List.drop_append]
    rw [List.drop_eq_nil_of_le (by omega), List.nil_append, show vs.length + t.n * (j - xs.length) - vs.length = t.n * (j - xs.length) by omega]
    exact this
theorem Ty.Rows.one (h : t.Is w Q x cs) : t.Rows w Q [x] cs := by
  refine ⟨by rw [h.len]; simp, fun j y hy => ?_⟩
  obtain ⟨hj, he⟩ := List.getElem?_eq_some_iff.1 hy
  have hj : j = 0 := by simpa using hj
  subst hj
  simp at he
  subst he
  rw [Nat.mul_zero, List.drop_zero, List.take_of_length_le (by rw [h.len]; exact Nat.le_refl _)]
  exact h
theorem Ty.Rows.snoc (h : t.Rows w Q xs vs) (hx : t.Is w Q x cs) : t.Rows w Q (xs ++ [x]) (vs ++ cs) := h.append (Ty.Rows.one hx)
theorem Ty.Rows.take (h : t.Rows w Q xs vs) (k : Nat) : t.Rows w Q (xs.take k) (vs.take (t.n * k)) := by
  refine ⟨by simp [h.1, ← Nat.mul_min_mul_left], fun j x hx => ?_⟩
  rw [List.getElem?_take] at hx
  split at hx
  · rename_i hj
    have := h.2 j x hx
    rw [List.drop_take, List.take_take]
    have hm : t.n * j + t.n ≤ t.n * k := by rw [← Nat.mul_succ]; exact Nat.mul_le_mul_left _ hj
    rw [Nat.min_eq_left (by omega)]
    exact this
  · cases hx
theorem Ty.Rows.drop (h : t.Rows w Q xs vs) (k : Nat) : t.Rows w Q (xs.drop k) (vs.drop (t.n * k)) := by
  refine ⟨by simp [h.1, Nat.mul_sub], fun j x hx => ?_⟩
  rw [List.getElem?_drop] at hx
  have := h.2 _ x hx
  rw [List.drop_drop, ← Nat.mul_add]
  exact this
/-- The cells of the element at a place. -/
theorem Ty.Rows.get (h : t.Rows w Q xs vs) {k : Nat} (hx : xs[k]? = some x) : ∃ cs, t.Is w Q x cs ∧ ∀ (i : Nat) (u : Value), cs[i]? = some u → vs[t.n * k + i]? = some u := by
  have hI := h.2 k x hx
  refine ⟨_, hI, fun i u hu => ?_⟩
  rw [List.getElem?_take] at hu
  split at hu
  · rwa [List.getElem?_drop] at hu
  · cases hu
theorem el_0S {a : Addr} (hat : ∀ (j : Nat) (u : Value), vs[j]? = some u → w'.cell? (a.add j) = some u) {n i : Nat} {u : Value} (h : vs[n * 0 + (i + 1)]? = some u) : w'.cell? ⟨a.block, a.off + (i + 1), none⟩ = some u := by
  have := hat _ _ h
  rw [Nat.mul_zero, Nat.zero_add] at this
  unfold Addr.add at this
  rwa [if_neg (by omega)] at this
end
theorem list_3 {cs : List Value} (h : cs.length = 3) : ∃ c0 c1 c2, cs = [c0, c1, c2] := by
  match cs, h with
  | [c0, c1, c2], _ => exact ⟨c0, c1, c2, rfl⟩
theorem list_4 {cs : List Value} (h : cs.length = 4) : ∃ c0 c1 c2 c3, cs = [c0, c1, c2, c3] := by
  match cs, h with
  | [c0, c1, c2, c3], _ => exact ⟨c0, c1, c2, c3, rfl⟩
theorem list_7 {cs : List Value} (h : cs.length = 7) : ∃ c0 c1 c2 c3 c4 c5 c6, cs = [c0, c1, c2, c3, c4, c5, c6] := by
  match cs, h with
  | [c0, c1, c2, c3, c4, c5, c6], _ => exact ⟨c0, c1, c2, c3, c4, c5, c6, rfl⟩
theorem list_12 {cs : List Value} (h : cs.length = 12) : ∃ c0 c1 c2 c3 c4 c5 c6 c7 c8 c9 c10 c11, cs = [c0, c1, c2, c3, c4, c5, c6, c7, c8, c9, c10, c11] := by
  match cs, h with
  | [c0, c1, c2, c3, c4, c5, c6, c7, c8, c9, c10, c11], _ => exact ⟨c0, c1, c2, c3, c4, c5, c6, c7, c8, c9, c10, c11, rfl⟩
/-! ### those that came in -/
variable {H : Type} {enc : TypeId × Value → H} {P : Program}
end Go.Px
namespace Go.Px
set_option maxRecDepth 20000
open Go.RowKit
set_option linter.unusedVariables false
abbrev tyShape : Ty := .st (.pr .i64 .i64)
abbrev ShapeD : Type := Int × Int
abbrev tyOp : Ty := .st (.pr .u8 (.pr .i64 (.pr .i64 (.pr .bytes .bytes))))
abbrev OpD : Type := Nat × Int × Int × (List UInt8) × (List UInt8)
abbrev tyResult : Ty := .st (.pr .u8 .bytes)
abbrev ResultD : Type := Nat × (List UInt8)
abbrev tyPage : Ty := .st (.pr .i64 (.pr .i64 .bytes))
abbrev PageD : Type := Int × Int × (List UInt8)
abbrev tyRow : Ty := .st (.pr .i64 (.pr .i64 tyResult))
abbrev RowD : Type := Int × Int × ResultD
abbrev tyGroup : Ty := .st (.pr .i64 (.row .i64))
abbrev GroupD : Type := Int × (List (Int))
abbrev tyEntry : Ty := .st (.pr .u8 (.pr .i64 (.pr .i64 (.pr .i64 (.pr .i64 (.pr tyOp tyGroup))))))
abbrev EntryD : Type := Nat × Int × Int × Int × Int × OpD × GroupD
abbrev tyState : Ty := .st (.pr .i64 (.pr tyShape (.pr (.row tyPage) (.pr (.row tyRow) tyGroup))))
abbrev StateD : Type := Int × ShapeD × (List (PageD)) × (List (RowD)) × GroupD
theorem i64rows {w : World} {Q : Nat → Prop} : ∀ {xs : List Int} {vs : List Value}, Ty.Rows w Q .i64 xs vs → vs = ints xs ∧ ∀ x ∈ xs, -9223372036854775808 ≤ x ∧ x ≤ 9223372036854775807 := by
  intro xs vs h
  have hl : vs.length = xs.length := by have := h.1; simpa [Ty.n] using this
  have hg : ∀ (j : Nat) (x : Int), xs[j]? = some x → vs[j]? = some (.int .i64 x) ∧ -9223372036854775808 ≤ x ∧ x ≤ 9223372036854775807 := fun j x hx => by
    obtain ⟨cs, hI, hc⟩ := h.get hx
    obtain ⟨c, rfl, rfl, h1, h2⟩ := one1_out hI
    have := hc 0 _ rfl
    simp [Ty.n] at this
    exact ⟨this, h1, h2⟩
  refine ⟨List.ext_getElem? fun j => ?_, fun x hx => ?_⟩
  · unfold ints
    rw [List.getElem?_map]
    by_cases hj : j < xs.length
    · rw [(hg j _ (List.getElem?_eq_getElem hj)).1, List.getElem?_eq_getElem hj]; rfl
    · rw [List.getElem?_eq_none (by omega), List.getElem?_eq_none (by omega)]; rfl
  · obtain ⟨j, hj, rfl⟩ := List.mem_iff_getElem.1 hx
    exact (hg j _ (List.getElem?_eq_getElem hj)).2
theorem i64rows_mk {w : World} {Q : Nat → Prop} {xs : List Int} (h : ∀ x ∈ xs, -9223372036854775808 ≤ x ∧ x ≤ 9223372036854775807) : Ty.Rows w Q .i64 xs (ints xs) := by
  refine ⟨by simp [ints, Ty.n], fun j x hx => ?_⟩
  have e : ((ints xs).drop (Ty.n .i64 * j)).take (Ty.n .i64) = [.int .i64 x] := by
    obtain ⟨hj, rfl⟩ := List.getElem?_eq_some_iff.1 hx
    have hj' : j < (ints xs).length := by simp [ints]; exact hj
    show ((ints xs).drop (1 * j)).take 1 = _
    rw [Nat.one_mul, List.drop_eq_getElem_cons hj']
    simp [ints]
  rw [e]
  exact ⟨rfl, h x (List.mem_of_getElem? hx)⟩
section
variable {w : World} {Q : Nat → Prop}
theorem Page_out {x : PageD} {cs : List Value} (h : tyPage.Is w Q x cs) : ∃ (pAt : Int) (pVersion : Int) (pData : List UInt8) (pDataA : Option Addr) (pDatan pDatac : Nat), x = (pAt, pVersion, pData) ∧ cs = [.int .i64 pAt, .int .i64 pVersion, .slice pDataA pDatan pDatac] ∧ -9223372036854775808 ≤ pAt ∧ pAt ≤ 9223372036854775807 ∧ -9223372036854775808 ≤ pVersion ∧ pVersion ≤ 9223372036854775807 ∧ pData.length = pDatan ∧ pDatan ≤ pDatac ∧ pDatac ≤ 9223372036854775807 ∧ Rd w pDataA (bys pData) ∧ (pData ≠ [] → ∀ a, pDataA = some a → Q a.block) := by
  obtain ⟨c0, c1, c2, rfl⟩ := list_3 (h.len : cs.length = 3)
  obtain ⟨pAt, pVersion, pData⟩ := x
  obtain ⟨⟨rfl, h1_pAt, h2_pAt⟩, ⟨⟨rfl, h1_pVersion, h2_pVersion⟩, ⟨pDataA, pDatan, pDatac, rfl, hl_pData, hc_pData, hm_pData, hr_pData, hq_pData⟩⟩⟩ := h
  exact ⟨pAt, pVersion, pData, pDataA, pDatan, pDatac, rfl, rfl, h1_pAt, h2_pAt, h1_pVersion, h2_pVersion, hl_pData, hc_pData, hm_pData, hr_pData, hq_pData⟩
theorem Page_mk {pAt : Int} {pVersion : Int} {pData : List UInt8} {pDataA : Option Addr} {pDatan pDatac : Nat} (h1_pAt : -9223372036854775808 ≤ pAt) (h2_pAt : pAt ≤ 9223372036854775807) (h1_pVersion : -9223372036854775808 ≤ pVersion) (h2_pVersion : pVersion ≤ 9223372036854775807) (hl_pData : pData.length = pDatan) (hc_pData : pDatan ≤ pDatac) (hm_pData : pDatac ≤ 9223372036854775807) (hr_pData : Rd w pDataA (bys pData)) (hq_pData : (pData ≠ [] → ∀ a, pDataA = some a → Q a.block)) : tyPage.Is w Q (pAt, pVersion, pData) [.int .i64 pAt, .int .i64 pVersion, .slice pDataA pDatan pDatac] := ⟨⟨rfl, h1_pAt, h2_pAt⟩, ⟨⟨rfl, h1_pVersion, h2_pVersion⟩, ⟨_, _, _, rfl, hl_pData, hc_pData, hm_pData, hr_pData, hq_pData⟩⟩⟩
theorem Row_out {x : RowD} {cs : List Value} (h : tyRow.Is w Q x cs) : ∃ (pClient : Int) (pSerial : Int) (pResultCode : Nat) (pResultData : List UInt8) (pResultDataA : Option Addr) (pResultDatan pResultDatac : Nat), x = (pClient, pSerial, (pResultCode, pResultData)) ∧ cs = [.int .i64 pClient, .int .i64 pSerial, .int .u8 pResultCode, .slice pResultDataA pResultDatan pResultDatac] ∧ -9223372036854775808 ≤ pClient ∧ pClient ≤ 9223372036854775807 ∧ -9223372036854775808 ≤ pSerial ∧ pSerial ≤ 9223372036854775807 ∧ pResultCode < 256 ∧ pResultData.length = pResultDatan ∧ pResultDatan ≤ pResultDatac ∧ pResultDatac ≤ 9223372036854775807 ∧ Rd w pResultDataA (bys pResultData) ∧ (pResultData ≠ [] → ∀ a, pResultDataA = some a → Q a.block) := by
  obtain ⟨c0, c1, c2, c3, rfl⟩ := list_4 (h.len : cs.length = 4)
  obtain ⟨pClient, pSerial, ⟨pResultCode, pResultData⟩⟩ := x
  obtain ⟨⟨rfl, h1_pClient, h2_pClient⟩, ⟨⟨rfl, h1_pSerial, h2_pSerial⟩, ⟨⟨rfl, hu_pResultCode⟩, ⟨pResultDataA, pResultDatan, pResultDatac, rfl, hl_pResultData, hc_pResultData, hm_pResultData, hr_pResultData, hq_pResultData⟩⟩⟩⟩ := h
  exact ⟨pClient, pSerial, pResultCode, pResultData, pResultDataA, pResultDatan, pResultDatac, rfl, rfl, h1_pClient, h2_pClient, h1_pSerial, h2_pSerial, hu_pResultCode, hl_pResultData, hc_pResultData, hm_pResultData, hr_pResultData, hq_pResultData⟩
theorem Row_mk {pClient : Int} {pSerial : Int} {pResultCode : Nat} {pResultData : List UInt8} {pResultDataA : Option Addr} {pResultDatan pResultDatac : Nat} (h1_pClient : -9223372036854775808 ≤ pClient) (h2_pClient : pClient ≤ 9223372036854775807) (h1_pSerial : -9223372036854775808 ≤ pSerial) (h2_pSerial : pSerial ≤ 9223372036854775807) (hu_pResultCode : pResultCode < 256) (hl_pResultData : pResultData.length = pResultDatan) (hc_pResultData : pResultDatan ≤ pResultDatac) (hm_pResultData : pResultDatac ≤ 9223372036854775807) (hr_pResultData : Rd w pResultDataA (bys pResultData)) (hq_pResultData : (pResultData ≠ [] → ∀ a, pResultDataA = some a → Q a.block)) : tyRow.Is w Q (pClient, pSerial, (pResultCode, pResultData)) [.int .i64 pClient, .int .i64 pSerial, .int .u8 pResultCode, .slice pResultDataA pResultDatan pResultDatac] := ⟨⟨rfl, h1_pClient, h2_pClient⟩, ⟨⟨rfl, h1_pSerial, h2_pSerial⟩, ⟨⟨rfl, hu_pResultCode⟩, ⟨_, _, _, rfl, hl_pResultData, hc_pResultData, hm_pResultData, hr_pResultData, hq_pResultData⟩⟩⟩⟩
theorem Entry_out {x : EntryD} {cs : List Value} (h : tyEntry.Is w Q x cs) : ∃ (pKind : Nat) (pNum : Int) (pView : Int) (pClient : Int) (pSerial : Int) (pOpKind : Nat) (pOpAt : Int) (pOpN : Int) (pOpData : List UInt8) (pOpDataA : Option Addr) (pOpDatan pOpDatac : Nat) (pOpOld : List UInt8) (pOpOldA : Option Addr) (pOpOldn pOpOldc : Nat) (pGroupEpoch : Int) (pGroupMembers : List (Int)) (pGroupMembersA : Option Addr) (pGroupMembersn pGroupMembersc : Nat) (pGroupMembersv : List Value), x = (pKind, pNum, pView, pClient, pSerial, (pOpKind, pOpAt, pOpN, pOpData, pOpOld), (pGroupEpoch, pGroupMembers)) ∧ cs = [.int .u8 pKind, .int .i64 pNum, .int .i64 pView, .int .i64 pClient, .int .i64 pSerial, .int .u8 pOpKind, .int .i64 pOpAt, .int .i64 pOpN, .slice pOpDataA pOpDatan pOpDatac, .slice pOpOldA pOpOldn pOpOldc, .int .i64 pGroupEpoch, .slice pGroupMembersA pGroupMembersn pGroupMembersc] ∧ pKind < 256 ∧ -9223372036854775808 ≤ pNum ∧ pNum ≤ 9223372036854775807 ∧ -9223372036854775808 ≤ pView ∧ pView ≤ 9223372036854775807 ∧ -9223372036854775808 ≤ pClient ∧ pClient ≤ 9223372036854775807 ∧ -9223372036854775808 ≤ pSerial ∧ pSerial ≤ 9223372036854775807 ∧ pOpKind < 256 ∧ -9223372036854775808 ≤ pOpAt ∧ pOpAt ≤ 9223372036854775807 ∧ -9223372036854775808 ≤ pOpN ∧ pOpN ≤ 9223372036854775807 ∧ pOpData.length = pOpDatan ∧ pOpDatan ≤ pOpDatac ∧ pOpDatac ≤ 9223372036854775807 ∧ Rd w pOpDataA (bys pOpData) ∧ (pOpData ≠ [] → ∀ a, pOpDataA = some a → Q a.block) ∧ pOpOld.length = pOpOldn ∧ pOpOldn ≤ pOpOldc ∧ pOpOldc ≤ 9223372036854775807 ∧ Rd w pOpOldA (bys pOpOld) ∧ (pOpOld ≠ [] → ∀ a, pOpOldA = some a → Q a.block) ∧ -9223372036854775808 ≤ pGroupEpoch ∧ pGroupEpoch ≤ 9223372036854775807 ∧ pGroupMembers.length = pGroupMembersn ∧ pGroupMembersn ≤ pGroupMembersc ∧ pGroupMembersc ≤ 9223372036854775807 ∧ Rd w pGroupMembersA pGroupMembersv ∧ (pGroupMembers ≠ [] → ∀ a, pGroupMembersA = some a → Q a.block) ∧ Ty.Rows w Q .i64 pGroupMembers pGroupMembersv := by
  obtain ⟨c0, c1, c2, c3, c4, c5, c6, c7, c8, c9, c10, c11, rfl⟩ := list_12 (h.len : cs.length = 12)
  obtain ⟨pKind, pNum, pView, pClient, pSerial, ⟨pOpKind, pOpAt, pOpN, pOpData, pOpOld⟩, ⟨pGroupEpoch, pGroupMembers⟩⟩ := x
  obtain ⟨⟨rfl, hu_pKind⟩, ⟨⟨rfl, h1_pNum, h2_pNum⟩, ⟨⟨rfl, h1_pView, h2_pView⟩, ⟨⟨rfl, h1_pClient, h2_pClient⟩, ⟨⟨rfl, h1_pSerial, h2_pSerial⟩, ⟨⟨⟨rfl, hu_pOpKind⟩, ⟨⟨rfl, h1_pOpAt, h2_pOpAt⟩, ⟨⟨rfl, h1_pOpN, h2_pOpN⟩, ⟨⟨pOpDataA, pOpDatan, pOpDatac, rfl, hl_pOpData, hc_pOpData, hm_pOpData, hr_pOpData, hq_pOpData⟩, ⟨pOpOldA, pOpOldn, pOpOldc, rfl, hl_pOpOld, hc_pOpOld, hm_pOpOld, hr_pOpOld, hq_pOpOld⟩⟩⟩⟩⟩, ⟨⟨rfl, h1_pGroupEpoch, h2_pGroupEpoch⟩, ⟨pGroupMembersA, pGroupMembersn, pGroupMembersc, pGroupMembersv, rfl, hl_pGroupMembers, hc_pGroupMembers, hm_pGroupMembers, hr_pGroupMembers, hq_pGroupMembers, he_pGroupMembers⟩⟩⟩⟩⟩⟩⟩⟩ := h
  exact ⟨pKind, pNum, pView, pClient, pSerial, pOpKind, pOpAt, pOpN, pOpData, pOpDataA, pOpDatan, pOpDatac, pOpOld, pOpOldA, pOpOldn, pOpOldc, pGroupEpoch, pGroupMembers, pGroupMembersA, pGroupMembersn, pGroupMembersc, pGroupMembersv, rfl, rfl, hu_pKind, h1_pNum, h2_pNum, h1_pView, h2_pView, h1_pClient, h2_pClient, h1_pSerial, h2_pSerial, hu_pOpKind, h1_pOpAt, h2_pOpAt, h1_pOpN, h2_pOpN, hl_pOpData, hc_pOpData, hm_pOpData, hr_pOpData, hq_pOpData, hl_pOpOld, hc_pOpOld, hm_pOpOld, hr_pOpOld, hq_pOpOld, h1_pGroupEpoch, h2_pGroupEpoch, hl_pGroupMembers, hc_pGroupMembers, hm_pGroupMembers, hr_pGroupMembers, hq_pGroupMembers, he_pGroupMembers⟩
theorem Entry_mk {pKind : Nat} {pNum : Int} {pView : Int} {pClient : Int} {pSerial : Int} {pOpKind : Nat} {pOpAt : Int} {pOpN : Int} {pOpData : List UInt8} {pOpDataA : Option Addr} {pOpDatan pOpDatac : Nat} {pOpOld : List UInt8} {pOpOldA : Option Addr} {pOpOldn pOpOldc : Nat} {pGroupEpoch : Int} {pGroupMembers : List (Int)} {pGroupMembersA : Option Addr} {pGroupMembersn pGroupMembersc : Nat} {pGroupMembersv : List Value} (hu_pKind : pKind < 256) (h1_pNum : -9223372036854775808 ≤ pNum) (h2_pNum : pNum ≤ 9223372036854775807) (h1_pView : -9223372036854775808 ≤ pView) (h2_pView : pView ≤ 9223372036854775807) (h1_pClient : -9223372036854775808 ≤ pClient) (h2_pClient : pClient ≤ 9223372036854775807) (h1_pSerial : -9223372036854775808 ≤ pSerial) (h2_pSerial : pSerial ≤ 9223372036854775807) (hu_pOpKind : pOpKind < 256) (h1_pOpAt : -9223372036854775808 ≤ pOpAt) (h2_pOpAt : pOpAt ≤ 9223372036854775807) (h1_pOpN : -9223372036854775808 ≤ pOpN) (h2_pOpN : pOpN ≤ 9223372036854775807) (hl_pOpData : pOpData.length = pOpDatan) (hc_pOpData : pOpDatan ≤ pOpDatac) (hm_pOpData : pOpDatac ≤ 9223372036854775807) (hr_pOpData : Rd w pOpDataA (bys pOpData)) (hq_pOpData : (pOpData ≠ [] → ∀ a, pOpDataA = some a → Q a.block)) (hl_pOpOld : pOpOld.length = pOpOldn) (hc_pOpOld : pOpOldn ≤ pOpOldc) (hm_pOpOld : pOpOldc ≤ 9223372036854775807) (hr_pOpOld : Rd w pOpOldA (bys pOpOld)) (hq_pOpOld : (pOpOld ≠ [] → ∀ a, pOpOldA = some a → Q a.block)) (h1_pGroupEpoch : -9223372036854775808 ≤ pGroupEpoch) (h2_pGroupEpoch : pGroupEpoch ≤ 9223372036854775807) (hl_pGroupMembers : pGroupMembers.length = pGroupMembersn) (hc_pGroupMembers : pGroupMembersn ≤ pGroupMembersc) (hm_pGroupMembers : pGroupMembersc ≤ 9223372036854775807) (hr_pGroupMembers : Rd w pGroupMembersA pGroupMembersv) (hq_pGroupMembers : (pGroupMembers ≠ [] → ∀ a, pGroupMembersA = some a → Q a.block)) (he_pGroupMembers : Ty.Rows w Q .i64 pGroupMembers pGroupMembersv) : tyEntry.Is w Q (pKind, pNum, pView, pClient, pSerial, (pOpKind, pOpAt, pOpN, pOpData, pOpOld), (pGroupEpoch, pGroupMembers)) [.int .u8 pKind, .int .i64 pNum, .int .i64 pView, .int .i64 pClient, .int .i64 pSerial, .int .u8 pOpKind, .int .i64 pOpAt, .int .i64 pOpN, .slice pOpDataA pOpDatan pOpDatac, .slice pOpOldA pOpOldn pOpOldc, .int .i64 pGroupEpoch, .slice pGroupMembersA pGroupMembersn pGroupMembersc] := ⟨⟨rfl, hu_pKind⟩, ⟨⟨rfl, h1_pNum, h2_pNum⟩, ⟨⟨rfl, h1_pView, h2_pView⟩, ⟨⟨rfl, h1_pClient, h2_pClient⟩, ⟨⟨rfl, h1_pSerial, h2_pSerial⟩, ⟨⟨⟨rfl, hu_pOpKind⟩, ⟨⟨rfl, h1_pOpAt, h2_pOpAt⟩, ⟨⟨rfl, h1_pOpN, h2_pOpN⟩, ⟨⟨_, _, _, rfl, hl_pOpData, hc_pOpData, hm_pOpData, hr_pOpData, hq_pOpData⟩, ⟨_, _, _, rfl, hl_pOpOld, hc_pOpOld, hm_pOpOld, hr_pOpOld, hq_pOpOld⟩⟩⟩⟩⟩, ⟨⟨rfl, h1_pGroupEpoch, h2_pGroupEpoch⟩, ⟨_, _, _, _, rfl, hl_pGroupMembers, hc_pGroupMembers, hm_pGroupMembers, hr_pGroupMembers, hq_pGroupMembers, he_pGroupMembers⟩⟩⟩⟩⟩⟩⟩⟩
theorem State_out {x : StateD} {cs : List Value} (h : tyState.Is w Q x cs) : ∃ (pNum : Int) (pShapeBlocks : Int) (pShapeSize : Int) (pPages : List (PageD)) (pPagesA : Option Addr) (pPagesn pPagesc : Nat) (pPagesv : List Value) (pRows : List (RowD)) (pRowsA : Option Addr) (pRowsn pRowsc : Nat) (pRowsv : List Value) (pGroupEpoch : Int) (pGroupMembers : List (Int)) (pGroupMembersA : Option Addr) (pGroupMembersn pGroupMembersc : Nat) (pGroupMembersv : List Value), x = (pNum, (pShapeBlocks, pShapeSize), pPages, pRows, (pGroupEpoch, pGroupMembers)) ∧ cs = [.int .i64 pNum, .int .i64 pShapeBlocks, .int .i64 pShapeSize, .slice pPagesA pPagesn pPagesc, .slice pRowsA pRowsn pRowsc, .int .i64 pGroupEpoch, .slice pGroupMembersA pGroupMembersn pGroupMembersc] ∧ -9223372036854775808 ≤ pNum ∧ pNum ≤ 9223372036854775807 ∧ -9223372036854775808 ≤ pShapeBlocks ∧ pShapeBlocks ≤ 9223372036854775807 ∧ -9223372036854775808 ≤ pShapeSize ∧ pShapeSize ≤ 9223372036854775807 ∧ pPages.length = pPagesn ∧ pPagesn ≤ pPagesc ∧ pPagesc ≤ 9223372036854775807 ∧ Rd w pPagesA pPagesv ∧ (pPages ≠ [] → ∀ a, pPagesA = some a → Q a.block) ∧ Ty.Rows w Q tyPage pPages pPagesv ∧ pRows.length = pRowsn ∧ pRowsn ≤ pRowsc ∧ pRowsc ≤ 9223372036854775807 ∧ Rd w pRowsA pRowsv ∧ (pRows ≠ [] → ∀ a, pRowsA = some a → Q a.block) ∧ Ty.Rows w Q tyRow pRows pRowsv ∧ -9223372036854775808 ≤ pGroupEpoch ∧ pGroupEpoch ≤ 9223372036854775807 ∧ pGroupMembers.length = pGroupMembersn ∧ pGroupMembersn ≤ pGroupMembersc ∧ pGroupMembersc ≤ 9223372036854775807 ∧ Rd w pGroupMembersA pGroupMembersv ∧ (pGroupMembers ≠ [] → ∀ a, pGroupMembersA = some a → Q a.block) ∧ Ty.Rows w Q .i64 pGroupMembers pGroupMembersv := by
  obtain ⟨c0, c1, c2, c3, c4, c5, c6, rfl⟩ := list_7 (h.len : cs.length = 7)
  obtain ⟨pNum, ⟨pShapeBlocks, pShapeSize⟩, pPages, pRows, ⟨pGroupEpoch, pGroupMembers⟩⟩ := x
  obtain ⟨⟨rfl, h1_pNum, h2_pNum⟩, ⟨⟨⟨rfl, h1_pShapeBlocks, h2_pShapeBlocks⟩, ⟨rfl, h1_pShapeSize, h2_pShapeSize⟩⟩, ⟨⟨pPagesA, pPagesn, pPagesc, pPagesv, rfl, hl_pPages, hc_pPages, hm_pPages, hr_pPages, hq_pPages, he_pPages⟩, ⟨⟨pRowsA, pRowsn, pRowsc, pRowsv, rfl, hl_pRows, hc_pRows, hm_pRows, hr_pRows, hq_pRows, he_pRows⟩, ⟨⟨rfl, h1_pGroupEpoch, h2_pGroupEpoch⟩, ⟨pGroupMembersA, pGroupMembersn, pGroupMembersc, pGroupMembersv, rfl, hl_pGroupMembers, hc_pGroupMembers, hm_pGroupMembers, hr_pGroupMembers, hq_pGroupMembers, he_pGroupMembers⟩⟩⟩⟩⟩⟩ := h
  exact ⟨pNum, pShapeBlocks, pShapeSize, pPages, pPagesA, pPagesn, pPagesc, pPagesv, pRows, pRowsA, pRowsn, pRowsc, pRowsv, pGroupEpoch, pGroupMembers, pGroupMembersA, pGroupMembersn, pGroupMembersc, pGroupMembersv, rfl, rfl, h1_pNum, h2_pNum, h1_pShapeBlocks, h2_pShapeBlocks, h1_pShapeSize, h2_pShapeSize, hl_pPages, hc_pPages, hm_pPages, hr_pPages, hq_pPages, he_pPages, hl_pRows, hc_pRows, hm_pRows, hr_pRows, hq_pRows, he_pRows, h1_pGroupEpoch, h2_pGroupEpoch, hl_pGroupMembers, hc_pGroupMembers, hm_pGroupMembers, hr_pGroupMembers, hq_pGroupMembers, he_pGroupMembers⟩
theorem State_mk {pNum : Int} {pShapeBlocks : Int} {pShapeSize : Int} {pPages : List (PageD)} {pPagesA : Option Addr} {pPagesn pPagesc : Nat} {pPagesv : List Value} {pRows : List (RowD)} {pRowsA : Option Addr} {pRowsn pRowsc : Nat} {pRowsv : List Value} {pGroupEpoch : Int} {pGroupMembers : List (Int)} {pGroupMembersA : Option Addr} {pGroupMembersn pGroupMembersc : Nat} {pGroupMembersv : List Value} (h1_pNum : -9223372036854775808 ≤ pNum) (h2_pNum : pNum ≤ 9223372036854775807) (h1_pShapeBlocks : -9223372036854775808 ≤ pShapeBlocks) (h2_pShapeBlocks : pShapeBlocks ≤ 9223372036854775807) (h1_pShapeSize : -9223372036854775808 ≤ pShapeSize) (h2_pShapeSize : pShapeSize ≤ 9223372036854775807) (hl_pPages : pPages.length = pPagesn) (hc_pPages : pPagesn ≤ pPagesc) (hm_pPages : pPagesc ≤ 9223372036854775807) (hr_pPages : Rd w pPagesA pPagesv) (hq_pPages : (pPages ≠ [] → ∀ a, pPagesA = some a → Q a.block)) (he_pPages : Ty.Rows w Q tyPage pPages pPagesv) (hl_pRows : pRows.length = pRowsn) (hc_pRows : pRowsn ≤ pRowsc) (hm_pRows : pRowsc ≤ 9223372036854775807) (hr_pRows : Rd w pRowsA pRowsv) (hq_pRows : (pRows ≠ [] → ∀ a, pRowsA = some a → Q a.block)) (he_pRows : Ty.Rows w Q tyRow pRows pRowsv) (h1_pGroupEpoch : -9223372036854775808 ≤ pGroupEpoch) (h2_pGroupEpoch : pGroupEpoch ≤ 9223372036854775807) (hl_pGroupMembers : pGroupMembers.length = pGroupMembersn) (hc_pGroupMembers : pGroupMembersn ≤ pGroupMembersc) (hm_pGroupMembers : pGroupMembersc ≤ 9223372036854775807) (hr_pGroupMembers : Rd w pGroupMembersA pGroupMembersv) (hq_pGroupMembers : (pGroupMembers ≠ [] → ∀ a, pGroupMembersA = some a → Q a.block)) (he_pGroupMembers : Ty.Rows w Q .i64 pGroupMembers pGroupMembersv) : tyState.Is w Q (pNum, (pShapeBlocks, pShapeSize), pPages, pRows, (pGroupEpoch, pGroupMembers)) [.int .i64 pNum, .int .i64 pShapeBlocks, .int .i64 pShapeSize, .slice pPagesA pPagesn pPagesc, .slice pRowsA pRowsn pRowsc, .int .i64 pGroupEpoch, .slice pGroupMembersA pGroupMembersn pGroupMembersc] := ⟨⟨rfl, h1_pNum, h2_pNum⟩, ⟨⟨⟨rfl, h1_pShapeBlocks, h2_pShapeBlocks⟩, ⟨rfl, h1_pShapeSize, h2_pShapeSize⟩⟩, ⟨⟨_, _, _, _, rfl, hl_pPages, hc_pPages, hm_pPages, hr_pPages, hq_pPages, he_pPages⟩, ⟨⟨_, _, _, _, rfl, hl_pRows, hc_pRows, hm_pRows, hr_pRows, hq_pRows, he_pRows⟩, ⟨⟨rfl, h1_pGroupEpoch, h2_pGroupEpoch⟩, ⟨_, _, _, _, rfl, hl_pGroupMembers, hc_pGroupMembers, hm_pGroupMembers, hr_pGroupMembers, hq_pGroupMembers, he_pGroupMembers⟩⟩⟩⟩⟩⟩
end
end Go.Px
namespace Go.Px
set_option maxRecDepth 20000
open Go.RowKit
theorem Blk.lo {w w' : World} {g B : Nat} {vs : List Value} {T : TypeId} (h : Blk w g vs T) (hb : Below B w w') (hg : g < B) : Blk w' g vs T := (hb.block g hg).trans h
theorem Rd.upset {w : World} {A : Option Addr} {xs : List Value} {B g j : Nat} {u : Value} (h : Rd w A xs) (hu : ∀ a, A = some a → B ≤ a.block) (hg : g < B) : Rd (w.setCell ⟨g, j, none⟩ u) A xs := fun k v hk => by
  obtain ⟨a, rfl, hc⟩ := h k v hk
  have := hu a rfl
  refine ⟨a, rfl, ?_⟩
  rw [World.cell?_setCell_far w ⟨g, j, none⟩ _ u (by rw [add_block]; show g ≠ a.block; omega)]
  exact hc
section
variable {P : Program} {w : World}
theorem results_cell2 {fn : Func} {t t2 : Tmp} {T : TypeId} (h : fn.results = #[.cell t T, .tmp t2]) {tmps : Array Value} {b : Nat} (hx : tmps.getD t undef = .pointer (some ⟨b, 0, none⟩)) {vs : List Value} {B : TypeId} {d : TypeDesc} (hc : Blk w b vs B)
    (hu : P.underlying T = some d) (hd : d.isRow = true) (hi : (P.info? T).map (·.size) = some vs.length) : (results fn tmps).run P w = .ok (.tuple #[.agg vs.toArray, tmps.getD t2 undef]) w := by
  have := run_loadVar_mid (P := P) w b 0 T vs d hc.range hu hd hi
  have hx' : (tmps[t]?).getD undef = .pointer (some ⟨b, 0, none⟩) := by rw [← hx]; simp [Array.getD_eq_getD_getElem?]
  simp [results, h, hx', asAddr, this]
theorem results_cie {fn : Func} {t t2 t3 : Tmp} {T T3 : TypeId} (h : fn.results = #[.cell t T, .tmp t2, .cell t3 T3]) {tmps : Array Value} {b e : Nat} (hx : tmps.getD t undef = .pointer (some ⟨b, 0, none⟩)) (hy : tmps.getD t3 undef = .pointer (some ⟨e, 0, none⟩)) {vs : List Value} {B : TypeId} {d : TypeDesc} (hc : Blk w b vs B)
    (hu : P.underlying T = some d) (hd : d.isRow = true) (hi : (P.info? T).map (·.size) = some vs.length) {k : IntKind} {u : Int} (he : w.cell? ⟨e, 0, none⟩ = some (.int k u)) (hT : P.underlying T3 = some (.int k)) : (results fn tmps).run P w = .ok (.tuple #[.agg vs.toArray, tmps.getD t2 undef, .int k u]) w := by
  have := run_loadVar_mid (P := P) w b 0 T vs d hc.range hu hd hi
  have hx' : (tmps[t]?).getD undef = .pointer (some ⟨b, 0, none⟩) := by rw [← hx]; simp [Array.getD_eq_getD_getElem?]
  have hy' : (tmps[t3]?).getD undef = .pointer (some ⟨e, 0, none⟩) := by rw [← hy]; simp [Array.getD_eq_getD_getElem?]
  have hl : (loadVar T3 ⟨e, 0, none⟩).run P w = .ok (.int k u) w := by simp [loadVar, run_underlying hT, isAgg, go_sem, he]
  simp [results, h, hx', hy', asAddr, this, hl]
end
end Go.Px
namespace Go.Px
set_option maxRecDepth 20000
open Go.RowKit
def spl (cs : List Value) (off : Nat) (xs : List Value) : List Value := cs.take off ++ xs ++ cs.drop (off + xs.length)
theorem spl_nil (cs : List Value) (off : Nat) : spl cs off [] = cs := by unfold spl; simp
section
variable {P : Program} {w : World}
theorem setRow_same {g : Nat} {cs : List Value} {T : TypeId} (h : Blk w g cs T) : w.setRow g cs.toArray = w := setRow_self w g cs.toArray T (0, 0) h
theorem run_copyB {g : Nat} {cs : List Value} {T dT sT ty e : TypeId} {bytes : Nat} (hB : Blk w g cs T) (hT : SlT P dT e 1 bytes) {off dLen dCap m c : Nat} {A : Option Addr} {ys : List Value} (hys : ys.length = m) (hr : Rd w A ys) (h1 : ∀ u ∈ ys, u.oneCell' = true) (hfit : off + min m dLen ≤ cs.length) :
    (Builtin.copy_ #[dT, sT] ty #[.slice (some ⟨g, off, none⟩) dLen dCap, .slice A m c]).run P w = .ok (goInt (min m dLen : Nat)) (w.setRow g (spl cs off (ys.take dLen)).toArray) := by
  obtain ⟨hu, ⟨i, z, hi, hz, hsz, hby, hzs⟩, hp⟩ := hT
  have hsz' : (P.info? e).map (·.size) = some 1 := by rw [hi]; simp [hsz]
  have hl : (ys.take dLen).length = min m dLen := by rw [List.length_take, hys]; exact Nat.min_comm _ _
  by_cases h0 : min m dLen = 0
  · have hnil : ys.take dLen = [] := List.eq_nil_of_length_eq_zero (by omega)
    rw [hnil, spl_nil, setRow_same hB, h0]
    exact run_copy_none (P := P) w dT sT ty e _ A dLen dCap m c hu hsz' h0
  · obtain ⟨ad, rfl, hat⟩ := hr.some_of (by omega)
    have := run_copy_row (P := P) w dT sT ty e g off dLen dCap ad m c cs.toArray T (ys.take dLen) hu hsz' hB hl (fun j v hv => hat j v (by
      rw [List.getElem?_take] at hv
      split at hv
      · exact hv
      · cases hv)) (by rw [hl]; simpa using hfit) (fun u hu => h1 u (List.mem_of_mem_take hu))
    rw [this, hl]
    unfold spl
    rw [hl]
theorem run_clearB {g : Nat} {cs : List Value} {T dT ty e : TypeId} {zv : Value} (hB : Blk w g cs T) (hu : P.underlying dT = some (.slice e)) (hz : (zeroValue e).run P w = .ok zv w) (hc : zv.cells = #[zv]) (h1 : zv.oneCell' = true) {off n c : Nat} (hfit : off + n ≤ cs.length) :
    (Builtin.clear_ #[dT] ty #[.slice (some ⟨g, off, none⟩) n c]).run P w = .ok (.tuple #[]) (w.setRow g (spl cs off (List.replicate n zv)).toArray) := by
  cases n with
  | zero =>
    rw [show List.replicate 0 zv = [] from rfl, spl_nil, setRow_same hB]
    simp [Builtin.clear_, run_underlying hu]
  | succ n =>
    have hst := run_storeCells_at P g off T (List.replicate (n + 1) zv) 0 cs.toArray w hB (by simpa using hfit) (fun v hv => by rw [List.eq_of_mem_replicate hv]; exact h1)
    have hzc : (Builtin.zeroCells #[zv] (n + 1)).toList = List.replicate (n + 1) zv := by
      have : Builtin.zeroCells #[zv] (n + 1) = Array.replicate (n + 1) zv := by
        unfold Builtin.zeroCells
        apply Array.ext
        · simp
        · intro i h1 h2
          simp [Nat.mod_one]
      rw [this]; simp
    have hrun : (Builtin.clear_ #[dT] ty #[.slice (some ⟨g, off, none⟩) (n + 1) c]).run P w = ((storeCells ⟨g, off, none⟩ (Builtin.zeroCells #[zv] (n + 1)).toList).run P w).andThen fun _ w' => .ok (.tuple #[]) w' := by
      simp [Builtin.clear_, run_underlying hu, hz, hc]
    rw [hrun, hzc, hst]
    simp only [Result.andThen_ok]
    unfold spl
    simp
theorem run_mkB {t e : TypeId} {z : Value} {bytes : Nat} (hu : P.underlying t = some (.slice e)) (hinf : (P.info? e).map (fun i => (i.zero, i.size, i.bytes)) = some (some z, 1, bytes)) (hz : z.cells = #[z]) {N : Nat} (hN : N * bytes ≤ 140737488355328) (h63 : N ≤ 140737488355328) (W : World) :
    (Instr.makeSlice t (.int .i64 (N : Int)) (.int .i64 (N : Int))).run P W = .ok (.slice (some ⟨W.heap.size, 0, none⟩) N N) (W.alloc (.cells (List.replicate N z).toArray e)) := by
  cases hi : P.info? e with
  | none => rw [hi] at hinf; cases hinf
  | some i =>
    rw [hi] at hinf
    simp only [Option.map_some, Option.some.injEq, Prod.mk.injEq] at hinf
    obtain ⟨h1, h2, h3⟩ := hinf
    have hbz : i.bytes * N ≤ 281474976710656 := by rw [h3, Nat.mul_comm]; omega
    have hr := run_make (P := P) W t e i z hu hi h1 .i64 .i64 (N : Int) (N : Int) (by omega) (by omega) (by
      have h2 : ((i.bytes * N : Nat) : Int) ≤ 281474976710656 := by omega
      rwa [Int.natCast_mul] at h2) (by omega)
    simp only [Int.toNat_natCast, h2, Nat.mul_one, hz] at hr
    rw [hr]
    have : madeCells #[z] N = (List.replicate N z).toArray := by
      rw [← toList_madeCells_one z N]
    rw [this]
end
end Go.Px
namespace Go.Px
set_option maxRecDepth 20000
open Go.RowKit
theorem step_own {P : Program} {ops : Array Oper} {o : Oper} {a : Act} {w : World} {K : Act → World → Prop} {Q : Exit → Act → World → Prop} {E : Prop}
    (hg : o.guard = none) {s x : Operand} {t : TypeId} (ho : o.op = .call { callee := .builtin .append, args := #[s, x], argTypes := #[t, t] })
    {base e size bytes : Nat} (T : SlT P t e size bytes) {v : Value} {n : Nat} {xs : List Value} (hs : a.eval s = v) (hown : w.ownsRow base e size v n xs)
    {A : Option Addr} {m c : Nat} {news : List Value} (hx : a.eval x = .slice A m c) (hl : news.length = m * size) (hr : Rd w A news) (h1 : ∀ u ∈ news, u.oneCell' = true)
    (hb : (n + m) * bytes ≤ 140737488355328) (h63 : n + m ≤ 140737488355328) (hbase : base ≤ w.heap.size)
    (h : ∀ v' w', w'.ownsRow base e size v' (n + m) (xs ++ news) → w.grownBy w' v.ownBlock → (v'.ownBlock = v.ownBlock ∨ v'.ownBlock = some w.heap.size) → K (a.put o.dst v') w') :
    if Region.wanted o (yielded ops a.tmps) = true then Oper.wp P o a w K Q else E := by
  have hw : Region.wanted o (yielded ops a.tmps) = true := by simp [Region.wanted, hg]
  rw [if_pos hw]
  obtain ⟨v', w', hrun, h2, h3, h4⟩ := run_append_rd (P := P) (ty := o.type) (c := c) T hown hl hr h1 hb h63 hbase
  unfold Oper.wp execOp
  simp only [ho, resolve, invoke, builtin, Sem.run_bind, Sem.run_pure, Result.andThen_ok, List.map_toArray, List.map_cons, List.map_nil, hs, hx, hrun]
  exact h v' w' h2 h3 h4
end Go.Px
namespace Go.Px
set_option maxRecDepth 20000
open Go.RowKit
/-- A world of a class. -/
structure InC (C : World → Prop) where
  W : World
  h : C W
instance inC_below (w : World) : Nonempty (InC fun W => Below w.heap.size w W) := ⟨⟨w, Below.refl _ _⟩⟩
theorem wp_region_in {P : Program} {id : Nat} {Q : Exit → Act → World → Prop} {a : Act} {w : World} {l : List Oper} (C : World → Prop) (hC : C w.drew) (hm : P.follows .mixedOrders = true) (hB : Region.lexB .any l.toArray = true)
    (h : wpQuiet P l.toArray (fun w' => ∃ x : InC C, w' = x.W) (fun a' => ∀ w', (∃ x : InC C, w' = x.W) → Q .normal a' w') l a) : (Code.region id l.toArray true).wp P Q a w :=
  wp_region_quiet (C := fun w' => ∃ x : InC C, w' = x.W) hm hB ⟨⟨_, hC⟩, rfl⟩ (by simpa using h)
theorem Calls.in_of {P : Program} {f : FuncId} {args : Array Value} {C : World → Prop} {x : InC C} {v : Value} (h : Calls P f args x.W fun e w' => e = .returned v ∧ C w') : Calls P f args x.W fun e w' => e = .returned v ∧ ∃ y : InC C, w' = y.W :=
  h.mono fun _ w' ⟨he, hb⟩ => ⟨he, ⟨⟨w', hb⟩, rfl⟩⟩
theorem Calls.in_same {P : Program} {f : FuncId} {args : Array Value} {C : World → Prop} {x : InC C} {v : Value} (h : Calls P f args x.W fun e w' => e = .returned v ∧ x.W = w') : Calls P f args x.W fun e w' => e = .returned v ∧ ∃ y : InC C, w' = y.W :=
  h.mono fun _ _ ⟨he, hb⟩ => ⟨he, x, hb.symm⟩
theorem Calls.in_below {P : Program} {f : FuncId} {args : Array Value} {w : World} {x : InC (fun W => Below w.heap.size w W)} {v : Value} (h : Calls P f args x.W fun e w' => e = .returned v ∧ Below x.W.heap.size x.W w') : Calls P f args x.W fun e w' => e = .returned v ∧ ∃ y : InC (fun W => Below w.heap.size w W), w' = y.W :=
  h.mono fun _ w' ⟨he, hb⟩ => ⟨he, ⟨w', x.h.trans (hb.mono x.h.size)⟩, rfl⟩
theorem below_cell {w w' : World} (hb : Below w.heap.size w w') {a : Addr} {u : Value} (h : w.cell? a = some u) : w'.cell? a = some u := (hb.cell (p := a) (World.block_lt_of_cell? w _ h)).trans h
end Go.Px
namespace Go.Px
set_option maxRecDepth 20000
/-- Members ascend, from behind a on, and are below 64. -/
def nodesOk : Int → List Int → Bool
  | _, [] => true
  | a, m :: l => decide (a < m) && (decide (m < 64) && nodesOk m l)
def numB (v : Int) : Bool := decide (0 ≤ v ∧ v ≤ 4611686018427387904)
def nodeB (v : Int) : Bool := decide (0 ≤ v ∧ v < 64)
def grpOk (e : Int) (ms : List Int) : Bool := decide (0 ≤ e ∧ e ≤ 4611686018427387904) && (decide (1 ≤ ms.length ∧ ms.length ≤ 9) && nodesOk (-1) ms)
theorem nodesOk_step {a : Int} {ms : List Int} {k : Nat} (h : k < ms.length) : nodesOk a (ms.drop k) = (decide (a < ms[k]) && (decide (ms[k] < 64) && nodesOk ms[k] (ms.drop (k + 1)))) := by
  rw [List.drop_eq_getElem_cons h]; rfl
theorem nodesOk_bad {a : Int} {ms : List Int} {k : Nat} (h : k < ms.length) (hb : ms[k] ≤ a ∨ 64 ≤ ms[k]) : nodesOk a (ms.drop k) = false := by
  rw [nodesOk_step h]
  rcases hb with hb | hb
  · rw [decide_eq_false (by omega)]; rfl
  · rw [decide_eq_false (show ¬ ms[k] < 64 by omega)]; simp
theorem nodesOk_good {a : Int} {ms : List Int} {k : Nat} (h : k < ms.length) (h1 : a < ms[k]) (h2 : ms[k] < 64) : nodesOk a (ms.drop k) = nodesOk ms[k] (ms.drop (k + 1)) := by
  rw [nodesOk_step h, decide_eq_true h1, decide_eq_true h2]; rfl
theorem nodesOk_end {a : Int} {ms : List Int} {k : Nat} (h : ms.length ≤ k) : nodesOk a (ms.drop k) = true := by
  rw [List.drop_eq_nil_of_le h]; rfl
/-- The one ahead of place k. -/
def prevI (ms : List Int) (k : Nat) : Int := if k = 0 then -1 else ms.getD (k - 1) 0
theorem grpOk_len {e : Int} {ms : List Int} (h : grpOk e ms = true) : 1 ≤ ms.length ∧ ms.length ≤ 9 := by
  unfold grpOk at h
  simp only [Bool.and_eq_true, decide_eq_true_eq] at h
  exact h.2.1
theorem grpOk_num {e : Int} {ms : List Int} (h : grpOk e ms = true) : 0 ≤ e ∧ e ≤ 4611686018427387904 := by
  unfold grpOk at h
  simp only [Bool.and_eq_true, decide_eq_true_eq] at h
  exact h.1
theorem grpOk_nodes {e : Int} {ms : List Int} (h : grpOk e ms = true) : nodesOk (-1) ms = true := by
  unfold grpOk at h
  simp only [Bool.and_eq_true, decide_eq_true_eq] at h
  exact h.2.2
end Go.Px
namespace Go.Px
set_option maxRecDepth 20000
/-- The number that bytes are, the lowest first. -/
def numN : List UInt8 → Nat
  | [] => 0
  | b :: l => b.toNat + 256 * numN l
/-- k bytes of a number, the lowest first. -/
def leB : Nat → Nat → List UInt8
  | 0, _ => []
  | k + 1, v => UInt8.ofNat (v % 256) :: leB k (v / 256)
theorem leB_length (k v : Nat) : (leB k v).length = k := by
  induction k generalizing v with
  | zero => rfl
  | succ k ih => simp [leB, ih]
theorem toNat_ofNat_mod (m : Nat) : (UInt8.ofNat (m % 256)).toNat = m % 256 := by
  simp
theorem leB_snoc (k v : Nat) : leB (k + 1) v = leB k v ++ [UInt8.ofNat (v / 256 ^ k % 256)] := by
  induction k generalizing v with
  | zero => simp [leB]
  | succ k ih =>
    rw [leB, ih (v / 256), leB, List.cons_append, Nat.div_div_eq_div_mul, Nat.pow_succ']
theorem numN_lt (l : List UInt8) : numN l < 256 ^ l.length := by
  induction l with
  | nil => simp [numN]
  | cons b l ih =>
    have hb := b.toNat_lt
    rw [numN, List.length_cons, Nat.pow_succ]; omega
theorem numN_snoc (l : List UInt8) (b : UInt8) : numN (l ++ [b]) = numN l + 256 ^ l.length * b.toNat := by
  induction l with
  | nil => simp [numN]
  | cons c l ih => rw [List.cons_append, numN, ih, numN, List.length_cons, Nat.pow_succ']; rw [Nat.mul_add, Nat.mul_assoc]; omega
theorem numN_take_succ (l : List UInt8) (k : Nat) (h : k < l.length) : numN (l.take (k + 1)) = numN (l.take k) + 256 ^ k * (l[k]).toNat := by
  rw [List.take_succ_eq_append_getElem h, numN_snoc]; simp [Nat.min_eq_left (Nat.le_of_lt h)]
theorem numN_drop (l : List UInt8) (t : Nat) (h : t < l.length) : numN (l.drop t) = numN (l.drop (t + 1)) * 256 + (l[t]).toNat := by
  rw [List.drop_eq_getElem_cons h, numN]; omega
theorem numN_drop_lt (l : List UInt8) (t : Nat) (h : l.length ≤ 8) : numN (l.drop (t + 1)) < 72057594037927936 := by
  refine Nat.lt_of_lt_of_le (numN_lt _) ?_
  have : 256 ^ (l.drop (t + 1)).length ≤ 256 ^ 7 := Nat.pow_le_pow_right (by decide) (by rw [List.length_drop]; omega)
  exact Nat.le_trans this (by decide)
theorem pow256_le {k : Nat} (h : k ≤ 8) : 256 ^ k ≤ 18446744073709551616 := Nat.le_trans (Nat.pow_le_pow_right (by decide) h) (by decide)
theorem pow256_two (k : Nat) : 256 ^ k = 2 ^ (8 * k) := by rw [Nat.pow_mul]
/-- v |= b << (8 k), where v has less than 8 k bits. -/
theorem or_shift_u64 (a c k : Nat) (ha : a < 256 ^ k) (hc : c < 256) (hk : k < 8) :
    bits .or .u64 (a : Int) (IntKind.u64.wrap (IntKind.u64.wrap (c : Int) * 2 ^ (8 * k))) = ((a + 256 ^ k * c : Nat) : Int) := by
  have hp : 256 ^ (k + 1) ≤ 18446744073709551616 := pow256_le (by omega)
  have hk1 : 256 ^ k ≤ 72057594037927936 := Nat.le_trans (Nat.pow_le_pow_right (by decide) (show k ≤ 7 by omega)) (by decide)
  have hc1 : 256 ^ k * c < 18446744073709551616 := by
    have : 256 ^ k * c ≤ 256 ^ k * 255 := Nat.mul_le_mul_left _ (by omega)
    omega
  have e1 : IntKind.u64.wrap (c : Int) = (c : Int) := IntWalk.u64_in _ (by omega)
  have e2 : (c : Int) * 2 ^ (8 * k) = ((256 ^ k * c : Nat) : Int) := by
    rw [pow256_two, Int.natCast_mul, Int.natCast_pow, Int.mul_comm]; rfl
  rw [e1, e2, IntWalk.u64_in _ (by omega), u64_or_nat _ _ (by omega) (by omega)]
  rw [Nat.or_comm, pow256_two, Nat.mul_comm, ← Nat.shiftLeft_eq, ← Nat.shiftLeft_add_eq_or_of_lt (by rw [← pow256_two]; exact ha), Nat.add_comm]
/-- Put's error of a number: 1, 5 or 0. -/
def fitsE (v : Nat) (n : Int) : Int := if 1 ≤ n ∧ n ≤ 8 then (if v < 256 ^ n.toNat then 0 else 5) else 1
theorem fitsE_cases (v : Nat) (n : Int) : fitsE v n = 0 ∨ fitsE v n = 1 ∨ fitsE v n = 5 := by unfold fitsE; split <;> (try split) <;> simp
theorem fitsE_zero {v : Nat} {n : Int} (h : fitsE v n = 0) : 1 ≤ n ∧ n ≤ 8 ∧ v < 256 ^ n.toNat := by
  unfold fitsE at h; split at h
  · split at h
    · rename_i a b; exact ⟨a.1, a.2, b⟩
    · cases h
  · cases h
/-- The first error of some numbers. -/
def allE (n : Int) : List Nat → Int
  | [] => 0
  | v :: l => if fitsE v n = 0 then allE n l else fitsE v n
theorem allE_at (n : Int) (l : List Nat) (k : Nat) (hk : k < l.length) (h : allE n (l.take k) = 0) (hf : fitsE l[k] n ≠ 0) : allE n l = fitsE l[k] n := by
  induction l generalizing k with
  | nil => simp at hk
  | cons v l ih =>
    rcases k with _ | k
    · simp only [List.getElem_cons_zero] at hf ⊢; rw [allE, if_neg hf]
    · simp only [List.take_succ_cons, allE] at h
      split at h
      · rename_i hv
        simp only [List.getElem_cons_succ] at hf ⊢
        rw [allE, if_pos hv]; exact ih k (by simpa using hk) h hf
      · contradiction
theorem allE_snoc (n : Int) (l : List Nat) (k : Nat) (hk : k < l.length) (h : allE n (l.take k) = 0) (hf : fitsE l[k] n = 0) : allE n (l.take (k + 1)) = 0 := by
  induction l generalizing k with
  | nil => simp at hk
  | cons v l ih =>
    rcases k with _ | k
    · simp only [List.getElem_cons_zero] at hf; simp [allE, hf]
    · simp only [List.take_succ_cons, allE] at h ⊢
      split at h
      · rename_i hv
        rw [if_pos hv]
        exact ih k (by simpa using hk) h (by simpa using hf)
      · rename_i hv; exact absurd h hv
theorem allE_mem {n : Int} {l : List Nat} (h : allE n l = 0) : ∀ v ∈ l, fitsE v n = 0 := by
  induction l with
  | nil => simp
  | cons v l ih =>
    rw [allE] at h
    split at h
    · rename_i hv; intro u hu; rcases List.mem_cons.1 hu with rfl | hu
      · exact hv
      · exact ih h u hu
    · rename_i hv; exact absurd h hv
def putB (bs : List UInt8) (v : Nat) (n : Int) : List UInt8 := if fitsE v n = 0 then bs ++ leB n.toNat v else []
def flatB (k : Nat) (l : List Nat) : List UInt8 := l.flatMap (leB k)
theorem flatB_length (k : Nat) (l : List Nat) : (flatB k l).length = l.length * k := by
  induction l with
  | nil => simp [flatB]
  | cons v l ih => simp only [flatB, List.flatMap_cons, List.length_append, leB_length, List.length_cons] at *; rw [ih, Nat.succ_mul]; omega
theorem flatB_snoc (k : Nat) (l : List Nat) (j : Nat) (h : j < l.length) : flatB k (l.take (j + 1)) = flatB k (l.take j) ++ leB k l[j] := by
  rw [List.take_succ_eq_append_getElem h, flatB, flatB, List.flatMap_append]; simp
def putAllB (bs : List UInt8) (l : List Nat) (n : Int) : List UInt8 := if allE n l = 0 then bs ++ flatB n.toNat l else []
/-- A text's bytes. -/
def textB (s : List UInt8) : List UInt8 := leB 4 s.length ++ s
def putTextE (s : List UInt8) : Int := if s.length ≤ 16777216 then 0 else 2
def putTextB (bs s : List UInt8) : List UInt8 := if s.length ≤ 16777216 then bs ++ textB s else []
/-- Get's error. -/
def getE (bs : List UInt8) (at_ n : Int) : Int := if 1 ≤ n ∧ n ≤ 8 then (if 0 ≤ at_ ∧ at_ ≤ bs.length then (if bs.length - at_ < n then 10 else 0) else 5) else 1
def getV (bs : List UInt8) (at_ n : Int) : Nat := if getE bs at_ n = 0 then numN ((bs.drop at_.toNat).take n.toNat) else 0
def getI (bs : List UInt8) (at_ n : Int) : Int := if getE bs at_ n = 0 then at_ + n else 0
theorem getE_zero {bs : List UInt8} {at_ n : Int} (h : getE bs at_ n = 0) : 1 ≤ n ∧ n ≤ 8 ∧ 0 ≤ at_ ∧ at_ ≤ bs.length ∧ at_ + n ≤ bs.length := by
  unfold getE at h; split at h
  · split at h
    · split at h
      · cases h
      · omega
    · cases h
  · cases h
theorem getV_lt (bs : List UInt8) (at_ n : Int) : getV bs at_ n < 256 ^ n.toNat := by
  unfold getV; split
  · refine Nat.lt_of_lt_of_le (numN_lt _) (Nat.pow_le_pow_right (by decide) ?_)
    rw [List.length_take]; omega
  · exact Nat.pow_pos (by decide)
/-- GetText's error, its text, the place behind. -/
def textE (bs : List UInt8) (at_ : Int) : Int :=
  if getE bs at_ 4 = 0 then (if getV bs at_ 4 ≤ 16777216 then (if at_ + 4 + getV bs at_ 4 ≤ bs.length then 0 else 10) else 2) else getE bs at_ 4
def textS (bs : List UInt8) (at_ : Int) : List UInt8 := if textE bs at_ = 0 then (bs.drop (at_.toNat + 4)).take (getV bs at_ 4) else []
def textI (bs : List UInt8) (at_ : Int) : Int := if textE bs at_ = 0 then at_ + 4 + getV bs at_ 4 else 0
end Go.Px
namespace Go.Px
set_option maxRecDepth 20000
open Go.RowKit
set_option linter.unusedVariables false
theorem wpOp_k {P : Program} {ops : Array Oper} {i : Nat} {o : Oper} {a : Act} {K : Act → World → Prop} {Q : Exit → Act → World → Prop} {w : World} (ho : ops[i]? = some o) (hg : o.guard = none)
    (h : ∀ K' : Act → World → Prop, (∀ a w, K a w → K' a w) → o.wp P a w K' Q) : wpOp P ops Q i K a w := by
  unfold wpOp
  simp only [ho]
  rw [if_pos (by simp [Region.wanted, hg])]
  exact .inl (h K fun _ _ h => h)
theorem all_one {P : Program} {md : Region.Mode} {ops : Array Oper} {Q : Exit → Act → World → Prop} {S : World → Prop} {i : Nat} {o : Oper} {fuel : Nat} {listed : Array Bool} {a : Act} {w : World} (hr : Region.ready md ops listed = [i]) (ho : ops[i]? = some o) (hg : o.guard = none)
    (h : ∀ K' : Act → World → Prop, (∀ a' w', S w' ∧ wpAnyH P md ops Q S fuel (listed.setIfInBounds i true) a' w' → K' a' w') → o.wp P a w K' Q) : wpAnyH P md ops Q S (fuel + 1) listed a w :=
  wpAnyH_all hr (by simp) (fun j hj => by
    rw [List.mem_singleton] at hj
    subst hj
    exact wpOp_k ho hg h)
theorem any_one {P : Program} {md : Region.Mode} {ops : Array Oper} {Q : Exit → Act → World → Prop} {i : Nat} {o : Oper} {fuel : Nat} {listed : Array Bool} {a : Act} {w : World} (hr : Region.ready md ops listed = [i]) (ho : ops[i]? = some o) (hg : o.guard = none)
    (h : ∀ K' : Act → World → Prop, (∀ a' w', wpAny P md ops Q fuel (listed.setIfInBounds i true) a' w' → K' a' w') → o.wp P a w K' Q) : wpAny P md ops Q (fuel + 1) listed a w :=
  ⟨fun h0 => by rw [hr] at h0; (cases h0), fun j hj => by
    rw [hr, List.mem_singleton] at hj
    subst hj
    exact wpOp_k ho hg h⟩
theorem any_two {P : Program} {md : Region.Mode} {ops : Array Oper} {Q : Exit → Act → World → Prop} {i j : Nat} {o o2 : Oper} {fuel : Nat} {listed : Array Bool} {a : Act} {w : World} (hr : Region.ready md ops listed = [i, j]) (ho : ops[i]? = some o) (hg : o.guard = none) (ho2 : ops[j]? = some o2) (hg2 : o2.guard = none)
    (h : ∀ K' : Act → World → Prop, (∀ a' w', wpAny P md ops Q fuel (listed.setIfInBounds i true) a' w' → K' a' w') → o.wp P a w K' Q)
    (h2 : ∀ K' : Act → World → Prop, (∀ a' w', wpAny P md ops Q fuel (listed.setIfInBounds j true) a' w' → K' a' w') → o2.wp P a w K' Q) : wpAny P md ops Q (fuel + 1) listed a w :=
  ⟨fun h0 => by rw [hr] at h0; (cases h0), fun k hk => by
    rw [hr] at hk
    simp only [List.mem_cons, List.not_mem_nil, or_false] at hk
    rcases hk with rfl | rfl
    · exact wpOp_k ho hg h
    · exact wpOp_k ho2 hg2 h2⟩
theorem all_two {P : Program} {md : Region.Mode} {ops : Array Oper} {Q : Exit → Act → World → Prop} {S : World → Prop} {i j : Nat} {o o2 : Oper} {fuel : Nat} {listed : Array Bool} {a : Act} {w : World} (hr : Region.ready md ops listed = [i, j]) (ho : ops[i]? = some o) (hg : o.guard = none) (ho2 : ops[j]? = some o2) (hg2 : o2.guard = none)
    (h : ∀ K' : Act → World → Prop, (∀ a' w', S w' ∧ wpAnyH P md ops Q S fuel (listed.setIfInBounds i true) a' w' → K' a' w') → o.wp P a w K' Q)
    (h2 : ∀ K' : Act → World → Prop, (∀ a' w', S w' ∧ wpAnyH P md ops Q S fuel (listed.setIfInBounds j true) a' w' → K' a' w') → o2.wp P a w K' Q) : wpAnyH P md ops Q S (fuel + 1) listed a w :=
  wpAnyH_all hr (by simp) (fun k hk => by
    simp only [List.mem_cons, List.not_mem_nil, or_false] at hk
    rcases hk with rfl | rfl
    · exact wpOp_k ho hg h
    · exact wpOp_k ho2 hg2 h2)
/-- append onto a row of the call's own: one operation. -/
theorem oper_own {P : Program} {o : Oper} {a : Act} {w : World} {K : Act → World → Prop} {Q : Exit → Act → World → Prop} {s x : Operand} {t : TypeId} (ho : o.op = .call { callee := .builtin .append, args := #[s, x], argTypes := #[t, t] })
    {base e size bytes : Nat} (T : SlT P t e size bytes) {v : Value} {n : Nat} {xs : List Value} (hs : a.eval s = v) (hown : w.ownsRow base e size v n xs)
    {A : Option Addr} {m c : Nat} {news : List Value} (hx : a.eval x = .slice A m c) (hl : news.length = m * size) (hr : Rd w A news) (h1 : ∀ u ∈ news, u.oneCell' = true)
    (hb : (n + m) * bytes ≤ 140737488355328) (h63 : n + m ≤ 140737488355328) (hbase : base ≤ w.heap.size)
    (h : ∀ v' w', w'.ownsRow base e size v' (n + m) (xs ++ news) → w.grownBy w' v.ownBlock → (v'.ownBlock = v.ownBlock ∨ v'.ownBlock = some w.heap.size) → K (a.put o.dst v') w') : o.wp P a w K Q := by
  obtain ⟨v', w', hrun, h2, h3, h4⟩ := run_append_rd (P := P) (ty := o.type) (c := c) T hown hl hr h1 hb h63 hbase
  unfold Oper.wp execOp
  simp only [ho, resolve, invoke, builtin, Sem.run_bind, Sem.run_pure, Result.andThen_ok, List.map_toArray, List.map_cons, List.map_nil, hs, hx, hrun]
  exact h v' w' h2 h3 h4
def MarksAt (B : Nat) (W : World) (rs : List Nat) : Prop := rs.Nodup ∧ ∀ r ∈ rs, B ≤ r ∧ W.heap[r]? = some (.deferred (some []))
theorem MarksAt.nil (B : Nat) (W : World) : MarksAt B W [] := ⟨List.nodup_nil, fun r h => by cases h⟩
theorem MarksAt.keep {B : Nat} {W W' : World} {rs : List Nat} (h : MarksAt B W rs) (hk : KeepsOthers W W') : MarksAt B W' rs := ⟨h.1, fun r hr => ⟨(h.2 r hr).1, hk.same _ _ (h.2 r hr).2 rfl⟩⟩
theorem MarksAt.cons {B : Nat} {W : World} {rs : List Nat} (h : MarksAt B W rs) {r N : Nat} (hr : W.heap[r]? = some (.deferred (some []))) (hB : B ≤ r) (hN : ∀ k ∈ rs, k < N) (hNr : N ≤ r) : MarksAt B W (r :: rs) :=
  ⟨List.nodup_cons.2 ⟨fun hm => by have := hN r hm; omega, h.1⟩, fun k hk => by
    rcases List.mem_cons.1 hk with rfl | hk
    · exact ⟨hB, hr⟩
    · exact h.2 k hk⟩
theorem MarksAt.lt {B : Nat} {W : World} {rs : List Nat} (h : MarksAt B W rs) : ∀ k ∈ rs, k < W.heap.size := fun k hk => (Array.getElem?_eq_some_iff.1 (h.2 k hk).2).1
/-- What holds cells lies as it lay. -/
def CellsAs (W W' : World) : Prop := ∀ (k : Nat) (o : Obj), o.isCells = true → W.heap[k]? = some o → W'.heap[k]? = some o
theorem CellsAs.cell {W W' : World} (h : CellsAs W W') {p : Addr} {u : Value} (hp : W.cell? p = some u) : W'.cell? p = some u := by
  have hp' := hp
  unfold World.cell? at hp
  cases ho : W.heap[p.block]? with
  | none => rw [ho] at hp; cases hp
  | some o =>
    have hc : o.isCells = true := by
      rw [ho] at hp
      cases o <;> simp_all [Obj.isCells]
    have h2 := h _ o hc ho
    unfold World.cell? at hp' ⊢
    rw [h2]; rw [ho] at hp'; exact hp'
theorem CellsAs.rd {W W' : World} (h : CellsAs W W') {A : Option Addr} {xs : List Value} (hr : Rd W A xs) : Rd W' A xs := hr.keep fun _ _ hp => h.cell hp
end Go.Px
namespace Go.Px
set_option maxRecDepth 20000
open Go.RowKit
set_option linter.unusedVariables false
/-- w' is w, with new blocks, and with other things in the blocks of X. -/
structure Fr (X : Nat → Prop) (w w' : World) : Prop where
  os : w'.os = w.os
  tape : w'.tape = w.tape
  output : w'.output = w.output
  size : w.heap.size ≤ w'.heap.size
  blk : ∀ k, k < w.heap.size → ¬ X k → w'.heap[k]? = w.heap[k]?
section
variable {X Y : Nat → Prop} {w w' w'' : World} {A : Option Addr} {xs : List Value}
theorem Fr.refl (X : Nat → Prop) (w : World) : Fr X w w := ⟨rfl, rfl, rfl, Nat.le_refl _, fun _ _ _ => rfl⟩
theorem Fr.trans (h : Fr X w w') (k : Fr X w' w'') : Fr X w w'' :=
  ⟨k.os.trans h.os, k.tape.trans h.tape, k.output.trans h.output, Nat.le_trans h.size k.size, fun i hi hx => (k.blk i (Nat.lt_of_lt_of_le hi h.size) hx).trans (h.blk i hi hx)⟩
/-- The second may write into blocks that are new to the first, besides. -/
theorem Fr.trans' (h : Fr X w w') (k : Fr Y w' w'') (hY : ∀ b, Y b → X b ∨ w.heap.size ≤ b) : Fr X w w'' :=
  ⟨k.os.trans h.os, k.tape.trans h.tape, k.output.trans h.output, Nat.le_trans h.size k.size, fun i hi hx => (k.blk i (Nat.lt_of_lt_of_le hi h.size) (fun hy => by rcases hY i hy with h | h; exact hx h; omega)).trans (h.blk i hi hx)⟩
theorem Fr.mono (h : Fr X w w') (hX : ∀ b, X b → Y b) : Fr Y w w' := ⟨h.os, h.tape, h.output, h.size, fun i hi hy => h.blk i hi (fun hx => hy (hX i hx))⟩
theorem Fr.of_below (h : Below w.heap.size w w') : Fr X w w' := ⟨h.os, h.tape, h.output, h.size, fun k hk _ => h.block k hk⟩
theorem Fr.of_grown {r : Option Nat} (h : w.grownBy w' r) (hr : ∀ k, r = some k → X k) : Fr X w w' := ⟨h.os, h.tape, h.output, h.size, fun k hk hx => h.block k hk (fun e => hx (hr k e.symm))⟩
theorem Fr.set (w : World) (a : Addr) (u : Value) (ha : X a.block) : Fr X w (w.setCell a u) := ⟨rfl, rfl, rfl, by simp, fun k _ hx => Below.heap_setCell w a u k (fun e => hx (by rw [e]; exact ha))⟩
theorem Fr.drew (h : Fr X w w') : Fr X w w'.drew := ⟨h.os, h.tape, h.output, h.size, h.blk⟩
theorem Fr.below {B : Nat} {a : World} (h : Fr X w w') (hb : Below B a w) (hB : B ≤ w.heap.size) (hX : ∀ k, X k → B ≤ k) : Below B a w' :=
  hb.trans ⟨h.os, h.tape, h.output, by have := h.size; omega, fun i hi => h.blk i (by omega) (fun hx => by have := hX i hx; omega)⟩
theorem Fr.lo {B : Nat} (h : Fr X w w') (hB : B ≤ w.heap.size) (hX : ∀ k, X k → B ≤ k) : Below B w w' := h.below (Below.refl _ _) hB hX
theorem Fr.cell (h : Fr X w w') {a : Addr} {u : Value} (hc : w.cell? a = some u) (hx : ¬ X a.block) : w'.cell? a = some u := by
  have hl := World.block_lt_of_cell? w a hc
  unfold World.cell? at *
  rw [h.blk _ hl hx]; exact hc
theorem Blk.fr {g : Nat} {vs : List Value} {T : TypeId} (hB : Blk w g vs T) (h : Fr X w w') (hx : ¬ X g) : Blk w' g vs T := (h.blk g hB.lt hx).trans hB
theorem Rd.fr (hr : Rd w A xs) (h : Fr X w w') (hx : xs ≠ [] → ∀ a, A = some a → ¬ X a.block) : Rd w' A xs := fun j u hu => by
  obtain ⟨a, rfl, hc⟩ := hr j u hu
  exact ⟨a, rfl, h.cell hc (by rw [add_block]; exact hx (fun e => by rw [e] at hu; simp at hu) a rfl)⟩
theorem Ty.Is.fr {Q : Nat → Prop} {t : Ty} {x : t.Den} {cs : List Value} (h : t.Is w Q x cs) (hf : Fr X w w') (hx : ∀ b, Q b → ¬ X b) : t.Is w' Q x cs :=
  Ty.Is.keep (fun A xs hr hq => hr.fr hf (fun hne a ha => hx _ (hq hne a ha))) (fun _ h => h) t x cs h
theorem Ty.Rows.fr {Q : Nat → Prop} {t : Ty} {xs : List t.Den} {cs : List Value} (h : t.Rows w Q xs cs) (hf : Fr X w w') (hx : ∀ b, Q b → ¬ X b) : t.Rows w' Q xs cs := ⟨h.1, fun j x hj => (h.2 j x hj).fr hf hx⟩
end
end Go.Px
