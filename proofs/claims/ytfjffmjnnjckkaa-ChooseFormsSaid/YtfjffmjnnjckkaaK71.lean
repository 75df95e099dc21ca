/- Texts joined (shake.py). -/
import Derived.WalkKit
import Derived.ProofKit
import Derived.OpenShut
import Derived.JoinedCond
import Derived.Deep.Slices
import Derived.Deep.Draws
import Derived.Maps.AppendAt
import Derived.Laws.CopyOwn
import Derived.Deep.RegionWith
import Derived.Deep.QuietTactic
import Derived.BigQuiet
import Derived.WalkSpells
import Derived.WalkLawsBesides
import Derived.Lib.SlBytesConst
import Derived.Lib.SmallJoins
import Derived.Deep.RegionHeld3
import Derived.Deep.MidRow
import Derived.Deep.WholeRow
namespace Go.Px
open Go.RowKit

@[go_sem] theorem signed_u8 : IntKind.u8.signed = false := rfl
@[go_sem] theorem signed_u16 : IntKind.u16.signed = false := rfl
@[go_sem] theorem signed_u32 : IntKind.u32.signed = false := rfl
@[go_sem] theorem signed_u64 : IntKind.u64.signed = false := rfl
@[go_sem] theorem signed_i64 : IntKind.i64.signed = true := rfl
@[go_sem] theorem max_u32 : IntKind.u32.max = 4294967295 := rfl
@[go_sem] theorem max_u8 : IntKind.u8.max = 255 := rfl

/-! ### hide -/
theorem hide {p : Prop} (h : p) : Hid p := h

/-! ### addresses -/
theorem add_block (a : Addr) (n : Nat) : (a.add n).block = a.block := by unfold Addr.add; split <;> rfl
theorem add_add (a : Addr) (i j : Nat) : (a.add i).add j = a.add (i + j) := by
  unfold Addr.add
  by_cases hi : i = 0 <;> by_cases hj : j = 0 <;> simp [hi, hj, Nat.add_assoc]

/-! ### what a slice reads as: nil let in -/
/-- The cells from an address on hold these values (of no values nothing is asked). -/
def Rd (w : World) (A : Option Addr) (xs : List Value) : Prop := ∀ (j : Nat) (u : Value), xs[j]? = some u → ∃ a, A = some a ∧ w.cell? (a.add j) = some u

section
variable {w w' : World} {A : Option Addr} {xs : List Value}
theorem Rd.nil : Rd w A [] := fun j u h => by simp at h
theorem Rd.get (h : Rd w A xs) {k : Nat} (hk : k < xs.length) : ∃ a, A = some a ∧ w.cell? (a.add k) = some (xs[k]) := h k _ (List.getElem?_eq_getElem hk)
theorem Rd.keep (h : Rd w A xs) (hk : ∀ (p : Addr) u, w.cell? p = some u → w'.cell? p = some u) : Rd w' A xs := fun j u hu =>
  let ⟨a, ha, hc⟩ := h j u hu; ⟨a, ha, hk _ _ hc⟩
theorem Rd.below (h : Rd w A xs) (hb : Below w.heap.size w w') : Rd w' A xs :=
  h.keep fun p _ hu => (hb.cell (p := p) (World.block_lt_of_cell? w p hu)).trans hu
theorem Rd.alloc (h : Rd w A xs) (o : Obj) : Rd (w.alloc o) A xs := h.below ((Below.refl _ _).alloc (Nat.le_refl _) o)
theorem Rd.drew (h : Rd w A xs) : Rd w.drew A xs := h
theorem Rd.drewN (h : Rd w A xs) (k : Nat) : Rd (w.drewN k) A xs := h
/-- A reading of a block below B is kept where below B nothing has turned. -/
def Lo (B : Nat) (A : Option Addr) : Prop := ∀ a, A = some a → a.block < B
theorem Rd.lo (h : Rd w A xs) {B : Nat} (hl : Lo B A) (hb : Below B w w') : Rd w' A xs := fun j u hu => by
  obtain ⟨a, rfl, hc⟩ := h j u hu
  exact ⟨a, rfl, (hb.cell (p := a.add j) (by rw [add_block]; exact hl a rfl)).trans hc⟩
theorem Rd.grown (h : Rd w A xs) {row : Option Nat} (hg : w.grownBy w' row) (hne : ∀ a, A = some a → some a.block ≠ row) : Rd w' A xs := fun j u hu => by
  obtain ⟨a, rfl, hc⟩ := h j u hu
  exact ⟨a, rfl, hg.cell hc (by rw [add_block]; exact hne a rfl)⟩
theorem Rd.cut (h : Rd w A xs) {k : Nat} : Rd w (A.map (·.add k)) (xs.drop k) := fun j u hu => by
  rw [List.getElem?_drop] at hu
  obtain ⟨a, rfl, hc⟩ := h _ u hu
  exact ⟨a.add k, rfl, by rw [add_add]; exact hc⟩
theorem Rd.take (h : Rd w A xs) (k : Nat) : Rd w A (xs.take k) := fun j u hu => by
  rw [List.getElem?_take] at hu
  split at hu
  · exact h j u hu
  · cases hu
/-- 's[k:]' keeps the address where k is the capacity: nothing is read there. -/
theorem Rd.cut' (h : Rd w A xs) {n k cap : Nat} (hx : xs.length ≤ n) (hk : k ≤ n) (hc : n ≤ cap) : Rd w (if cap = k then A else A.map (·.add k)) (xs.drop k) := by
  split
  · rename_i he
    have : xs.drop k = [] := List.drop_eq_nil_of_le (by omega)
    rw [this]; exact Rd.nil
  · exact h.cut
theorem Rd.some_of (h : Rd w A xs) (hx : 0 < xs.length) : ∃ a, A = some a ∧ ∀ j u, xs[j]? = some u → w.cell? (a.add j) = some u := by
  obtain ⟨a, rfl, _⟩ := h.get hx
  exact ⟨a, rfl, fun j u hu => by obtain ⟨b, hb, hc⟩ := h j u hu; injection hb with hb; subst hb; exact hc⟩
theorem Rd.of_some {a : Addr} (h : ∀ j u, xs[j]? = some u → w.cell? (a.add j) = some u) : Rd w (some a) xs := fun j u hu => ⟨a, rfl, h j u hu⟩
theorem Rd.at_ {a : Addr} (h : Rd w (some a) xs) {j : Nat} {u : Value} (hu : xs[j]? = some u) : w.cell? (a.add j) = some u := by
  obtain ⟨b, hb, hc⟩ := h j u hu; injection hb with hb; subst hb; exact hc
end

theorem Rd.newN (w : World) (us : List Value) (t : TypeId) (fr : Nat × Nat) : Rd (w.alloc (.cells us.toArray t fr)) (some ⟨w.heap.size, 0, none⟩) us := fun j x hx => by
  refine ⟨_, rfl, ?_⟩
  have e : (⟨w.heap.size, 0, none⟩ : Addr).add j = ⟨w.heap.size, j, none⟩ := by unfold Addr.add; split <;> simp_all
  rw [e, cell_of_row _ _ j us.toArray t fr (heap_alloc_new w _)]
  simpa using hx

theorem Rd.newG {w : World} {us : List Value} {t : TypeId} {fr : Nat × Nat} {g : Nat} (hg : g = w.heap.size) : Rd (w.alloc (.cells us.toArray t fr)) (some ⟨g, 0, none⟩) us := by subst hg; exact Rd.newN _ _ _ _
/-- Where a piece of a slice begins: behind an array's end no address points. -/
def cutA (A : Option Addr) (cap k size : Nat) : Option Addr := if cap = k then A else A.map (·.add (k * size))
@[go_sem ↓] theorem sliced_cut (A : Option Addr) (l h m s : Nat) : sliced A l h m s = .slice (cutA A m l s) (h - l) (m - l) := rfl
@[go_sem] theorem cutA_zero (A : Option Addr) (c s : Nat) : cutA A c 0 s = A := by
  unfold cutA
  have e : A.map (fun x => x.add (0 * s)) = A := by
    cases A <;> simp [Addr.add]
  rw [e]; simp
theorem Rd.cutA {w : World} {A : Option Addr} {xs : List Value} (h : Rd w A xs) {n k cap : Nat} (hx : xs.length ≤ n) (hk : k ≤ n) (hc : n ≤ cap) : Rd w (cutA A cap k 1) (xs.drop k) := by
  unfold Px.cutA; rw [Nat.mul_one]; exact h.cut' hx hk hc
/-! ### rows that a call owns -/
section
variable {w w' : World} {base : Nat} {e : TypeId} {size n : Nat} {v : Value} {xs : List Value}
theorem own_below (h : w.ownsRow base e size v n xs) (hb : Below w.heap.size w w') : w'.ownsRow base e size v n xs := by
  refine ⟨h.1, ?_⟩
  rcases h.2 with h2 | ⟨g, cap, cur, hv, hbg, hg, r⟩
  · exact .inl h2
  · exact .inr ⟨g, cap, cur, hv, hbg, (hb.block g (Array.getElem?_eq_some_iff.1 hg).1).trans hg, r⟩
end

theorem grown_refl (w : World) (row : Option Nat) : w.grownBy w row := ⟨rfl, rfl, rfl, Nat.le_refl _, fun _ _ _ => rfl⟩
theorem grown_of_below {w w' : World} (h : Below w.heap.size w w') (row : Option Nat) : w.grownBy w' row := ⟨h.os, h.tape, h.output, h.size, fun k hk _ => h.block k hk⟩
/-- Two steps, the second into the first one's row, or into one that was not there. -/
theorem grown_chain {a b c : World} {r r' : Option Nat} (h : a.grownBy b r) (k : b.grownBy c r') (hr : r' = r ∨ ∀ g, r' = some g → a.heap.size ≤ g) : a.grownBy c r :=
  ⟨k.os.trans h.os, k.tape.trans h.tape, k.output.trans h.output, Nat.le_trans h.size k.size, fun i hi hne => by
    refine (k.block i (Nat.lt_of_lt_of_le hi h.size) ?_).trans (h.block i hi hne)
    rcases hr with rfl | hr
    · exact hne
    · intro e; have := hr i e.symm; omega⟩

/-! ### bytes and integers -/
def bys (l : List UInt8) : List Value := l.map fun b => .int .u8 (b.toNat : Int)
theorem bys_length (l : List UInt8) : (bys l).length = l.length := by simp [bys]
theorem bys_one (l : List UInt8) : ∀ u ∈ bys l, u.oneCell' = true := by
  intro u hu; simp [bys] at hu; obtain ⟨b, _, rfl⟩ := hu; rfl
/-- Cells that are slices of bytes. -/
def BRows (w : World) (vs : List Value) (bss : List (List UInt8)) : Prop := vs.length = bss.length ∧ ∀ (j : Nat) (h : j < bss.length), ∃ A n c, vs[j]? = some (.slice A n c) ∧ (bss[j]).length = n ∧ n ≤ c ∧ n ≤ 1099511627776 ∧ c ≤ 9223372036854775807 ∧ Rd w A (bys bss[j])
theorem BRows.nil {w : World} : BRows w [] [] := ⟨rfl, fun j h => by simp at h⟩
theorem BRows.below {w w' : World} {vs : List Value} {bss : List (List UInt8)} (h : BRows w vs bss) (hb : Below w.heap.size w w') : BRows w' vs bss :=
  ⟨h.1, fun j hj => by obtain ⟨A, n, c, h1, h2, h3, h4, h5, h6⟩ := h.2 j hj; exact ⟨A, n, c, h1, h2, h3, h4, h5, h6.below hb⟩⟩
theorem BRows.snoc {w : World} {vs : List Value} {bss : List (List UInt8)} (h : BRows w vs bss) {A : Option Addr} {n c : Nat} {bs : List UInt8} (hn : bs.length = n) (hc : n ≤ c) (h8 : n ≤ 1099511627776) (h63 : c ≤ 9223372036854775807) (hr : Rd w A (bys bs)) :
    BRows w (vs ++ [.slice A n c]) (bss ++ [bs]) := by
  refine ⟨by simp [h.1], fun j hj => ?_⟩
  by_cases hlt : j < bss.length
  · obtain ⟨A', n', c', h1, h2⟩ := h.2 j hlt
    rw [List.getElem_append_left hlt]
    exact ⟨A', n', c', by rw [List.getElem?_append_left (by rw [h.1]; exact hlt)]; exact h1, h2⟩
  · have hj' : j = bss.length := by simp at hj; omega
    subst hj'
    simp only [List.getElem_concat_length]
    exact ⟨A, n, c, by rw [← h.1]; simp, hn, hc, h8, h63, hr⟩
theorem BRows.get {w : World} {vs : List Value} {bss : List (List UInt8)} (h : BRows w vs bss) {j : Nat} (hj : j < bss.length) : ∃ A n c, vs[j]? = some (.slice A n c) ∧ (bss[j]).length = n ∧ n ≤ c ∧ n ≤ 1099511627776 ∧ c ≤ 9223372036854775807 ∧ Rd w A (bys bss[j]) := h.2 j hj
def ints (l : List Int) : List Value := l.map fun i => .int .i64 i
theorem ints_length (l : List Int) : (ints l).length = l.length := by simp [ints]
theorem ints_get {l : List Int} {k : Nat} (h : k < l.length) : (ints l)[k]? = some (.int .i64 (l[k])) := by simp [ints, List.getElem?_eq_getElem h]
theorem ints_one (l : List Int) : ∀ u ∈ ints l, u.oneCell' = true := by
  intro u hu; simp [ints] at hu; obtain ⟨b, _, rfl⟩ := hu; rfl

def strOf (bs : List UInt8) : ByteArray := ⟨bs.toArray⟩
@[go_sem] theorem strOf_toList (bs : List UInt8) : (strOf bs).toList = bs := ByteArray.toList_mk bs
theorem rd_nil_none {w : World} {xs : List Value} (h : Rd w none xs) : xs = [] := by
  rcases xs with _ | ⟨u, r⟩
  · rfl
  · obtain ⟨a, ha, _⟩ := h 0 u rfl; cases ha
/-- 'string(b)'. -/
theorem conv_bytes {P : Program} {w : World} {src dst e : TypeId} (hs : P.underlying src = some (.slice e)) (he : P.underlying e = some (.int .u8)) (hd : P.underlying dst = some .string)
    {A : Option Addr} {n c : Nat} {bs : List UInt8} (hn : bs.length = n) (h : Rd w A (bys bs)) : (convert src dst (.slice A n c)).run P w = .ok (.string (strOf bs)) w := by
  rcases A with _ | a
  · have hb : bs = [] := by have := rd_nil_none h; simpa [bys] using this
    subst hb
    exact run_convert_bytes_nil w src e hs he n c dst hd
  · have hl : (loadCells a n).run P w = .ok ((bs.map fun b => (b.toNat : Int)).map (Value.int .u8)).toArray w := by
      have := run_loadCells_list (P := P) w a (bys bs) (fun j v hj => h.at_ hj)
      rw [bys_length, hn] at this
      rw [this]; simp [bys, Function.comp_def]
    rw [run_convert_bytes_string w src dst e _ n c hs he hd, run_bytesToString w _ n c _ hl, foldl_push_bytes]
    simp [strOf, ByteArray.empty, ByteArray.emptyWithCapacity, Function.comp_def]
    rfl

/-! ### facts of a slice's type -/
structure SlT (P : Program) (t e size bytes : Nat) : Prop where
  und : P.underlying t = some (.slice e)
  info : ∃ i z, P.info? e = some i ∧ i.zero = some z ∧ i.size = size ∧ i.bytes = bytes ∧ z.cells.size = size
  pos : 0 < size
theorem slT_mk {P : Program} {t e size bytes : Nat} {z : Value} (h : P.underlying t = some (.slice e)) (hi : (P.info? e).map (fun i => (i.zero, i.size, i.bytes)) = some (some z, size, bytes)) (hz : z.cells.size = size) (hp : 0 < size) : SlT P t e size bytes := by
  cases hq : P.info? e with
  | none => rw [hq] at hi; cases hi
  | some i =>
    rw [hq] at hi
    simp only [Option.map_some, Option.some.injEq, Prod.mk.injEq] at hi
    exact ⟨h, ⟨i, z, hq, hi.1, hi.2.1, hi.2.2, hz⟩, hp⟩

/-! ### append onto a row of the call's own -/
section
variable {P : Program} {w : World}
theorem run_append_rd {base t ty e size bytes : Nat} (T : SlT P t e size bytes) {v : Value} {n : Nat} {xs : List Value} (hown : w.ownsRow base e size v n xs)
    {A : Option Addr} {m c : Nat} {news : List Value} (hl : news.length = m * size) (hr : Rd w A news) (h1 : ∀ u ∈ news, u.oneCell' = true)
    (hb : (n + m) * bytes ≤ 140737488355328) (h63 : n + m ≤ 140737488355328) (hbase : base ≤ w.heap.size) :
    ∃ v' w', (Builtin.append_ #[t, t] ty #[v, .slice A m c]).run P w = .ok v' w' ∧ w'.ownsRow base e size v' (n + m) (xs ++ news) ∧ w.grownBy w' v.ownBlock ∧ (v'.ownBlock = v.ownBlock ∨ v'.ownBlock = some w.heap.size) := by
  obtain ⟨hu, ⟨i, z, hi, hz, hs, hby, hzs⟩, hp⟩ := T
  rcases A with _ | a
  · have hn : news = [] := by
      rcases news with _ | ⟨u, r⟩
      · rfl
      · obtain ⟨a, ha, _⟩ := hr 0 u rfl; cases ha
    subst hn
    have hm : m = 0 := by
      rcases Nat.eq_zero_or_pos m with h | h
      · exact h
      · have := Nat.mul_pos h hp; simp at hl; omega
    subst hm
    refine ⟨v, w, ?_, by simpa using hown, grown_refl w _, .inl rfl⟩
    rcases hown.2 with ⟨rfl, rfl⟩ | ⟨g, cap, cur, rfl, _, _, hnc, _⟩
    · simp [Builtin.append_, run_underlying hu, sizeOf, typeInfo, hi, Builtin.lenOf, Builtin.firstCells]
    · simp [Builtin.append_, run_underlying hu, sizeOf, typeInfo, hi, Builtin.lenOf, Builtin.firstCells, hnc, storeCells]
  · obtain ⟨v', w', hrun, h2, h3, _, h5⟩ := run_append_own_at (P := P) w base t ty e i z size bytes hu hi hz hs hby hzs hp v n xs hown a m c news hl (fun j u hu => hr.at_ hu) h1
      (by unfold maxLen; omega) hb hbase
    exact ⟨v', w', hrun, h2, h3, h5⟩
theorem wl_append {ops : Array Oper} {rest : List Oper} {o : Oper} {a : Act} {Q : Exit → Act → World → Prop} (hg : o.guard = none) {s x : Operand} {t : TypeId}
    (ho : o.op = .call { callee := .builtin .append, args := #[s, x], argTypes := #[t, t] })
    {base e size bytes : Nat} (T : SlT P t e size bytes) {v : Value} {n : Nat} {xs : List Value} (hs : a.eval s = v) (hown : w.ownsRow base e size v n xs)
    {A : Option Addr} {m c : Nat} {news : List Value} (hx : a.eval x = .slice A m c) (hl : news.length = m * size) (hr : Rd w A news) (h1 : ∀ u ∈ news, u.oneCell' = true)
    (hb : (n + m) * bytes ≤ 140737488355328) (h63 : n + m ≤ 140737488355328) (hbase : base ≤ w.heap.size)
    (h : ∀ v' w', w'.ownsRow base e size v' (n + m) (xs ++ news) → w.grownBy w' v.ownBlock → (v'.ownBlock = v.ownBlock ∨ v'.ownBlock = some w.heap.size) → wpList P ops Q rest (a.put o.dst v') w') :
    wpList P ops Q (o :: rest) a w := by
  refine wpList_plain hg fun K hK => ?_
  obtain ⟨v', w', hrun, h2, h3, h4⟩ := run_append_rd (P := P) (ty := o.type) (c := c) T hown hl hr h1 hb h63 hbase
  unfold Oper.wp execOp
  simp only [ho, resolve, invoke, builtin, Sem.run_bind, Sem.run_pure, Result.andThen_ok, List.map_toArray, List.map_cons, List.map_nil, hs, hx, hrun]
  exact hK _ _ (h v' w' h2 h3 h4)
end

/-! ### places at which a walk stands still, to be led on by hand -/
def Stop (p : Prop) : Prop := p
section
variable {P : Program} {w : World} {ops : Array Oper} {rest : List Oper} {o : Oper} {a : Act} {Q : Exit → Act → World → Prop}
theorem stop_append {args : Array Operand} {ts : Array TypeId} (_ : o.op = .call { callee := .builtin .append, args := args, argTypes := ts }) (h : Stop (wpList P ops Q (o :: rest) a w)) : wpList P ops Q (o :: rest) a w := h
theorem stop_copy {args : Array Operand} {ts : Array TypeId} (_ : o.op = .call { callee := .builtin .copy, args := args, argTypes := ts }) (h : Stop (wpList P ops Q (o :: rest) a w)) : wpList P ops Q (o :: rest) a w := h
theorem stop_make {t : TypeId} {l c : Operand} (_ : o.op = .makeSlice t l c) (h : Stop (wpList P ops Q (o :: rest) a w)) : wpList P ops Q (o :: rest) a w := h
theorem go_append (hg : o.guard = none) {s x : Operand} {t : TypeId}
    (ho : o.op = .call { callee := .builtin .append, args := #[s, x], argTypes := #[t, t] })
    {base e size bytes : Nat} (T : SlT P t e size bytes) {v : Value} {n : Nat} {xs : List Value} (hs : a.eval s = v) (hown : w.ownsRow base e size v n xs)
    {A : Option Addr} {m c : Nat} {news : List Value} (hx : a.eval x = .slice A m c) (hl : news.length = m * size) (hr : Rd w A news) (h1 : ∀ u ∈ news, u.oneCell' = true)
    (hb : (n + m) * bytes ≤ 140737488355328) (h63 : n + m ≤ 140737488355328) (hbase : base ≤ w.heap.size)
    (h : ∀ v' w', w'.ownsRow base e size v' (n + m) (xs ++ news) → w.grownBy w' v.ownBlock → (v'.ownBlock = v.ownBlock ∨ v'.ownBlock = some w.heap.size) → wpList P ops Q rest (a.put o.dst v') w') :
    Stop (wpList P ops Q (o :: rest) a w) := wl_append hg ho T hs hown hx hl hr h1 hb h63 hbase h
end

/-! ### a row that grows, round by round -/
/-- Since the world w, in which the row v0 was the call's own, the row has become v, with n elements, xs in all; nothing else of what was there has turned. -/
structure Grow (w : World) (v0 : Value) (base e size : Nat) (wr : World) (v : Value) (n : Nat) (xs : List Value) : Prop where
  owns : wr.ownsRow base e size v n xs
  grown : w.grownBy wr v0.ownBlock
  blk : v.ownBlock = v0.ownBlock ∨ ∀ g, v.ownBlock = some g → w.heap.size ≤ g
  base : base ≤ w.heap.size
section
variable {P : Program} {w wr : World} {v0 v : Value} {base e size n : Nat} {xs : List Value}
theorem Grow.start (h : w.ownsRow base e size v n xs) (hb : base ≤ w.heap.size) : Grow w v base e size w v n xs := ⟨h, grown_refl _ _, .inl rfl, hb⟩
theorem Grow.nil (w : World) (e size : Nat) : Grow w (.slice none 0 0) w.heap.size e size w (.slice none 0 0) 0 [] := ⟨World.ownsRow_nil _ _ _ _, grown_refl _ _, .inl rfl, Nat.le_refl _⟩
/-- 'append([]T{}, ..)': an empty row of its own. -/
theorem Grow.empty (w : World) (e size : Nat) : Grow (w.alloc (.cells #[] e)) (.slice (some ⟨w.heap.size, 0, none⟩) 0 0) w.heap.size e size (w.alloc (.cells #[] e)) (.slice (some ⟨w.heap.size, 0, none⟩) 0 0) 0 [] :=
  Grow.start (World.ownsRow_made w #[] 0 (Nat.le_refl _) (by unfold maxLen; omega) (by simp)) (by simp)
theorem Grow.le (h : Grow w v0 base e size wr v n xs) : base ≤ wr.heap.size := Nat.le_trans h.base h.grown.size
theorem Grow.below (h : Grow w v0 base e size wr v n xs) {w' : World} (hb : Below wr.heap.size wr w') : Grow w v0 base e size w' v n xs :=
  ⟨own_below h.owns hb, grown_chain h.grown (grown_of_below hb none) (.inr fun g hg => by cases hg), h.blk, h.base⟩
theorem Grow.alloc (h : Grow w v0 base e size wr v n xs) (o : Obj) : Grow w v0 base e size (wr.alloc o) v n xs := h.below ((Below.refl _ _).alloc (Nat.le_refl _) o)
theorem Grow.drew (h : Grow w v0 base e size wr v n xs) : Grow w v0 base e size wr.drew v n xs := h.below (Below.refl _ _).drew
theorem Grow.drewN (h : Grow w v0 base e size wr v n xs) (k : Nat) : Grow w v0 base e size (wr.drewN k) v n xs := h.below ⟨rfl, rfl, rfl, Nat.le_refl _, fun _ _ => rfl⟩
/-- A function that began with nothing has turned nothing. -/
theorem Grow.all {c : Nat} (h : Grow w (.slice none 0 c) base e size wr v n xs) : Below w.heap.size w wr := ⟨h.grown.os, h.grown.tape, h.grown.output, h.grown.size, fun k hk => h.grown.block k hk (by simp [Value.ownBlock])⟩
theorem Grow.allOf (h : Grow w v0 base e size wr v n xs) {B : Nat} {W : World} (hW : Below B W w) (hB : B ≤ w.heap.size) (hv : ∀ g, v0.ownBlock = some g → B ≤ g) : Below B W wr := hW.grown h.grown hB hv
theorem Grow.emptyAll {w0 : World} {c : Nat} (h : Grow (w0.alloc (.cells #[] e)) (.slice (some ⟨w0.heap.size, 0, none⟩) 0 c) base e size wr v n xs) : Below w0.heap.size w0 wr :=
  h.allOf ((Below.refl _ _).alloc (Nat.le_refl _) _) (by simp) (fun g hg => by simp [Value.ownBlock] at hg; omega)
theorem Grow.trans (h : Grow w v0 base e size wr v n xs) {w2 : World} {v2 : Value} {m : Nat} {ys : List Value} (k : Grow wr v base e size w2 v2 m ys) : Grow w v0 base e size w2 v2 m ys := by
  refine ⟨k.owns, grown_chain h.grown k.grown h.blk, ?_, h.base⟩
  rcases k.blk with hk | hk
  · rw [hk]; exact h.blk
  · exact .inr fun g hg => Nat.le_trans h.grown.size (hk g hg)
variable {ops : Array Oper} {rest : List Oper} {o : Oper} {a : Act} {Q : Exit → Act → World → Prop}
theorem Grow.append (h : Grow w v0 base e size wr v n xs) {bytes : Nat} (hg : o.guard = none) {s x : Operand} {t : TypeId}
    (ho : o.op = .call { callee := .builtin .append, args := #[s, x], argTypes := #[t, t] })
    (T : SlT P t e size bytes) (hs : a.eval s = v)
    {A : Option Addr} {m c : Nat} {news : List Value} (hx : a.eval x = .slice A m c) (hl : news.length = m * size) (hr : Rd wr A news) (h1 : ∀ u ∈ news, u.oneCell' = true)
    (hb : (n + m) * bytes ≤ 140737488355328) (h63 : n + m ≤ 140737488355328)
    (hk : ∀ v' w', Grow w v0 base e size w' v' (n + m) (xs ++ news) → wr.heap.size ≤ w'.heap.size → wpList P ops Q rest (a.put o.dst v') w') :
    Stop (wpList P ops Q (o :: rest) a wr) := by
  refine go_append hg ho T hs h.owns hx hl hr h1 hb h63 h.le ?_
  intro v' w' ho' hg' hb'
  refine hk v' w' ⟨ho', grown_chain h.grown hg' h.blk, ?_, h.base⟩ hg'.size
  rcases hb' with hb' | hb'
  · rw [hb']; exact h.blk
  · rw [hb']; exact .inr fun g hg => by injection hg with hg; have := h.grown.size; omega
end

/-! ### a law's row from its walk -/
section
open Go.ChangeShapes Go.WideShapes Go.ChangeAt
variable {H : Type} {enc : TypeId × Value → H} {P : Program}
theorem wf_u64 {v : Int} (h : (Lit.int .u64 v).wf = true) : ∃ n : Nat, v = n ∧ n < 18446744073709551616 := by
  have hz : 0 ≤ v ∧ v ≤ 18446744073709551615 := by simpa [Lit.wf, IntKind.min, IntKind.max, IntKind.signed, IntKind.bits] using h
  exact ⟨v.toNat, by omega, by omega⟩
theorem wf_i64 {v : Int} (h : (Lit.int .i64 v).wf = true) : -9223372036854775808 ≤ v ∧ v ≤ 9223372036854775807 := by
  simpa [Lit.wf, IntKind.min, IntKind.max, IntKind.signed, IntKind.bits] using h
end
end Go.Px
namespace Go.Px
set_option maxRecDepth 20000
theorem wf_u8 {v : Int} (h : (Lit.int .u8 v).wf = true) : ∃ n : Nat, v = n ∧ n < 256 := by
  have hz : 0 ≤ v ∧ v ≤ 255 := by simpa [Lit.wf, IntKind.min, IntKind.max, IntKind.signed, IntKind.bits] using h
  exact ⟨v.toNat, by omega, by omega⟩
end Go.Px
namespace Go.Px
set_option maxRecDepth 20000
open Go.RowKit Go.ChangeShapes
variable {H : Type} {enc : TypeId × Value → H} {P : Program}
theorem open_bytesF {w : World} {base : Nat} {spare : Nat → Bool} {held : Bool} {t e : TypeId} (ht : P.underlying t = some (.slice e)) (he : P.underlying e = some (.int .u8)) (hc : P.cellsOf e = 1)
    {v : Value} {fuel : Nat} {x : DataW H × List MemPlace} (hf : DataW.trod enc P w base spare held fuel t [v] = some x) :
    ∃ (A : Option Addr) (n c : Nat) (bs : List UInt8), v = .slice A n c ∧ bs.length = n ∧ n ≤ c ∧ c ≤ 9223372036854775807 ∧ Rd w A (bys bs) := by
  rcases Go.ChangeShapes.open_ints ht he hc hf with ⟨hcs, _⟩ | ⟨a, len, cap, zs, hcs, _, hlc, hcm, hlen, _, hcell, hwf⟩
  · obtain rfl : v = .slice none 0 0 := by simpa using hcs
    exact ⟨none, 0, 0, [], rfl, rfl, by omega, by omega, Rd.nil⟩
  · obtain rfl : v = .slice (some a) len cap := by simpa using hcs
    have hle : len ≤ zs.length := by rw [hlen]; split <;> omega
    refine ⟨some a, len, cap, (zs.take len).map fun z => UInt8.ofNat z.toNat, rfl, by simp [Nat.min_eq_left hle], hlc, by unfold maxLen at hcm; omega, Rd.of_some fun j u hu => ?_⟩
    have hj : j < len := by
      have := (List.getElem?_eq_some_iff.1 hu).1
      simp [bys] at this; omega
    have hjz : j < zs.length := by omega
    have hw := hwf zs[j] (List.getElem_mem hjz)
    have hz : 0 ≤ zs[j] ∧ zs[j] ≤ 255 := by simpa [Lit.wf, IntKind.min, IntKind.max, IntKind.signed, IntKind.bits] using hw
    rw [hcell j hjz]
    simp only [bys, List.map_map, List.getElem?_map, List.getElem?_take, if_pos hj, List.getElem?_eq_getElem hjz, Option.map_some, Function.comp] at hu
    rw [← hu]
    simp only [List.getD, List.getElem?_eq_getElem hjz, Option.getD_some]
    congr 2
    have : (UInt8.ofNat (zs[j]).toNat).toNat = (zs[j]).toNat := by
      simp; omega
    rw [this]; omega
end Go.Px
namespace Go.Px
set_option maxRecDepth 20000
open Go.RowKit
abbrev Blk (w : World) (g : Nat) (vs : List Value) (T : TypeId) : Prop := w.heap[g]? = some (.cells vs.toArray T (0, 0))
section
variable {w w' : World} {g : Nat} {vs : List Value} {T : TypeId}
theorem Blk.lt (h : Blk w g vs T) : g < w.heap.size := (Array.getElem?_eq_some_iff.1 h).1
theorem Blk.below (h : Blk w g vs T) (hb : Below w.heap.size w w') : Blk w' g vs T := (hb.block g h.lt).trans h
theorem Blk.cell (h : Blk w g vs T) {j : Nat} {v : Value} (hv : vs[j]? = some v) : w.cell? ⟨g, j, none⟩ = some v := by
  rw [cell_of_row _ _ _ _ _ _ h]; simpa using hv
theorem Blk.range (h : Blk w g vs T) : w.rangeAt g 0 vs := fun j v hv => by rw [Nat.zero_add]; exact h.cell hv
theorem Blk.there (h : Blk w g vs T) : w.there g 0 vs.length := fun j hj => by
  rw [Nat.zero_add]; exact ⟨by rw [h.cell (List.getElem?_eq_getElem hj)]; rfl, frozen_of_row _ _ _ _ _ h⟩
theorem Blk.set (h : Blk w g vs T) (j : Nat) (u : Value) : Blk (w.setCell ⟨g, j, none⟩ u) g (vs.set j u) T := by
  have := heap_setCell_same w g j _ _ u h
  rwa [List.setIfInBounds_toArray] at this
theorem Blk.apart (h : Blk w g vs T) {k : Nat} (hk : g ≠ k) (j : Nat) (u : Value) : Blk (w.setCell ⟨k, j, none⟩ u) g vs T :=
  (heap_setCell_other w ⟨k, j, none⟩ g u hk).trans h
theorem Blk.new (w : World) (vs : List Value) (T : TypeId) : Blk (w.alloc (.cells vs.toArray T)) w.heap.size vs T := heap_alloc_new w _
theorem Blk.alloc (h : Blk w g vs T) (o : Obj) : Blk (w.alloc o) g vs T := h.below ((Below.refl _ _).alloc (Nat.le_refl _) o)
theorem Blk.drew (h : Blk w g vs T) : Blk w.drew g vs T := h
end
section
variable {P : Program} {w : World} {ops : Array Oper} {rest : List Oper} {o : Oper} {a : Act} {Q : Exit → Act → World → Prop}
theorem results_cell {fn : Func} {t : Tmp} {T : TypeId} (h : fn.results = #[.cell t T]) {tmps : Array Value} {b : Nat} (hx : tmps.getD t undef = .pointer (some ⟨b, 0, none⟩)) {vs : List Value} {B : TypeId} {d : TypeDesc} (hc : Blk w b vs B)
    (hu : P.underlying T = some d) (hd : d.isRow = true) (hi : (P.info? T).map (·.size) = some vs.length) : (results fn tmps).run P w = .ok (.agg vs.toArray) w := by
  have := run_loadVar_mid (P := P) w b 0 T vs d hc.range hu hd hi
  have hx' : (tmps[t]?).getD undef = .pointer (some ⟨b, 0, none⟩) := by rw [← hx]; simp [Array.getD_eq_getD_getElem?]
  simp [results, h, hx', asAddr, this]
end
end Go.Px
