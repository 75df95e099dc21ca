/- Texts joined (shake.py). -/
import Derived.OrdersHeld
import Derived.OrdersIn
import Derived.Deep.Quiet
import Derived.RangeFuncNested
import Derived.RangeFuncBound
import Derived.RangeFuncCalls
import Derived.RangeFuncLeaves
import Derived.RangeFuncBox
import Derived.Shelf.Abstract
import Derived.WalkKit
import Derived.OwnWalkIn
import Derived.TacticsInMore
import Derived.LoopNIn
import Derived.LoopIn
import Derived.Test.YtlcbelmbonaooaaK71
import Derived.Test.YtlcbelmbonaooaaK73
namespace Go.Px
set_option maxRecDepth 20000
open Go.RowKit
set_option linter.unusedVariables false
/-- w' is w, with new blocks, and with other things in the blocks of X. -/
structure Fr (X : Nat → Prop) (w w' : World) : Prop where
  os : w'.os = w.os
  tape : w'.tape = w.tape
  output : w'.output = w.output
  size : w.heap.size ≤ w'.heap.size
  blk : ∀ k, k < w.heap.size → ¬ X k → w'.heap[k]? = w.heap[k]?
section
variable {X Y : Nat → Prop} {w w' w'' : World} {A : Option Addr} {xs : List Value}
theorem Fr.refl (X : Nat → Prop) (w : World) : Fr X w w := ⟨rfl, rfl, rfl, Nat.le_refl _, fun _ _ _ => rfl⟩
theorem Fr.trans (h : Fr X w w') (k : Fr X w' w'') : Fr X w w'' :=
  ⟨k.os.trans h.os, k.tape.trans h.tape, k.output.trans h.output, Nat.le_trans h.size k.size, fun i hi hx => (k.blk i (Nat.lt_of_lt_of_le hi h.size) hx).trans (h.blk i hi hx)⟩
/-- The second may write into blocks that are new to the first, besides. -/
theorem Fr.trans' (h : Fr X w w') (k : Fr Y w' w'') (hY : ∀ b, Y b → X b ∨ w.heap.size ≤ b) : Fr X w w'' :=
  ⟨k.os.trans h.os, k.tape.trans h.tape, k.output.trans h.output, Nat.le_trans h.size k.size, fun i hi hx => (k.blk i (Nat.lt_of_lt_of_le hi h.size) (fun hy => by rcases hY i hy with h | h; exact hx h; omega)).trans (h.blk i hi hx)⟩
theorem Fr.mono (h : Fr X w w') (hX : ∀ b, X b → Y b) : Fr Y w w' := ⟨h.os, h.tape, h.output, h.size, fun i hi hy => h.blk i hi (fun hx => hy (hX i hx))⟩
theorem Fr.mono' (h : Fr X w w') (hX : ∀ b, X b → Y b ∨ w.heap.size ≤ b) : Fr Y w w' := ⟨h.os, h.tape, h.output, h.size, fun i hi hy => h.blk i hi (fun hx => by rcases hX i hx with h | h; exact hy h; omega)⟩
theorem Fr.of_below (h : Below w.heap.size w w') : Fr X w w' := ⟨h.os, h.tape, h.output, h.size, fun k hk _ => h.block k hk⟩
theorem Fr.of_grown {r : Option Nat} (h : w.grownBy w' r) (hr : ∀ k, r = some k → X k) : Fr X w w' := ⟨h.os, h.tape, h.output, h.size, fun k hk hx => h.block k hk (fun e => hx (hr k e.symm))⟩
theorem Fr.set (w : World) (a : Addr) (u : Value) (ha : X a.block) : Fr X w (w.setCell a u) := ⟨rfl, rfl, rfl, by simp, fun k _ hx => Below.heap_setCell w a u k (fun e => hx (by rw [e]; exact ha))⟩
theorem Fr.drew (h : Fr X w w') : Fr X w w'.drew := ⟨h.os, h.tape, h.output, h.size, h.blk⟩
theorem Fr.below {B : Nat} {a : World} (h : Fr X w w') (hb : Below B a w) (hB : B ≤ w.heap.size) (hX : ∀ k, X k → B ≤ k) : Below B a w' :=
  hb.trans ⟨h.os, h.tape, h.output, by have := h.size; omega, fun i hi => h.blk i (by omega) (fun hx => by have := hX i hx; omega)⟩
theorem Fr.lo {B : Nat} (h : Fr X w w') (hB : B ≤ w.heap.size) (hX : ∀ k, X k → B ≤ k) : Below B w w' := h.below (Below.refl _ _) hB hX
theorem Fr.cell (h : Fr X w w') {a : Addr} {u : Value} (hc : w.cell? a = some u) (hx : ¬ X a.block) : w'.cell? a = some u := by
  have hl := World.block_lt_of_cell? w a hc
  unfold World.cell? at *
  rw [h.blk _ hl hx]; exact hc
theorem Blk.fr {g : Nat} {vs : List Value} {T : TypeId} (hB : Blk w g vs T) (h : Fr X w w') (hx : ¬ X g) : Blk w' g vs T := (h.blk g hB.lt hx).trans hB
theorem Rd.fr (hr : Rd w A xs) (h : Fr X w w') (hx : xs ≠ [] → ∀ a, A = some a → ¬ X a.block) : Rd w' A xs := fun j u hu => by
  obtain ⟨a, rfl, hc⟩ := hr j u hu
  exact ⟨a, rfl, h.cell hc (by rw [add_block]; exact hx (fun e => by rw [e] at hu; simp at hu) a rfl)⟩
theorem Ty.Is.fr {Q : Nat → Prop} {t : Ty} {x : t.Den} {cs : List Value} (h : t.Is w Q x cs) (hf : Fr X w w') (hx : ∀ b, Q b → ¬ X b) : t.Is w' Q x cs :=
  Ty.Is.keep (fun A xs hr hq => hr.fr hf (fun hne a ha => hx _ (hq hne a ha))) (fun _ h => h) t x cs h
theorem Ty.Rows.fr {Q : Nat → Prop} {t : Ty} {xs : List t.Den} {cs : List Value} (h : t.Rows w Q xs cs) (hf : Fr X w w') (hx : ∀ b, Q b → ¬ X b) : t.Rows w' Q xs cs := ⟨h.1, fun j x hj => (h.2 j x hj).fr hf hx⟩
end
end Go.Px
namespace Go.Px
set_option maxRecDepth 20000
open Go.RowKit
set_option linter.unusedVariables false
/-- A row that came in: in memory below B. -/
structure RowAt (t : Ty) (w : World) (B : Nat) (A : Option Addr) (n : Nat) (xs : List t.Den) (vs : List Value) : Prop where
  len : xs.length = n
  rd : Rd w A vs
  rows : t.Rows w (fun b => b < B) xs vs
  lo : xs ≠ [] → ∀ a, A = some a → a.block < B
theorem rowAt_of {t : Ty} {w : World} {Q : Nat → Prop} {A : Option Addr} {n : Nat} {xs : List t.Den} {vs : List Value} (ht : 0 < t.n) (hl : xs.length = n) (hr : Rd w A vs) (hR : t.Rows w Q xs vs) : RowAt t w w.heap.size A n xs vs :=
  ⟨hl, hr, hR.low, fun hne => rd_block hr (fun e => hne (by
    have h1 := hR.1
    rw [e] at h1
    have h2 : t.n * xs.length = 0 := h1.symm
    rcases Nat.mul_eq_zero.mp h2 with h | h
    · omega
    · exact List.eq_nil_of_length_eq_zero h))⟩
theorem RowAt.at_ {t : Ty} {w wr : World} {B : Nat} {A : Option Addr} {n : Nat} {xs : List t.Den} {vs : List Value} (h : RowAt t w B A n xs vs) (ht : 0 < t.n) (hb : Below B w wr) {k : Nat} (hk : k < n) :
    ∃ x a cs, xs[k]? = some x ∧ A = some a ∧ t.Is wr (fun b => b < B) x cs ∧ (∀ (j : Nat) (u : Value), vs[j]? = some u → wr.cell? (a.add j) = some u) ∧ ∀ (i : Nat) (u : Value), cs[i]? = some u → vs[t.n * k + i]? = some u := by
  have hk' : k < xs.length := by rw [h.len]; exact hk
  have hne : xs ≠ [] := fun e => by rw [e] at hk'; simp at hk'
  have hr := h.rd.lo (fun a ha => h.lo hne a ha) hb
  obtain ⟨cs, hI, hc⟩ := (h.rows.lo hb).get (List.getElem?_eq_getElem hk')
  obtain ⟨a, rfl, hat⟩ := hr.some_of (by
    have h1 := h.rows.1
    rw [h1]
    exact Nat.mul_pos ht (by omega))
  exact ⟨_, a, cs, List.getElem?_eq_getElem hk', rfl, hI, hat, hc⟩
end Go.Px
namespace Go.Px
set_option maxRecDepth 20000
open Go.RowKit
set_option linter.unusedVariables false
def noDefer (ops : Array Oper) : Bool := ops.toList.all fun o => match o.op with | .defer _ => false | .call c => true | _ => true
theorem noDefer_at {ops : Array Oper} (h : noDefer ops = true) {i : Nat} {o : Oper} (ho : ops[i]? = some o) : ∀ c, o.op ≠ .defer c := by
  intro c hc
  unfold noDefer at h
  rw [List.all_eq_true] at h
  have := h o (by
    have := Array.mem_of_getElem? ho
    simpa using this)
  rw [hc] at this
  cases this
theorem oper_round {l n : Nat} {P : Program} {o : Oper} {a : Act} {K K' : Act → World → Prop} {Q : Exit → Act → World → Prop} {w : World} (hd : ∀ c, o.op ≠ .defer c) (hK : ∀ a w, K a w → K' a w)
    (h : o.wp P a w K Q) : o.wpIn (Fence.wide.inRound l) n P a w K' Q := by
  refine ⟨fun f _ => trivial, ?_⟩
  rw [show (Fence.wide.inRound l).round = some l from rfl, Oper.semAt_some l _ _ hd]
  unfold Oper.wp at h
  generalize hr : (execOp a.eval o).run P w = r at *
  cases r with
  | ok nx w' =>
    cases nx with
    | value v => exact hK _ _ h
    | skip => exact hK _ _ h
    | defer d => exact hK _ _ h
    | enter f args =>
      refine ⟨fun hx => (by cases hx), CallsIn.inRound l (callsIn_wide.2 (h.mono ?_))⟩
      intro e w'' he
      cases e with
      | returned v => exact hK _ _ he
      | panicked c => exact he
      | outgrown => exact he
    | row row args =>
      refine ⟨fun hx => (by cases hx), fun c cs _ => ?_⟩
      obtain ⟨v, w'', hr, hs⟩ := h c cs
      exact ⟨v, w'', hK _ _ hr, stepsIn_wide.2 hs⟩
    | _ => exact h.elim
  | halt x w' =>
    cases x with
    | panic v => exact h
    | _ => exact h.elim
theorem wpOp_round {l n : Nat} {P : Program} {ops : Array Oper} {i : Nat} {a : Act} {K K' : Act → World → Prop} {Q : Exit → Act → World → Prop} {w : World} (hd : noDefer ops = true) (hQ : ¬ LetsOut Q) (hK : ∀ a w, K a w → K' a w)
    (h : wpOp P ops Q i K a w) : wpOpIn (Fence.wide.inRound l) n P ops Q i K' a w := by
  unfold wpOp at h
  unfold wpOpIn
  cases ho : ops[i]? with
  | none => simp only [ho] at h; exact hK _ _ h
  | some o =>
    simp only [ho] at h
    simp only
    by_cases hw : Region.wanted o (yielded ops a.tmps) = true
    · rw [if_pos hw] at h ⊢
      rcases h with h | ⟨_, h⟩
      · exact oper_round (noDefer_at hd ho) hK h
      · exact absurd h hQ
    · rw [if_neg hw] at h ⊢
      exact ⟨fun _ _ => trivial, hK _ _ h⟩
theorem wpAny_round {l n : Nat} {P : Program} {md : Region.Mode} {ops : Array Oper} {Q : Exit → Act → World → Prop} (hd : noDefer ops = true) (hQ : ¬ LetsOut Q) :
    ∀ (fuel : Nat) (listed : Array Bool) (a : Act) (w : World), wpAny P md ops Q fuel listed a w → wpAnyIn (Fence.wide.inRound l) n P md ops Q fuel listed a w
  | 0, _, _, _, h => h
  | fuel + 1, listed, a, w, h => ⟨h.1, fun i hi => wpOp_round hd hQ (wpAny_round hd hQ fuel _) (h.2 i hi)⟩
theorem wpOp_k {P : Program} {ops : Array Oper} {i : Nat} {o : Oper} {a : Act} {K : Act → World → Prop} {Q : Exit → Act → World → Prop} {w : World} (ho : ops[i]? = some o) (hg : o.guard = none)
    (h : ∀ K' : Act → World → Prop, (∀ a w, K a w → K' a w) → o.wp P a w K' Q) : wpOp P ops Q i K a w := by
  unfold wpOp
  simp only [ho]
  rw [if_pos (by simp [Region.wanted, hg])]
  exact .inl (h K fun _ _ h => h)
theorem all_one {P : Program} {md : Region.Mode} {ops : Array Oper} {Q : Exit → Act → World → Prop} {S : World → Prop} {i : Nat} {o : Oper} {fuel : Nat} {listed : Array Bool} {a : Act} {w : World} (hr : Region.ready md ops listed = [i]) (ho : ops[i]? = some o) (hg : o.guard = none)
    (h : ∀ K' : Act → World → Prop, (∀ a' w', S w' ∧ wpAnyH P md ops Q S fuel (listed.setIfInBounds i true) a' w' → K' a' w') → o.wp P a w K' Q) : wpAnyH P md ops Q S (fuel + 1) listed a w :=
  wpAnyH_all hr (by simp) (fun j hj => by
    rw [List.mem_singleton] at hj
    subst hj
    exact wpOp_k ho hg h)
theorem any_one {P : Program} {md : Region.Mode} {ops : Array Oper} {Q : Exit → Act → World → Prop} {i : Nat} {o : Oper} {fuel : Nat} {listed : Array Bool} {a : Act} {w : World} (hr : Region.ready md ops listed = [i]) (ho : ops[i]? = some o) (hg : o.guard = none)
    (h : ∀ K' : Act → World → Prop, (∀ a' w', wpAny P md ops Q fuel (listed.setIfInBounds i true) a' w' → K' a' w') → o.wp P a w K' Q) : wpAny P md ops Q (fuel + 1) listed a w :=
  ⟨fun h0 => by rw [hr] at h0; (cases h0), fun j hj => by
    rw [hr, List.mem_singleton] at hj
    subst hj
    exact wpOp_k ho hg h⟩
theorem any_two {P : Program} {md : Region.Mode} {ops : Array Oper} {Q : Exit → Act → World → Prop} {i j : Nat} {o o2 : Oper} {fuel : Nat} {listed : Array Bool} {a : Act} {w : World} (hr : Region.ready md ops listed = [i, j]) (ho : ops[i]? = some o) (hg : o.guard = none) (ho2 : ops[j]? = some o2) (hg2 : o2.guard = none)
    (h : ∀ K' : Act → World → Prop, (∀ a' w', wpAny P md ops Q fuel (listed.setIfInBounds i true) a' w' → K' a' w') → o.wp P a w K' Q)
    (h2 : ∀ K' : Act → World → Prop, (∀ a' w', wpAny P md ops Q fuel (listed.setIfInBounds j true) a' w' → K' a' w') → o2.wp P a w K' Q) : wpAny P md ops Q (fuel + 1) listed a w :=
  ⟨fun h0 => by rw [hr] at h0; (cases h0), fun k hk => by
    rw [hr] at hk
    simp only [List.mem_cons, List.not_mem_nil, or_false] at hk
    rcases hk with rfl | rfl
    · exact wpOp_k ho hg h
    · exact wpOp_k ho2 hg2 h2⟩
theorem all_two {P : Program} {md : Region.Mode} {ops : Array Oper} {Q : Exit → Act → World → Prop} {S : World → Prop} {i j : Nat} {o o2 : Oper} {fuel : Nat} {listed : Array Bool} {a : Act} {w : World} (hr : Region.ready md ops listed = [i, j]) (ho : ops[i]? = some o) (hg : o.guard = none) (ho2 : ops[j]? = some o2) (hg2 : o2.guard = none)
    (h : ∀ K' : Act → World → Prop, (∀ a' w', S w' ∧ wpAnyH P md ops Q S fuel (listed.setIfInBounds i true) a' w' → K' a' w') → o.wp P a w K' Q)
    (h2 : ∀ K' : Act → World → Prop, (∀ a' w', S w' ∧ wpAnyH P md ops Q S fuel (listed.setIfInBounds j true) a' w' → K' a' w') → o2.wp P a w K' Q) : wpAnyH P md ops Q S (fuel + 1) listed a w :=
  wpAnyH_all hr (by simp) (fun k hk => by
    simp only [List.mem_cons, List.not_mem_nil, or_false] at hk
    rcases hk with rfl | rfl
    · exact wpOp_k ho hg h
    · exact wpOp_k ho2 hg2 h2)
/-- A region of a round, its orders followed one by one. -/
theorem round_any {l n id : Nat} {P : Program} {ops : Array Oper} {Q : Exit → Act → World → Prop} {a : Act} {w : World} (hm : P.follows .mixedOrders = true) (hd : noDefer ops = true) (hQ : ¬ LetsOut Q)
    (h : wpAny P .any ops Q ops.size (Array.replicate ops.size false) a w.drew) : (Code.region id ops true).wpIn (Fence.wide.inRound l) n P Q a w :=
  wpIn_region_any hm (wpAny_round hd hQ _ _ _ _ h)
/-- append onto a row of the call's own: one operation. -/
theorem oper_own {P : Program} {o : Oper} {a : Act} {w : World} {K : Act → World → Prop} {Q : Exit → Act → World → Prop} {s x : Operand} {t : TypeId} (ho : o.op = .call { callee := .builtin .append, args := #[s, x], argTypes := #[t, t] })
    {base e size bytes : Nat} (T : SlT P t e size bytes) {v : Value} {n : Nat} {xs : List Value} (hs : a.eval s = v) (hown : w.ownsRow base e size v n xs)
    {A : Option Addr} {m c : Nat} {news : List Value} (hx : a.eval x = .slice A m c) (hl : news.length = m * size) (hr : Rd w A news) (h1 : ∀ u ∈ news, u.oneCell' = true)
    (hb : (n + m) * bytes ≤ 140737488355328) (h63 : n + m ≤ 140737488355328) (hbase : base ≤ w.heap.size)
    (h : ∀ v' w', w'.ownsRow base e size v' (n + m) (xs ++ news) → w.grownBy w' v.ownBlock → (v'.ownBlock = v.ownBlock ∨ v'.ownBlock = some w.heap.size) → K (a.put o.dst v') w') : o.wp P a w K Q := by
  obtain ⟨v', w', hrun, h2, h3, h4⟩ := run_append_rd (P := P) (ty := o.type) (c := c) T hown hl hr h1 hb h63 hbase
  unfold Oper.wp execOp
  simp only [ho, resolve, invoke, builtin, Sem.run_bind, Sem.run_pure, Result.andThen_ok, List.map_toArray, List.map_cons, List.map_nil, hs, hx, hrun]
  exact h v' w' h2 h3 h4
/-- A region of a round, by what is held in memory till the last operation. -/
theorem round_held {l n id : Nat} {P : Program} {ops : Array Oper} {Q : Exit → Act → World → Prop} {a : Act} {w : World} (S : World → Prop) (hm : P.follows .mixedOrders = true) (hd : noDefer ops = true) (hQ : ¬ LetsOut Q)
    (h : wpAnyH P .any ops Q S ops.size (Array.replicate ops.size false) a w.drew) : (Code.region id ops true).wpIn (Fence.wide.inRound l) n P Q a w :=
  wpIn_region_any hm (wpAny_round hd hQ _ _ _ _ (wpAny_of_held _ _ _ _ h))
/-- A region of a round that yields the same in every world of a class. -/
theorem round_quiet {l n id : Nat} {P : Program} {L : List Oper} {Q : Exit → Act → World → Prop} {a : Act} {w : World} (C : World → Prop) (hm : P.follows .mixedOrders = true) (hd : noDefer L.toArray = true) (hQ : ¬ LetsOut Q) (hB : Region.lexB .any L.toArray = true) (hC : C w.drew)
    (h : wpQuiet P L.toArray C (fun a' => ∀ w', C w' → Q .normal a' w') L a) : (Code.region id L.toArray true).wpIn (Fence.wide.inRound l) n P Q a w := by
  simp only [Region.lexB, Bool.and_eq_true] at hB
  refine wpIn_region_any hm (wpAny_round hd hQ _ _ _ _ (wpAny_of_quiet (C := C) (Q := fun a' => ∀ w', C w' → Q .normal a' w') (fun _ w' hw' h => h w' hw') _ _ _ _ hC ?_))
  have := wpAnyQ_lex (C := C) (md := .any) hB.1 L 0 (Array.replicate L.toArray.size false) a (by simp) (by simpa using hB.2) h
  simpa using this
/-- The mark of a loop over a function, on an activation's deferred calls. -/
def mark7 (r : Nat) : Deferred := { target := .collected r, args := #[] }
def MarksAt (B : Nat) (W : World) (rs : List Nat) : Prop := rs.Nodup ∧ ∀ r ∈ rs, B ≤ r ∧ W.heap[r]? = some (.deferred (some []))
theorem MarksAt.nil (B : Nat) (W : World) : MarksAt B W [] := ⟨List.nodup_nil, fun r h => by cases h⟩
theorem MarksAt.keep {B : Nat} {W W' : World} {rs : List Nat} (h : MarksAt B W rs) (hk : KeepsOthers W W') : MarksAt B W' rs := ⟨h.1, fun r hr => ⟨(h.2 r hr).1, hk.same _ _ (h.2 r hr).2 rfl⟩⟩
theorem MarksAt.cons {B : Nat} {W : World} {rs : List Nat} (h : MarksAt B W rs) {r N : Nat} (hr : W.heap[r]? = some (.deferred (some []))) (hB : B ≤ r) (hN : ∀ k ∈ rs, k < N) (hNr : N ≤ r) : MarksAt B W (r :: rs) :=
  ⟨List.nodup_cons.2 ⟨fun hm => by have := hN r hm; omega, h.1⟩, fun k hk => by
    rcases List.mem_cons.1 hk with rfl | hk
    · exact ⟨hB, hr⟩
    · exact h.2 k hk⟩
theorem MarksAt.lt {B : Nat} {W : World} {rs : List Nat} (h : MarksAt B W rs) : ∀ k ∈ rs, k < W.heap.size := fun k hk => (Array.getElem?_eq_some_iff.1 (h.2 k hk).2).1
/-- What holds cells lies as it lay. -/
def CellsAs (W W' : World) : Prop := ∀ (k : Nat) (o : Obj), o.isCells = true → W.heap[k]? = some o → W'.heap[k]? = some o
theorem CellsAs.cell {W W' : World} (h : CellsAs W W') {p : Addr} {u : Value} (hp : W.cell? p = some u) : W'.cell? p = some u := by
  have hp' := hp
  unfold World.cell? at hp
  cases ho : W.heap[p.block]? with
  | none => rw [ho] at hp; cases hp
  | some o =>
    have hc : o.isCells = true := by
      rw [ho] at hp
      cases o <;> simp_all [Obj.isCells]
    have h2 := h _ o hc ho
    unfold World.cell? at hp' ⊢
    rw [h2]; rw [ho] at hp'; exact hp'
theorem CellsAs.rd {W W' : World} (h : CellsAs W W') {A : Option Addr} {xs : List Value} (hr : Rd W A xs) : Rd W' A xs := hr.keep fun _ _ hp => h.cell hp
theorem leaves_marks {F : Fence} {n : Nat} {P : Program} {fn : Func} {tmps : Array Value} {R : Ending → World → Prop} {B : Nat} : ∀ (rs : List Nat) (W : World), MarksAt B W rs →
    (∀ W', CellsAs W W' → Below B W W' → LeavesInM F n P fn tmps R [] .returning W') → LeavesInM F n P fn tmps R (rs.map mark7) .returning W
  | [], W, _, h => h W (fun _ _ _ h => h) (Below.refl _ _)
  | r :: rs, W, hm, h => by
    have hr := (hm.2 r (List.mem_cons_self ..)).2
    have hB := (hm.2 r (List.mem_cons_self ..)).1
    have hlt : r < W.heap.size := (Array.getElem?_eq_some_iff.1 hr).1
    refine ⟨by simp, .inl ⟨r, _, rfl, run_takeDeferred hr, leaves_marks rs _ ⟨(List.nodup_cons.1 hm.1).2, fun k hk => ⟨(hm.2 k (List.mem_cons_of_mem _ hk)).1, ?_⟩⟩ ?_⟩⟩
    · refine (World.putObj_heap_other ?_).trans (hm.2 k (List.mem_cons_of_mem _ hk)).2
      rintro rfl
      exact (List.nodup_cons.1 hm.1).1 hk
    · intro W' hc hb
      refine h W' (fun k o ho hk => hc k o ho ((World.putObj_heap_other ?_).trans hk)) ?_
      · rintro rfl
        rw [hr] at hk
        injection hk with hk
        subst hk
        cases ho
      have h1 : Below B W (W.putObj r (.deferred none)) := (Below.refl B W).grown (grownBy_putObj' W _ _) (by omega) (fun k e => by injection e with e; omega)
      exact h1.trans hb
theorem stop_appendIn {F : Fence} {n : Nat} {P : Program} {ops : Array Oper} {rest : List Oper} {o : Oper} {a : Act} {Q : Exit → Act → World → Prop} {w : World} {args : Array Operand} {ts : Array TypeId} (_ : o.op = .call { callee := .builtin .append, args := args, argTypes := ts }) (h : Stop (wpListIn F n P ops Q (o :: rest) a w)) : wpListIn F n P ops Q (o :: rest) a w := h
end Go.Px
