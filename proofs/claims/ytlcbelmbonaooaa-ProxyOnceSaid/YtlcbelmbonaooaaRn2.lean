/- A range over a function whose handed values hang on the world; structs loaded and stored at a fence. -/
import Derived.Test.YtlcbelmbonaooaaF24m
import Derived.Maps.OwnIn
import Derived.RangeFuncNested
import Derived.RangeFuncBound
import Derived.RangeFuncCalls
import Derived.RangeFuncLeaves
import Derived.RangeFuncBox
import Derived.Shelf.Abstract
import Derived.WalkKit
import Derived.OwnWalkIn
import Derived.TacticsInMore
import Derived.LoopNIn
import Derived.LoopIn
namespace Go.Px
set_option maxRecDepth 20000
open Go.RowKit Go.Shelf Go.Deep
set_option linter.unusedVariables false
/-- How the body of a round may be left. -/
def outPostV (W : World) (M : World → Prop) (X : Code → World → Prop) : Exit → Act → World → Prop
  | .normal, _, W' => KeepsOthers W W' ∧ M W'
  | .ret, _, W' => KeepsOthers W W' ∧ X .ret W'
  | .exit id, _, W' => KeepsOthers W W' ∧ X (.exit id) W'
  | .goto t, _, W' => KeepsOthers W W' ∧ X (.goto t) W'
  | .panic _, _, _ => False
  | .outgrown, _, _ => False
/-- What an iterator's function owes: J between rounds, K behind one, Y where one has said 'no more'. -/
def IterByV (n : Nat) (P : Program) (f : FuncId) (lb : Array Value) (l : Nat) (V : Nat → World → Array Value → Prop) (More : Nat → Prop) (I M : Nat → World → Prop) : Prop :=
  ∀ (J K : Nat → World → Prop) (Y : World → Prop), (∀ j W, J j W → I j W) → (∀ j W, K j W → M j W) →
    (∀ j W W', J j W → KeepsOthers W W' → I j W' → J j W') → (∀ j W W', K j W → KeepsOthers W W' → I (j + 1) W' → J (j + 1) W') →
    (∀ j W xs, J j W → More j → V j W xs → YieldAt Fence.wide (n - 1) P l xs W fun e W' => (e = .returned (.bool true) ∧ K j W') ∨ (e = .returned (.bool false) ∧ Y W')) →
    ∀ W, J 0 W → CallsIn Fence.wide n P f (#[.func (.yield l) #[] #[]] ++ lb) W fun e W' => (∃ v, e = .returned v) ∧ ((∃ j, J j W' ∧ ¬ More j) ∨ Y W')
theorem range_ownV {P : Program} {ps : Array Tmp} {assign body : Code} {Q : Exit → Act → World → Prop} {a : Act} {g : Operand} {w : World} (n : Nat) (hn : 1 ≤ n) {f : FuncId} {lb : Array Value}
    (hg : a.eval g = .func (.func f) #[] lb) (eg : ∀ (args : Array Value) (w : World), (callFunc f args).run P w = .ok (.enter f args) w) (V : Nat → World → Array Value → Prop) (hps : ∀ j W xs, V j W xs → xs.size = ps.size) (More : Nat → Prop)
    (I M : Nat → World → Prop) (X : Code → World → Prop)
    (hI0 : ∀ r, I 0 ((w.alloc (.deferred (some []))).alloc (.loop r)))
    (hIp : ∀ j W r', w.heap.size + 1 < W.heap.size → I j W → I j (W.putObj (w.heap.size + 1) (.loop r')))
    (hMp : ∀ j W r', w.heap.size + 1 < W.heap.size → M j W → M j (W.putObj (w.heap.size + 1) (.loop r')))
    (hXp : ∀ c W r', w.heap.size + 1 < W.heap.size → X c W → X c (W.putObj (w.heap.size + 1) (.loop r')))
    (hit : IterByV (n - 1) P f lb (w.heap.size + 1) V More I M)
    (hround : ∀ j W xs, I j W → More j → V j W xs → w.heap.size + 2 ≤ W.heap.size →
      assign.wpIn (Fence.wide.inRound (w.heap.size + 1)) (n - 1 - 1) P (Exit.then (fun a₁ W₁ => KeepsOthers W W₁ ∧ ∀ r', body.wpIn (Fence.wide.inRound (w.heap.size + 1)) (n - 1 - 1) P
          (outPostV (W₁.putObj (w.heap.size + 1) (.loop r')) (M j) X) a₁ (W₁.putObj (w.heap.size + 1) (.loop r'))) (fun _ _ _ => False))
        { tmps := (ps.zip xs).foldl (fun t (p, v) => t.setIfInBounds p v) a.tmps, defers := [] } W)
    (hdone : ∀ j W, I j W → ¬ More j → W.heap[w.heap.size]? = some (.deferred (some [])) → Q .normal { a with defers := { target := .collected w.heap.size, args := #[] } :: a.defers } W)
    (hstop : ∀ c W, X c W → W.heap[w.heap.size]? = some (.deferred (some [])) → c.wpIn Fence.wide n P Q { a with defers := { target := .collected w.heap.size, args := #[] } :: a.defers } W) :
    (Code.rangeFunc g ps assign body).wpIn Fence.wide n P Q a w := by
  refine wpIn_rangeFunc ?_
  intro fn _
  obtain ⟨rec, hrec⟩ : ∃ rec : LoopState → Option Code → Loop, rec = fun st pe => { state := st, pending := pe, fn, tmps := a.tmps, params := ps, assign, body, defers := w.heap.size } := ⟨_, rfl⟩
  obtain ⟨W1, hW1⟩ : ∃ W1, (w.alloc (.deferred (some []))).alloc (.loop (rec .ready none)) = W1 := ⟨_, rfl⟩
  have hL : W1.heap[w.heap.size + 1]? = some (.loop (rec .ready none)) := by
    rw [← hW1]; have := World.alloc_heap_new (w.alloc (.deferred (some []))) (.loop (rec .ready none)); rwa [World.size_alloc] at this
  have hD : W1.heap[w.heap.size]? = some (.deferred (some [])) := by
    rw [← hW1]; exact (Below.heap_alloc _ _ _ (by simp)).trans (World.alloc_heap_new w _)
  have hI : I 0 W1 := by rw [← hW1]; exact hI0 _
  refine ⟨w.heap.size + 1, [{ target := .collected w.heap.size, args := #[] }], W1, { target := .fn (.func f) lb, args := #[.func (.yield (w.heap.size + 1)) #[] #[]] }, W1, f,
    #[.func (.yield (w.heap.size + 1)) #[] #[]] ++ lb, W1, ?_, ?_, ?_, ?_, ?_, ?_⟩
  · rw [← hW1, hrec]; exact run_enterLoop_outer _ _ _ _ _
  · simp only [resolve, hg]
    simp [go_sem]
  · intro f' _; trivial
  · simp [invoke, go_sem, eg]
  · intro _; exact hn
  · refine (hit (fun j W => I j W ∧ W.heap[w.heap.size + 1]? = some (.loop (rec .ready none)) ∧ W.heap[w.heap.size]? = some (.deferred (some [])))
      (fun j W => M j W ∧ W.heap[w.heap.size + 1]? = some (.loop (rec .ready none)) ∧ W.heap[w.heap.size]? = some (.deferred (some [])))
      (fun W => ∃ c, X c W ∧ W.heap[w.heap.size + 1]? = some (.loop (rec .done (some c))) ∧ W.heap[w.heap.size]? = some (.deferred (some [])))
      (fun j W h => h.1) (fun j W h => h.1) (fun j W W' h hk hi => ⟨hi, hk.same _ _ h.2.1 rfl, hk.same _ _ h.2.2 rfl⟩) (fun j W W' h hk hi => ⟨hi, hk.same _ _ h.2.1 rfl, hk.same _ _ h.2.2 rfl⟩) ?_ W1 ⟨hI, hL, hD⟩).mono ?_
    · rintro j W xs ⟨hi, hl, hd⟩ hm hv
      have hlt : w.heap.size + 1 < W.heap.size := (Array.getElem?_eq_some_iff.1 hl).1
      have hy := run_yield (P := P) (args := xs) hl (by rw [hrec]; exact hps j W xs hv)
      have hR := hround j W xs hi hm hv (by omega)
      rw [hrec] at hy
      refine ⟨fn, _, assign, body, hy, roundIn_of_wpIn trivial (wpIn_mono hR ?_)⟩
      intro e a₁ W₁ hq
      cases e with
      | normal =>
        obtain ⟨hk1, hb⟩ := hq
        have hl1 := hk1.same _ _ hl rfl
        have hd1 := hk1.same _ _ hd rfl
        have hs1 := hk1.size
        refine ⟨_, run_beginRound hl1 (by rw [hrec]), ?_⟩
        refine wpIn_mono (hb { rec .ready none with state := .busy }) ?_
        have hl2 : (W₁.putObj (w.heap.size + 1) (.loop { rec .ready none with state := .busy })).heap[w.heap.size + 1]? = some (.loop { rec .ready none with state := .busy }) := World.putObj_heap_same (by omega)
        have hd2 : (W₁.putObj (w.heap.size + 1) (.loop { rec .ready none with state := .busy })).heap[w.heap.size]? = some (.deferred (some [])) := (World.putObj_heap_other (by omega)).trans hd1
        have fin : ∀ (jump : Option Code) (W3 : World), KeepsOthers (W₁.putObj (w.heap.size + 1) (.loop { rec .ready none with state := .busy })) W3 →
            w.heap.size + 1 < W3.heap.size ∧ (Instr.endRound (w.heap.size + 1) jump).run P W3 = .ok (.bool jump.isNone) (W3.putObj (w.heap.size + 1) (.loop (rec (if jump.isNone then .ready else .done) jump))) ∧
            (W3.putObj (w.heap.size + 1) (.loop (rec (if jump.isNone then .ready else .done) jump))).heap[w.heap.size + 1]? = some (.loop (rec (if jump.isNone then .ready else .done) jump)) ∧
            (W3.putObj (w.heap.size + 1) (.loop (rec (if jump.isNone then .ready else .done) jump))).heap[w.heap.size]? = some (.deferred (some [])) := by
          intro jump W3 hk
          have h3 := hk.same _ _ hl2 rfl
          have h4 := hk.same _ _ hd2 rfl
          have h5 : w.heap.size + 1 < W3.heap.size := (Array.getElem?_eq_some_iff.1 h3).1
          refine ⟨h5, ?_, World.putObj_heap_same h5, (World.putObj_heap_other (by omega)).trans h4⟩
          have := run_endRound (P := P) jump h3
          rw [hrec] at this ⊢
          exact this
        intro e2 a2 W3 hq2
        cases e2 with
        | normal =>
          obtain ⟨hk, hM⟩ := hq2
          obtain ⟨f0, f1, f2, f3⟩ := fin none W3 hk
          exact ⟨_, _, f1, .inl ⟨rfl, hMp _ _ _ f0 hM, f2, f3⟩⟩
        | ret =>
          obtain ⟨hk, hM⟩ := hq2
          obtain ⟨f0, f1, f2, f3⟩ := fin (some .ret) W3 hk
          exact ⟨_, _, f1, .inr ⟨rfl, _, hXp _ _ _ f0 hM, f2, f3⟩⟩
        | exit id =>
          obtain ⟨hk, hM⟩ := hq2
          obtain ⟨f0, f1, f2, f3⟩ := fin (some (.exit id)) W3 hk
          exact ⟨_, _, f1, .inr ⟨rfl, _, hXp _ _ _ f0 hM, f2, f3⟩⟩
        | goto t =>
          obtain ⟨hk, hM⟩ := hq2
          obtain ⟨f0, f1, f2, f3⟩ := fin (some (.goto t)) W3 hk
          exact ⟨_, _, f1, .inr ⟨rfl, _, hXp _ _ _ f0 hM, f2, f3⟩⟩
        | panic c => exact hq2.elim
        | outgrown => exact hq2.elim
      | ret => exact hq.elim
      | exit id => exact hq.elim
      | goto t => exact hq.elim
      | panic c => exact hq.elim
      | outgrown => exact hq.elim
    · rintro e W2 ⟨⟨v, rfl⟩, ⟨j, ⟨hi, hl, hd⟩, hm⟩ | ⟨c, hx, hl, hd⟩⟩
      · have hlt : w.heap.size + 1 < W2.heap.size := (Array.getElem?_eq_some_iff.1 hl).1
        refine ⟨none, _, by have := run_endLoop (P := P) hl (by rw [hrec]; simp); rw [show (rec .ready none).pending = none from by rw [hrec]] at this; exact this, ?_⟩
        exact hdone j _ (hIp _ _ _ hlt hi) hm ((World.putObj_heap_other (by omega)).trans hd)
      · have hlt : w.heap.size + 1 < W2.heap.size := (Array.getElem?_eq_some_iff.1 hl).1
        refine ⟨some c, _, by have := run_endLoop (P := P) hl (by rw [hrec]; simp); rw [show (rec .done (some c)).pending = some c from by rw [hrec]] at this; exact this, ?_⟩
        exact hstop c _ (hXp _ _ _ hlt hx) ((World.putObj_heap_other (by omega)).trans hd)
section
variable {F : Fence} {n : Nat} {P : Program} {w : World} {ops : Array Oper} {rest : List Oper} {o : Oper} {a : Act} {Q : Exit → Act → World → Prop}
theorem stop_loadIn (T : TypeId) {x : Operand} (_ : o.op = .load T x) (h : Stop (wpListIn F n P ops Q (o :: rest) a w)) : wpListIn F n P ops Q (o :: rest) a w := h
theorem stop_storeIn (T : TypeId) {x y : Operand} (_ : o.op = .store T x y) (h : Stop (wpListIn F n P ops Q (o :: rest) a w)) : wpListIn F n P ops Q (o :: rest) a w := h
theorem go_loadIn (hgd : o.guard = none) {T : TypeId} {x : Operand} (ho : o.op = .load T x) {b k : Nat} (hx : a.eval x = .pointer (some ⟨b, k, none⟩)) {cs : List Value} {d : TypeDesc} {B : TypeId} (hc : Blk w b cs B)
    (us : List Value) (hk : (cs.drop k).take us.length = us) (hu : P.underlying T = some d) (hd : d.isRow = true) (hi : (P.info? T).map (·.size) = some us.length)
    (h : wpListIn F n P ops Q rest (a.put o.dst (.agg us.toArray)) w) : Stop (wpListIn F n P ops Q (o :: rest) a w) := by
  refine wpListIn_plain hgd fun K hK => ?_
  unfold Oper.wpIn
  refine ⟨by simp [Oper.about, ho], ?_⟩
  rw [Oper.semAt_plain F _ _ (by rw [ho]; intro c hc'; cases hc')]
  simp only [execOp, ho, hx, Instr.loadAt, Instr.sureAddr, Sem.run_bind, Sem.run_pure, Result.andThen_ok, run_loadVar_mid w b k T us d (hc.part hk) hu hd hi]
  exact hK _ _ h
theorem go_storeIn (hgd : o.guard = none) (hdn : o.dst = none) {T : TypeId} {x y : Operand} (ho : o.op = .store T x y) {b k : Nat} (hx : a.eval x = .pointer (some ⟨b, k, none⟩)) {cs : List Value} {B : TypeId} (hc : Blk w b cs B)
    (us : List Value) (hy : a.eval y = .agg us.toArray) (hk : k + us.length ≤ cs.length) (hi : (P.info? T).map (·.size) = some us.length) (h1 : ∀ u ∈ us, u.oneCell' = true)
    (h : wpListIn F n P ops Q rest a (w.setCells b k us)) : Stop (wpListIn F n P ops Q (o :: rest) a w) := by
  refine wpListIn_plain hgd fun K hK => ?_
  unfold Oper.wpIn
  refine ⟨by simp [Oper.about, ho], ?_⟩
  rw [Oper.semAt_plain F _ _ (by rw [ho]; intro c hc'; cases hc')]
  have hr := run_storeVar_mid (P := P) w b k T us.toArray (fun j hj => by
    have := hc.there (k + j) (by have : j < us.length := by simpa using hj
                                 omega)
    rw [Nat.zero_add] at this
    exact this) (by simpa using hi) (all_oneCell_toArray h1)
  simp only [execOp, ho, hx, hy, Instr.storeAt, Instr.sureAddr, Sem.run_bind, Sem.run_pure, Result.andThen_ok, hr]
  have hp : a.put o.dst undef = a := by rw [hdn]; rfl
  exact hK _ _ (by rw [hp]; simpa using h)
end
end Go.Px
