/- Texts joined (shake.py). -/
import Derived.Test.YtkknkdjdneldlaaGreatK61
import Derived.Test.YtkknkdjdneldlaaGreatK63
import Derived.Test.YtkknkdjdneldlaaGreatK66
import Derived.Test.YtkknkdjdneldlaaGreatK68
import Derived.Test.YtkknkdjdneldlaaGreatK616
namespace Go.Proofs.YtkknkdjdneldlaaGreat
set_option maxRecDepth 20000
open Go.RowKit Go.Px Go.Maps
set_option linter.unusedVariables false
section
variable {X Y : Nat → Prop} {w w' : World}
theorem VolIs.fr {v r s b z N : Nat} {bs : List UInt8} {vs : List Int} {last : Int} (h : VolIs w v r s b z N bs vs last) (hf : Fr X w w') (h1 : ¬ X v) (h2 : ¬ X r) (h3 : ¬ X s) : VolIs w' v r s b z N bs vs last :=
  { h with blk := h.blk.fr hf h1, row := h.row.fr hf h2, ver := h.ver.fr hf h3 }
theorem Fr.of_upd {v r s : Nat} (h : Upd v r s w w') (h1 : X v) (h2 : X r) (h3 : X s) : Fr X w w' :=
  ⟨h.os, h.tape, h.output, h.size, fun k hk hx => h.blk k hk (fun e => hx (by rw [e]; exact h1)) (fun e => hx (by rw [e]; exact h2)) (fun e => hx (by rw [e]; exact h3))⟩
/-- Each entry's data lies where P says. -/
def DataAt (w : World) (D : DataW Value) (m : TM) (P : Nat → Prop) : Prop := ∀ c s k bs A d dc, m c = some (s, k, bs) → D.atKey (.int .i64 c) (.held zeroE) = .held (entV s k A d dc) → bs ≠ [] → ∀ a, A = some a → P a.block
theorem DataAt.mono {D : DataW Value} {m : TM} {P P' : Nat → Prop} (h : DataAt w D m P) (hP : ∀ b, P b → P' b) : DataAt w' D m P' := fun c s k bs A d dc h1 h2 h3 a ha => hP _ (h c s k bs A d dc h1 h2 h3 a ha)
theorem DataAt.put {B t bm N : Nat} {D : DataW Value} {m : TM} {P : Nat → Prop} (hT : TabIs w B t bm N D m) (h : DataAt w D m P) {c s : Int} {k : Nat} {bs : List UInt8} {A : Option Addr} {d dc : Nat} (hA : ∀ a, A = some a → P a.block) : DataAt w' (D.put (.int .i64 c) (.held (entV s k A d dc))) (tmPut m c s k bs) P := by
  intro c' s' k' bs' A' d' dc' hm hat hne a ha
  by_cases hc : c' = c
  · subst hc
    rw [atKey_put_same hT.own.isMap (keyLit c')] at hat
    injection hat with hat
    injection hat with hat
    have hat2 := congrArg Array.toList hat
    simp at hat2
    obtain ⟨_, _, hat3, _, _⟩ := hat2
    subst hat3
    exact hA a ha
  · rw [atKey_put_other (by intro e; injection e with _ e; exact hc e)] at hat
    unfold tmPut at hm
    rw [if_neg hc] at hm
    exact h c' s' k' bs' A' d' dc' hm hat hne a ha
theorem TabIs.fr {B t bm N : Nat} {D : DataW Value} {m : TM} (h : TabIs w B t bm N D m) (hf : Fr X w w') (h1 : ¬ X t) (h2 : ¬ X bm) (hd : DataAt w D m fun b => ¬ X b) : TabIs w' B t bm N D m :=
  { blk := h.blk.fr hf h1
    own := by
      obtain ⟨es, cl, hh, hr⟩ := h.own
      exact ⟨es, cl, (hf.blk bm h.own.lt h2).trans hh, hr⟩
    at_ := fun c => by
      have := h.at_ c
      cases hm : m c with
      | none => rw [hm] at this; exact this
      | some y =>
        obtain ⟨s, k, bs⟩ := y
        rw [hm] at this
        obtain ⟨q0, q8, A, d, dc, q1, q2, q3, q4, q5, q6, q7⟩ := this
        refine ⟨q0, q8, A, d, dc, q1, q2, q3, q4, q5, q6.fr hf (fun hne a ha => hd c s k bs A d dc hm q1 (fun e => hne (by rw [e]; rfl)) a ha), q7⟩
    ne := h.ne
    hB := h.hB }
theorem TabIs.dataB {B t bm N : Nat} {D : DataW Value} {m : TM} (h : TabIs w B t bm N D m) : DataAt w D m fun b => (B ≤ b ∧ b ≠ t ∧ b ≠ bm) ∧ b < w.heap.size := by
  intro c s k bs A d dc hm hat hne a ha
  have := h.at_ c
  rw [hm] at this
  obtain ⟨q0, q8, A', d', dc', q1, q2, q3, q4, q5, q6, q7⟩ := this
  rw [hat] at q1
  injection q1 with q1
  injection q1 with q1
  have q := congrArg Array.toList q1
  simp at q
  obtain ⟨e1, _⟩ := q
  subst e1
  exact ⟨q7 a ha, rd_block q6 (fun e => hne (List.map_eq_nil_iff.1 e)) a ha⟩
end
/-- What a table of rows knows. -/
def tmOf (es : List RowD) : TM := fun c => (es.find? fun e => decide (e.1 = c)).map (·.2)
theorem tmOf_eq {m : TM} {es : List RowD} (h : ∀ e : RowT, e ∈ es ↔ m e.1 = some e.2) : m = tmOf es := by
  funext c
  unfold tmOf
  cases hf : es.find? fun e => decide (e.1 = c) with
  | none =>
    cases hm : m c with
    | none => rfl
    | some y =>
      have h1 := (h (c, y)).2 hm
      have := List.find?_eq_none.1 hf _ h1
      simp at this
  | some e =>
    have h1 := List.mem_of_find?_eq_some hf
    have h2 := List.find?_some hf
    have h3 : e.1 = c := by simpa using h2
    have := (h e).1 h1
    rw [h3] at this
    exact this
theorem tmOf_mem {es : List RowD} (hs : es.Pairwise (fun x y => x.1 < y.1)) : ∀ e : RowT, e ∈ es ↔ tmOf es e.1 = some e.2 := by
  intro e
  unfold tmOf
  constructor
  · intro he
    cases hf : es.find? fun x => decide (x.1 = e.1) with
    | none =>
      have := List.find?_eq_none.1 hf _ he
      simp at this
    | some x =>
      have h1 := List.mem_of_find?_eq_some hf
      have h2 := List.find?_some hf
      have h3 : x.1 = e.1 := by simpa using h2
      have : x = e := by
        obtain ⟨i, hi, rfl⟩ := List.mem_iff_getElem.1 h1
        obtain ⟨j, hj, rfl⟩ := List.mem_iff_getElem.1 he
        rcases Nat.lt_trichotomy i j with hlt | rfl | hlt
        · have := List.pairwise_iff_getElem.1 hs i j hi hj hlt; omega
        · rfl
        · have := List.pairwise_iff_getElem.1 hs j i hj hi hlt; omega
      rw [this]; rfl
  · intro hm
    cases hf : es.find? fun x => decide (x.1 = e.1) with
    | none => rw [hf] at hm; cases hm
    | some x =>
      rw [hf] at hm
      have h1 := List.mem_of_find?_eq_some hf
      have h2 := List.find?_some hf
      have h3 : x.1 = e.1 := by simpa using h2
      have h4 : x.2 = e.2 := by simpa using hm
      have : x = e := Prod.ext h3 h4
      rw [← this]; exact h1
/-- What a machine is, as a plain value. -/
structure MA where
  num : Int
  b : Nat
  z : Nat
  bs : List UInt8
  vs : List Int
  last : Int
  rows : List RowD
  ep : Int
  ms : List Int
/-- The blocks that a machine writes, and its table's. -/
structure MFp where
  mb : Nat
  v : Nat
  r : Nat
  s : Nat
  t : Nat
  bm : Nat
def MFp.W (f : MFp) (k : Nat) : Prop := k = f.mb ∨ k = f.v ∨ k = f.r ∨ k = f.s ∨ k = f.bm
/-- A machine in memory: nothing of it lies below L, or in Y. -/
structure MIs (w : World) (L : Nat) (Y : Nat → Prop) (f : MFp) (a : MA) (N NN B : Nat) (D : DataW Value) (G : Option Addr) (gn gc : Nat) : Prop where
  blk : Blk w f.mb [.pointer (some ⟨f.v, 0, none⟩), .pointer (some ⟨f.t, 0, none⟩), .int .i64 a.ep, .slice G gn gc, .int .i64 a.num] 90
  vol : VolIs w f.v f.r f.s a.b a.z NN a.bs a.vs a.last
  tab : TabIs w B f.t f.bm N D (tmOf a.rows)
  sz : Maps.size D = a.rows.length
  gr : Rd w G (ints a.ms)
  gl : a.ms.length = gn
  gc_ : gn ≤ gc ∧ gc ≤ 9223372036854775807
  ok : grpOk a.ep a.ms = true
  lo : L ≤ f.v ∧ L ≤ f.r ∧ L ≤ f.s
  hiB : f.v < B ∧ f.r < B ∧ f.s < B ∧ B ≤ f.mb
  ne : f.mb ≠ f.t ∧ f.mb ≠ f.bm
  gA : ∀ a, G = some a → B ≤ a.block ∧ a.block ≠ f.mb ∧ a.block ≠ f.bm ∧ a.block ≠ f.t ∧ ¬ Y a.block
  dA : DataAt w D (tmOf a.rows) fun b => b ≠ f.mb ∧ ¬ Y b
  yA : ¬ Y f.mb ∧ ¬ Y f.v ∧ ¬ Y f.r ∧ ¬ Y f.s ∧ ¬ Y f.t ∧ ¬ Y f.bm
/-- .. somehow. -/
def MX (w : World) (L : Nat) (Y : Nat → Prop) (f : MFp) (a : MA) (N : Nat) : Prop := ∃ NN B D G gn gc, MIs w L Y f a N NN B D G gn gc
section
variable {X Y : Nat → Prop} {w w' : World} {L : Nat} {f : MFp} {a : MA} {N NN B : Nat} {D : DataW Value} {G : Option Addr} {gn gc : Nat}
/-- What is written elsewhere leaves it. -/
theorem MIs.fr (h : MIs w L Y f a N NN B D G gn gc) (hf : Fr X w w') (hX : ∀ b, X b → b < w.heap.size → Y b) : MIs w' L Y f a N NN B D G gn gc := by
  obtain ⟨y1, y2, y3, y4, y5, y6⟩ := h.yA
  have lt : ∀ b, b < w.heap.size → ¬ Y b → ¬ X b := fun b h1 h2 h3 => h2 (hX b h3 h1)
  exact { h with
    blk := h.blk.fr hf (lt _ h.blk.lt y1)
    vol := h.vol.fr hf (lt _ h.vol.blk.lt y2) (lt _ h.vol.row.lt y3) (lt _ h.vol.ver.lt y4)
    tab := by
      refine h.tab.fr hf (lt _ h.tab.blk.lt y5) (lt _ h.tab.own.lt y6) ?_
      intro c s k bs A d dc hm hat hne a' ha
      have h1 := h.dA c s k bs A d dc hm hat hne a' ha
      have := h.tab.at_ c
      rw [hm] at this
      obtain ⟨q0, q8, A', d', dc', q1, q2, q3, q4, q5, q6, q7⟩ := this
      rw [hat] at q1
      injection q1 with q1
      injection q1 with q1
      have q := congrArg Array.toList q1
      simp at q
      obtain ⟨e1, _⟩ := q
      subst e1
      exact lt _ (rd_block q6 (fun e => hne (List.map_eq_nil_iff.1 e)) a' ha) h1.2
    gr := h.gr.fr hf (fun hne a' ha => lt _ (rd_block h.gr hne a' ha) (h.gA a' ha).2.2.2.2)
    dA := fun c s k bs A d dc hm hat hne a' ha => h.dA c s k bs A d dc hm hat hne a' ha }
/-- What is new to its world it avoids. -/
theorem MIs.avoid {Z : Nat → Prop} (h : MIs w L Y f a N NN B D G gn gc) (hZ : ∀ b, Z b → w.heap.size ≤ b) : MIs w L (fun b => Y b ∨ Z b) f a N NN B D G gn gc := by
  obtain ⟨y1, y2, y3, y4, y5, y6⟩ := h.yA
  have no : ∀ b, b < w.heap.size → ¬ Y b → ¬ (Y b ∨ Z b) := fun b h1 h2 h3 => by
    rcases h3 with h3 | h3
    · exact h2 h3
    · have := hZ b h3; omega
  exact { h with
    gA := fun a' ha => by
      obtain ⟨g1, g2, g3, g4, g5⟩ := h.gA a' ha
      refine ⟨g1, g2, g3, g4, no _ (rd_block h.gr (fun e => ?_) a' ha) g5⟩
      have e2 : a.ms.length = 0 := by simpa [ints] using congrArg List.length e
      have := h.ok
      unfold grpOk at this
      simp only [Bool.and_eq_true, decide_eq_true_eq] at this
      omega
    dA := fun c s k bs A d dc hm hat hne a' ha => by
      have h1 := h.dA c s k bs A d dc hm hat hne a' ha
      exact ⟨h1.1, no _ (h.tab.dataB c s k bs A d dc hm hat hne a' ha).2 h1.2⟩
    yA := ⟨no _ h.blk.lt y1, no _ h.vol.blk.lt y2, no _ h.vol.row.lt y3, no _ h.vol.ver.lt y4, no _ h.tab.blk.lt y5, no _ h.tab.own.lt y6⟩ }
theorem MIs.free {Y' : Nat → Prop} (h : MIs w L Y f a N NN B D G gn gc) (hY : ∀ b, Y' b → Y b) : MIs w L Y' f a N NN B D G gn gc := by
  obtain ⟨y1, y2, y3, y4, y5, y6⟩ := h.yA
  exact { h with
    gA := fun a' ha => by
      obtain ⟨g1, g2, g3, g4, g5⟩ := h.gA a' ha
      exact ⟨g1, g2, g3, g4, fun hy => g5 (hY _ hy)⟩
    dA := h.dA.mono fun b hb => ⟨hb.1, fun hy => hb.2 (hY _ hy)⟩
    yA := ⟨fun hy => y1 (hY _ hy), fun hy => y2 (hY _ hy), fun hy => y3 (hY _ hy), fun hy => y4 (hY _ hy), fun hy => y5 (hY _ hy), fun hy => y6 (hY _ hy)⟩ }
theorem MIs.below (h : MIs w L Y f a N NN B D G gn gc) (hb : Below w.heap.size w w') : MIs w' L Y f a N NN B D G gn gc :=
  h.fr (X := fun _ => False) (Fr.of_below hb) (fun b h => h.elim)
theorem MX.below (h : MX w L Y f a N) (hb : Below w.heap.size w w') : MX w' L Y f a N := by
  obtain ⟨NN, B, D, G, gn, gc, h⟩ := h
  exact ⟨NN, B, D, G, gn, gc, h.below hb⟩
theorem MX.lower {L' : Nat} (h : MX w L Y f a N) (hL : L' ≤ L) : MX w L' Y f a N := by
  obtain ⟨NN, B, D, G, gn, gc, h⟩ := h
  exact ⟨NN, B, D, G, gn, gc, { h with lo := by obtain ⟨a, b, c⟩ := h.lo; omega }⟩
theorem MIs.low (h : MIs w L Y f a N NN B D G gn gc) : ∀ k, f.W k → L ≤ k := by
  obtain ⟨l1, l2, l3⟩ := h.lo
  obtain ⟨b1, b2, b3, b4⟩ := h.hiB
  obtain ⟨c1, c2⟩ := h.tab.hB
  rintro k (rfl | rfl | rfl | rfl | rfl) <;> omega
theorem MIs.lts (h : MIs w L Y f a N NN B D G gn gc) : ∀ k, f.W k → k < w.heap.size := by
  rintro k (rfl | rfl | rfl | rfl | rfl)
  · exact h.blk.lt
  · exact h.vol.blk.lt
  · exact h.vol.row.lt
  · exact h.vol.ver.lt
  · exact h.tab.own.lt
theorem made7_any (h : MIs w L Y f a N NN B D G gn gc) : Calls Tryz.prog 42 #[.pointer (some ⟨f.mb, 0, none⟩)] w fun e w' => e = .returned (.bool true) ∧ w = w' := by
  have x0 := h.blk.cell (j := 0) rfl
  go_enter Tryz.func42, Tryz.ntmps42
  go_wp2
  go_ret
  exact ⟨rfl, rfl⟩
theorem num7_any (h : MIs w L Y f a N NN B D G gn gc) : Calls Tryz.prog 15 #[.pointer (some ⟨f.mb, 0, none⟩)] w fun e w' => e = .returned (.int .i64 a.num) ∧ w = w' := by
  have x4 := h.blk.cell (j := 4) rfl
  go_enter Tryz.func15, Tryz.ntmps15
  go_wp2_with fail
  go_fit (made7_any h)
  rintro x w1 ⟨rfl, rfl⟩
  go_wp2
  go_ret
  exact ⟨rfl, rfl⟩
end
set_option maxHeartbeats 800000 in
theorem cloneG_any (e : Int) (A : Option Addr) (n c : Nat) (ms : List Int) (w : World) (hn : ms.length = n) (h8 : n ≤ 1099511627776) (hr : Rd w A (ints ms)) :
    Calls Tryz.prog 56 #[grp e A n c] w fun x w' => ∃ A' c', x = .returned (grp e A' n c') ∧ n ≤ c' ∧ c' ≤ 9223372036854775807 ∧ Rd w' A' (ints ms) ∧ (∀ a, A' = some a → w.heap.size ≤ a.block) ∧ Below w.heap.size w w' := by
  obtain ⟨g, hg⟩ : ∃ g, w.heap.size = g := ⟨_, rfl⟩
  obtain ⟨w0, hw0⟩ : ∃ x, (w.alloc (.cells #[.int .i64 e, .slice A n c] 28)).alloc (.cells #[.int .i64 0, .slice none 0 0] 28) = x := ⟨_, rfl⟩
  have hP : Blk w0 g [.int .i64 e, .slice A n c] 28 := by rw [← hw0, ← hg]; exact (Blk.new w [.int .i64 e, .slice A n c] _).alloc _
  have hZ : Blk w0 (g + 1) [.int .i64 0, .slice none 0 0] 28 := by
    rw [← hw0, ← hg]
    have := Blk.new (w.alloc (.cells #[.int .i64 e, .slice A n c] 28)) [.int .i64 0, .slice none 0 0] 28
    rwa [World.size_alloc] at this
  have hb0 : Below w.heap.size w w0 := by rw [← hw0]; exact ((Below.refl _ _).alloc (Nat.le_refl _) _).alloc (by simp) _
  have x1 := hP.cell (j := 1) rfl
  have Hn := hide hn
  have hr0 := hr.below hb0
  have zl := hZ.lt
  clear hn
  go_enter Tryz.func56, Tryz.ntmps56
  go_wp2_with fail
  first | rw [hw0] | skip
  go_fit (iclone_any A n c ms w0 Hn.out h8 hr0)
  rintro x w1 ⟨u, rfl, ho, hb1⟩
  obtain ⟨A1, c1, rfl, _, hc1, hcm1, hr1, ha1⟩ := own_out ho
  have hP1 := hP.below hb1
  have hZ1 := hZ.below hb1
  have szz := hb0.size
  have szy := hb1.size
  clear x1
  have x0 := hP1.cell (j := 0) rfl
  have x1 := hP1.cell (j := 1) rfl
  have f1 := hP1.frozen 1
  have z0 := hZ1.cell (j := 0) rfl
  have z1 := hZ1.cell (j := 1) rfl
  have fz0 := hZ1.frozen 0
  have fz1 := hZ1.frozen 1
  have hP2 := hP1.set 1 (.slice A1 n c1)
  have hZ2 := hZ1.apart (k := g) (by omega) 1 (.slice A1 n c1)
  have y0 := hP2.cell (j := 0) rfl
  have y1 := hP2.cell (j := 1) rfl
  have v0 := hZ2.cell (j := 0) rfl
  have v1 := hZ2.cell (j := 1) rfl
  have fv0 := hZ2.frozen 0
  have fv1 := hZ2.frozen 1
  go_wp2
  refine bodyPost_ret (results_cell rfl rfl ((hZ2.set 0 (.int .i64 e)).set 1 (.slice A1 n c1)) Tryz.underlying28 rfl (by kernel_rfl)) rfl ?_
  refine ⟨A1, c1, rfl, hc1, by unfold maxLen at hcm1; omega, ?_, fun a ha => by have := ha1 a ha; omega, (((hb0.trans (hb1.mono hb0.size)).setCell (leBk (by omega)) _).setCell (leBk (by omega)) _).setCell (leBk (by omega)) _⟩
  exact ((hr1.upset (fun a ha => (ha1 a ha).1) (by omega)).upset (fun a ha => (ha1 a ha).1) (by omega)).upset (fun a ha => (ha1 a ha).1) (by omega)
end Go.Proofs.YtkknkdjdneldlaaGreat
namespace Go.Proofs.YtkknkdjdneldlaaGreat
set_option maxRecDepth 20000
open Go.RowKit Go.Px Go.Maps
set_option linter.unusedVariables false
/-- The machine of a state. -/
def MA.of (x : StateD) : MA :=
  { num := x.1, b := x.2.1.1.toNat, z := x.2.1.2.toNat, bs := layB x.2.1.2.toNat (List.replicate (x.2.1.1.toNat * x.2.1.2.toNat) 0) x.2.2.1, vs := layV (List.replicate x.2.1.1.toNat 0) x.2.2.1, last := layL 0 x.2.2.1,
    rows := x.2.2.2.1, ep := x.2.2.2.2.1, ms := x.2.2.2.2.2 }
theorem stateB_out {x : StateD} (h : stateB x = true) : numB x.1 = true ∧ shE x.2.1.1 x.2.1.2 = 0 ∧ mpA x.2.1.1 x.2.1.2 (-1) x.2.2.1 = true ∧ rowsB x.2.2.2.1 = true ∧ grpOk x.2.2.2.2.1 x.2.2.2.2.2 = true ∧ versB x.1 x.2.2.1 = true := by
  unfold stateB at h
  simp only [Bool.and_eq_true, beq_iff_eq] at h
  exact h
theorem shE_out {b z : Int} (h : shE b z = 0) : ∃ b' z' : Nat, b = b' ∧ z = z' ∧ (1 ≤ b' ∧ b' ≤ 4096) ∧ 1 ≤ z' ∧ z' ≤ 4096 := by
  unfold shE at h
  split at h
  · rename_i h1
    exact ⟨b.toNat, z.toNat, by omega, by omega, by omega, by omega⟩
  · cases h
theorem grp_len {e : Int} {ms : List Int} (h : grpOk e ms = true) : 1 ≤ ms.length ∧ ms.length ≤ 9 := by
  unfold grpOk at h
  simp only [Bool.and_eq_true, decide_eq_true_eq] at h
  exact h.2.1
set_option maxRecDepth 20000 in
set_option maxHeartbeats 6400000 in
theorem load7_any {w : World} {Q Y : Nat → Prop} {x : StateD} {cs : List Value} (h : tyState.Is w Q x cs) (hx : stateB x = true) (hY : ∀ b, Y b → b < w.heap.size) : Calls Tryz.prog 40 #[.agg cs.toArray] w fun e w' =>
    ∃ f, e = .returned (.tuple #[.pointer (some ⟨f.mb, 0, none⟩), .int .i64 0]) ∧ MX w' w.heap.size Y f (MA.of x) 64 ∧ Below w.heap.size w w' := by
  have h' := h
  obtain ⟨sNum, sShapeBlocks, sShapeSize, sPages, sPagesA, sPagesn, sPagesc, sPagesv, sRows, sRowsA, sRowsn, sRowsc, sRowsv, sGroupEpoch, sGroupMembers, sGroupMembersA, sGroupMembersn, sGroupMembersc, sGroupMembersv, rfl, rfl, h1_sNum, h2_sNum, h1_sShapeBlocks, h2_sShapeBlocks, h1_sShapeSize, h2_sShapeSize, hl_sPages, hc_sPages, hm_sPages, hr_sPages, hq_sPages, he_sPages, hl_sRows, hc_sRows, hm_sRows, hr_sRows, hq_sRows, he_sRows, h1_sGroupEpoch, h2_sGroupEpoch, hl_sGroupMembers, hc_sGroupMembers, hm_sGroupMembers, hr_sGroupMembers, hq_sGroupMembers, he_sGroupMembers⟩ := State_out h'
  obtain ⟨x1, x2, x3, x4, x5, x6⟩ := stateB_out hx
  simp only at x1 x2 x3 x4 x5 x6
  obtain ⟨sShapeBlocks, sShapeSize, rfl, rfl, hb, hz⟩ := shE_out x2
  have hx' := hx
  have hP := pg_of he_sPages
  have hE := rw_of he_sRows
  obtain ⟨hmi, _⟩ := i64rows he_sGroupMembers
  subst hmi
  obtain ⟨w0, hw0⟩ : ∃ x, w.alloc (.cells #[.int .i64 sNum, .int .i64 sShapeBlocks, .int .i64 sShapeSize, .slice sPagesA sPagesn sPagesc, .slice sRowsA sRowsn sRowsc, .int .i64 sGroupEpoch, .slice sGroupMembersA sGroupMembersn sGroupMembersc] 30) = x := ⟨_, rfl⟩; have hBw0 : Blk w0 w.heap.size [.int .i64 sNum, .int .i64 sShapeBlocks, .int .i64 sShapeSize, .slice sPagesA sPagesn sPagesc, .slice sRowsA sRowsn sRowsc, .int .i64 sGroupEpoch, .slice sGroupMembersA sGroupMembersn sGroupMembersc] 30 := (by rw [← hw0]; exact Blk.new w [.int .i64 sNum, .int .i64 sShapeBlocks, .int .i64 sShapeSize, .slice sPagesA sPagesn sPagesc, .slice sRowsA sRowsn sRowsc, .int .i64 sGroupEpoch, .slice sGroupMembersA sGroupMembersn sGroupMembersc] _); have hbw0 : Below w.heap.size w w0 := (by rw [← hw0]; exact (Below.refl _ _).alloc (Nat.le_refl _) _); have Hw0 := hide hw0; clear hw0
  have h0 := h.below hbw0
  have hP0 := hP.below hbw0
  have hE0 := hE.below hbw0
  have hrP := hr_sPages.below hbw0
  have hrE := hr_sRows.below hbw0
  have hrM := hr_sGroupMembers.below hbw0
  have gl := grp_len x5
  have HlP := hide hl_sPages
  have HlE := hide hl_sRows
  have HlM := hide hl_sGroupMembers
  have HX := hide hx
  have X3 := hide x3
  have X4 := hide x4
  have X5 := hide x5
  have r64 := (rowsB_out x4).1
  have hgn : sGroupMembersn ≤ 9 := by rw [← HlM.out]; exact gl.2
  have y0 := Blk.cell hBw0 (j := 0) rfl; have y1 := Blk.cell hBw0 (j := 1) rfl; have y2 := Blk.cell hBw0 (j := 2) rfl; have y3 := Blk.cell hBw0 (j := 3) rfl; have y4 := Blk.cell hBw0 (j := 4) rfl; have y5 := Blk.cell hBw0 (j := 5) rfl; have y6 := Blk.cell hBw0 (j := 6) rfl
  clear hl_sPages hl_sRows hl_sGroupMembers hq_sPages hq_sRows hq_sGroupMembers he_sPages he_sRows he_sGroupMembers hP hE hr_sPages hr_sRows hr_sGroupMembers hx hx' x1 x2 x3 x4 x5 x6 h' h
  go_enter Tryz.func40, Tryz.ntmps40
  go_wp2_with fail
  rw [Hw0.out]
  go_fit (mayState_any h0)
  rw [HX.out]
  rintro xx w1 ⟨rfl, hb1⟩
  have h01 : Below w0.heap.size w0 w1 := hb1
  have hB1 := hBw0.below h01
  clear y0 y1 y2 y3 y4 y5 y6
  have y0 := Blk.cell hB1 (j := 0) rfl; have y1 := Blk.cell hB1 (j := 1) rfl; have y2 := Blk.cell hB1 (j := 2) rfl; have y3 := Blk.cell hB1 (j := 3) rfl; have y4 := Blk.cell hB1 (j := 4) rfl; have y5 := Blk.cell hB1 (j := 5) rfl; have y6 := Blk.cell hB1 (j := 6) rfl
  go_wp2_with fail
  go_fit (load_okP sShapeBlocks sShapeSize (sShapeBlocks * sShapeSize) w1 hb hz rfl sPagesA sPagesn sPagesc sPagesv sPages HlP.out hc_sPages hm_sPages (hrP.below h01) (hP0.below h01) X3.out)
  rintro xx w2 ⟨v, r, s, rfl, hV2, hb2, lv, lr, ls, gv, gr, gs⟩
  have h02 := h01.trans (hb2.mono h01.size)
  have hB2 := hBw0.below h02
  clear y0 y1 y2 y3 y4 y5 y6
  have y0 := Blk.cell hB2 (j := 0) rfl; have y1 := Blk.cell hB2 (j := 1) rfl; have y2 := Blk.cell hB2 (j := 2) rfl; have y3 := Blk.cell hB2 (j := 3) rfl; have y4 := Blk.cell hB2 (j := 4) rfl; have y5 := Blk.cell hB2 (j := 5) rfl; have y6 := Blk.cell hB2 (j := 6) rfl
  go_wp2_with fail
  go_fit (tload_any sRowsA sRowsn sRowsc sRowsv sRows Q w2 HlE.out (hrE.below h02) (hE0.below h02) X4.out)
  rintro xx w3 ⟨t, bm, N, D, m, rfl, hT3, hN, hsz, hm, hb3⟩
  have h03 := h02.trans (hb3.mono h02.size)
  have hB3 := hBw0.below h03
  have hV3 := hV2.below hb3
  have HN := hide hN
  have Hsz := hide hsz
  have Hm := hide hm
  have hrM3 := hrM.below h03
  have z0 := hbw0.size
  have z1 := h01.size
  have z2 := hb2.size
  have z3 := hb3.size
  obtain ⟨hB31, hB32⟩ := hT3.hB
  have tl := hT3.blk.lt
  have bl := hT3.own.lt
  clear y0 y1 y2 y3 y4 y5 y6 hN hsz hm hV2
  have y0 := hB3.cell (j := 0) rfl
  have y5 := hB3.cell (j := 5) rfl
  have y6 := hB3.cell (j := 6) rfl
  have KC := hide (show ∀ X, Below w3.heap.size w3 X → (X.cell? ⟨w.heap.size, 0, none⟩ = some (.int .i64 sNum) ∧ X.cell? ⟨w.heap.size, 5, none⟩ = some (.int .i64 sGroupEpoch) ∧ X.cell? ⟨w.heap.size, 6, none⟩ = some (.slice sGroupMembersA sGroupMembersn sGroupMembersc)) from fun X hX => ⟨(hB3.below hX).cell (j := 0) rfl, (hB3.below hX).cell (j := 5) rfl, (hB3.below hX).cell (j := 6) rfl⟩)
  have S0 := KC.out w3.drew (Below.refl _ _).drew
  go_wp2_with fail
  go_region_held_law (fun X => X.cell? ⟨w.heap.size, 0, none⟩ = some (.int .i64 sNum) ∧ X.cell? ⟨w.heap.size, 5, none⟩ = some (.int .i64 sGroupEpoch) ∧ X.cell? ⟨w.heap.size, 6, none⟩ = some (.slice sGroupMembersA sGroupMembersn sGroupMembersc)) (first | assumption | exact S5 _) (first
    | (go_at_call 56; refine (cloneG_any sGroupEpoch sGroupMembersA sGroupMembersn sGroupMembersc sGroupMembers _ HlM.out (by omega) (by exact hrM3.drew)).mono ?_; rintro xx w4 ⟨G, gc, rfl, hgc, hgm, hG4, hGa, hb4⟩; have hb4' : Below w3.heap.size w3 w4 := ⟨hb4.os, hb4.tape, hb4.output, hb4.size, hb4.block⟩; have S4 := KC.out _ hb4'; have hb45 : ∀ o, Below w3.heap.size w3 (w4.alloc o) := fun o => hb4'.alloc hb4'.size o; have S5 := fun o => KC.out _ (hb45 o)))
  all_goals
    have z4 := hb4'.size
    have m1 := tmOf_eq Hm.out
    subst m1
    obtain ⟨g, hg⟩ : ∃ g, w4.heap.size = g := ⟨_, rfl⟩
    have hbz : Below w4.heap.size w4 (w4.alloc (.cells #[.pointer (some ⟨v, 0, none⟩), .pointer (some ⟨t, 0, none⟩), .int .i64 sGroupEpoch, .slice G sGroupMembersn gc, .int .i64 sNum] 90)) := (Below.refl _ _).alloc (Nat.le_refl _) _
    have hM := Blk.new w4 [.pointer (some ⟨v, 0, none⟩), .pointer (some ⟨t, 0, none⟩), .int .i64 sGroupEpoch, .slice G sGroupMembersn gc, .int .i64 sNum] 90
    have hTz := (hT3.below hb4').below hbz
    have hVz := (hV3.below hb4').below hbz
    have hGz := hG4.below hbz
    have hdt := hT3.dataB
    have hGl : ∀ a, G = some a → a.block < w4.heap.size := rd_block hG4 (fun e => by have e2 : sGroupMembers.length = 0 := (by simpa [ints] using congrArg List.length e); omega)
    have hga : ∀ a, G = some a → w3.heap.size ≤ a.block := hGa
    have hbf : Below w.heap.size w w4 := hbw0.trans ((h03.trans (hb4'.mono h03.size)).mono hbw0.size)
    have hne : ∀ b, w2.heap.size ≤ b → ¬ Y b := fun b h1 h2 => by have := hY b h2; omega
    go_wp2
    go_ret2
    refine ⟨⟨w4.heap.size, v, r, s, t, bm⟩, rfl, ⟨sShapeBlocks * sShapeSize, w2.heap.size, D, G, sGroupMembersn, gc, ?_⟩, hbf.alloc hbf.size _⟩
    exact { blk := hM, vol := hVz, tab := hTz.upto (by rw [HN.out]; exact r64), sz := Hsz.out, gr := hGz, gl := HlM.out, gc_ := ⟨hgc, hgm⟩, ok := X5.out, lo := by simp only; omega, hiB := by simp only; omega, ne := by simp only; omega
            gA := fun a ha => by have := hGl a ha; have := hga a ha; exact ⟨by omega, by simp only; omega, by simp only; omega, by simp only; omega, hne _ (by omega)⟩
            dA := hdt.mono fun b hb => ⟨by simp only; omega, hne _ hb.1.1⟩
            yA := ⟨hne _ (by simp only; omega), fun h => by have := hY _ h; simp only at this; omega, fun h => by have := hY _ h; simp only at this; omega, fun h => by have := hY _ h; simp only at this; omega, hne _ (by simp only; omega), hne _ (by simp only; omega)⟩ }
/-! ### New -/
set_option maxHeartbeats 800000 in
theorem mgrp7_any (e : Int) (A : Option Addr) (n c : Nat) (ms : List Int) (w : World) (hn : ms.length = n) (hr : Rd w A (ints ms)) :
    Calls Tryz.prog 98 #[grp e A n c] w fun x w' => x = .returned (.int .i64 (gE e ms)) ∧ Below w.heap.size w w' := by
  obtain ⟨w0, hw0⟩ : ∃ x, w.alloc (.cells #[.int .i64 e, .slice A n c] 28) = x := ⟨_, rfl⟩
  have hB : Blk w0 w.heap.size [.int .i64 e, .slice A n c] 28 := by rw [← hw0]; exact Blk.new w [.int .i64 e, .slice A n c] _
  have hb0 : Below w.heap.size w w0 := by rw [← hw0]; exact (Below.refl _ _).alloc (Nat.le_refl _) _
  have Hw0 := hide hw0
  have Hn := hide hn
  have y0 := hB.cell (j := 0) rfl
  have y1 := hB.cell (j := 1) rfl
  clear hw0 hn
  cases hg : grpOk e ms with
  | true =>
    have HG := hide hg
    clear hg
    go_enter Tryz.func98, Tryz.ntmps98
    go_wp2_with fail
    rw [Hw0.out]
    go_fit (mgroup_any e A n c ms w0 Hn.out (hr.below hb0))
    rw [HG.out]
    rintro xx w1 ⟨rfl, hb1⟩
    go_wp2
    go_ret
    exact ⟨by rw [gE_ok HG.out]; rfl, hb0.trans (hb1.mono hb0.size)⟩
  | false =>
    have HG := hide hg
    clear hg
    go_enter Tryz.func98, Tryz.ntmps98
    go_wp2_with fail
    rw [Hw0.out]
    go_fit (mgroup_any e A n c ms w0 Hn.out (hr.below hb0))
    rw [HG.out]
    rintro xx w1 ⟨rfl, hb1⟩
    go_wp2
    go_ret
    exact ⟨by rw [gE_bad HG.out]; rfl, hb0.trans (hb1.mono hb0.size)⟩
/-- What New tells. -/
def newE (b z e : Int) (ms : List Int) : Int := if shE b z = 0 then gE e ms else shE b z
def newSt (b z e : Int) (ms : List Int) : StateD := (0, (b, z), [], [], e, ms)
theorem newSt_ok {b z e : Int} {ms : List Int} (h1 : shE b z = 0) (h2 : grpOk e ms = true) : stateB (newSt b z e ms) = true := by
  unfold stateB newSt
  simp only [h1, h2]
  rfl
set_option maxRecDepth 20000 in
set_option maxHeartbeats 1600000 in
theorem new7_any (b z e : Int) (A : Option Addr) (n c : Nat) (ms : List Int) (w : World) {Y : Nat → Prop} (hn : ms.length = n) (hnc : n ≤ c) (hcm : c ≤ 9223372036854775807) (hr : Rd w A (ints ms)) (hE : newE b z e ms = 0) (hi : ∀ x ∈ ms, -9223372036854775808 ≤ x ∧ x ≤ 9223372036854775807) (he : -9223372036854775808 ≤ e ∧ e ≤ 9223372036854775807) (hY : ∀ b, Y b → b < w.heap.size) :
    Calls Tryz.prog 37 #[shp b z, grp e A n c] w fun x w' => ∃ f, x = .returned (.tuple #[.pointer (some ⟨f.mb, 0, none⟩), .int .i64 0]) ∧ MX w' w.heap.size Y f (MA.of (newSt b z e ms)) 64 ∧ Below w.heap.size w w' := by
  have hs : shE b z = 0 := by
    unfold newE at hE
    split at hE
    · assumption
    · exact hE
  have hg : grpOk e ms = true := by
    unfold newE at hE
    rw [if_pos hs] at hE
    cases hgg : grpOk e ms with
    | true => rfl
    | false => rw [gE_bad hgg] at hE; cases hE
  have hst := newSt_ok hs hg
  obtain ⟨b', z', rfl, rfl, hb, hz⟩ := shE_out hs
  obtain ⟨w0, hw0⟩ : ∃ x, (w.alloc (.cells #[.int .i64 b', .int .i64 z'] 23)).alloc (.cells #[.int .i64 e, .slice A n c] 28) = x := ⟨_, rfl⟩
  have hP : Blk w0 w.heap.size [.int .i64 b', .int .i64 z'] 23 := by rw [← hw0]; exact (Blk.new w [.int .i64 b', .int .i64 z'] _).alloc _
  have hZ : Blk w0 (w.heap.size + 1) [.int .i64 e, .slice A n c] 28 := by
    rw [← hw0]
    have := Blk.new (w.alloc (.cells #[.int .i64 b', .int .i64 z'] 23)) [.int .i64 e, .slice A n c] 28
    rwa [World.size_alloc] at this
  have hb0 : Below w.heap.size w w0 := by rw [← hw0]; exact ((Below.refl _ _).alloc (Nat.le_refl _) _).alloc (by simp) _
  have Hw0 := hide hw0
  have Hn := hide hn
  have y0 := hP.cell (j := 0) rfl
  have y1 := hP.cell (j := 1) rfl
  have hr0 := hr.below hb0
  have HS := hide hs
  have HG := hide (gE_ok hg)
  have HT := hide hst
  clear hw0 hn hs hg hst hE
  go_enter Tryz.func37, Tryz.ntmps37
  go_wp2_with fail
  rw [Hw0.out]
  go_fit (shape_any b' z' w0)
  rw [HS.out]
  rintro xx w1 ⟨rfl, hb1⟩
  have z0 := (hZ.below hb1).cell (j := 0) rfl
  have z1 := (hZ.below hb1).cell (j := 1) rfl
  have hr1 := hr0.below hb1
  go_wp2_with fail
  go_fit (mgrp7_any e A n c ms w1 Hn.out hr1)
  rw [HG.out]
  rintro xx w2 ⟨rfl, hb2⟩
  have hr2 := hr1.below hb2
  clear y0 y1 z0 z1
  have hP2 := (hP.below hb1).below hb2
  have hZ2 := (hZ.below hb1).below hb2
  have y0 := hP2.cell (j := 0) rfl
  have y1 := hP2.cell (j := 1) rfl
  have z0 := hZ2.cell (j := 0) rfl
  have z1 := hZ2.cell (j := 1) rfl
  have hb02 := hb0.trans ((hb1.trans (hb2.mono hb1.size)).mono hb0.size)
  have hI : tyState.Is w2 (fun _ => True) (newSt b' z' e ms) [.int .i64 0, .int .i64 b', .int .i64 z', .slice none 0 0, .slice none 0 0, .int .i64 e, .slice A n c] :=
    State_mk (by decide) (by decide) (by omega) (by omega) (by omega) (by omega) rfl (by omega) (by omega) Rd.nil (fun h => absurd rfl h) Ty.Rows.nil rfl (by omega) (by omega) Rd.nil (fun h => absurd rfl h) Ty.Rows.nil he.1 he.2 Hn.out hnc hcm hr2 (fun _ _ _ => trivial) (i64rows_mk hi)
  go_wp2_with fail
  go_fit (load7_any hI HT.out (Y := Y) (fun b h => by have := hY b h; have := hb02.size; omega))
  rintro xx w3 ⟨f, rfl, hM, hb3⟩
  go_wp2
  go_ret2
  refine ⟨f, rfl, hM.lower hb02.size, hb02.trans (hb3.mono hb02.size)⟩
end Go.Proofs.YtkknkdjdneldlaaGreat
namespace Go.Proofs.YtkknkdjdneldlaaGreat
set_option maxRecDepth 20000
open Go.RowKit Go.Px Go.Maps
set_option linter.unusedVariables false
/-- What may be of a machine. -/
structure MA.Ok (a : MA) : Prop where
  num : numB a.num = true
  rows : rowsB a.rows = true
  vs : ∀ v ∈ a.vs, 0 ≤ v ∧ v ≤ a.num
theorem MA.Ok.tb {a : MA} (h : a.Ok) : TbOf (tmOf a.rows) a.rows := ⟨tmOf_mem (rowsB_out h.rows).2.2, (rowsB_out h.rows).2.2⟩
theorem MA.Ok.ser {a : MA} (h : a.Ok) : ∀ c x, tmOf a.rows c = some x → serB c = true := fun c x hc => ((rowsB_out h.rows).2.1 (c, x) ((h.tb.mem (c, x)).2 hc)).1
/-- A machine's state. -/
def MA.st (a : MA) (since : Int) : StateD := (a.num, (a.b, a.z), pgL a.z a.bs a.vs since a.b, a.rows, a.ep, a.ms)
theorem serB_range {c : Int} (h : serB c = true) : -9223372036854775808 ≤ c ∧ c ≤ 9223372036854775807 := by
  have := serB_out h; omega
theorem rw_mk {w : World} {Q : Nat → Prop} {es : List RowD} {vs : List Value} (h : RwRows w Q vs es) (hr : rowsB es = true) : tyRow.Rows w Q es vs := by
  refine ⟨h.1, fun j e he => ?_⟩
  obtain ⟨A, d, dc, h1, h2, h3, h4, h5, h6, h7, h8, h9, h10⟩ := h.2 j e he
  obtain ⟨s1, s2, _⟩ := (rowsB_out hr).2.1 e (List.mem_of_getElem? he)
  have r1 := serB_range s1
  have r2 := serB_range s2
  have hl : (vs.drop (4 * j)).take 4 = [.int .i64 e.1, .int .i64 e.2.1, .int .u8 e.2.2.1, .slice A d dc] := by
    refine List.ext_getElem? fun i => ?_
    rw [List.getElem?_take]
    by_cases hi : i < 4
    · rw [if_pos hi, List.getElem?_drop]
      rcases (show i = 0 ∨ i = 1 ∨ i = 2 ∨ i = 3 by omega) with rfl | rfl | rfl | rfl
      · exact h1
      · exact h2
      · exact h3
      · exact h4
    · rw [if_neg hi, List.getElem?_eq_none (by simp; omega)]
  show tyRow.Is w Q e ((vs.drop (4 * j)).take 4)
  rw [hl]
  exact Row_mk r1.1 r1.2 r2.1 r2.2 h5 h6 h7 h8 h9 h10
theorem pg_mk {w : World} {Q : Nat → Prop} {ps : List PageD} {vs : List Value} (h : PgRows w Q vs ps) (hr : ∀ p ∈ ps, (-9223372036854775808 ≤ p.1 ∧ p.1 ≤ 9223372036854775807) ∧ -9223372036854775808 ≤ p.2.1 ∧ p.2.1 ≤ 9223372036854775807) : tyPage.Rows w Q ps vs := by
  refine ⟨h.1, fun j p hp => ?_⟩
  obtain ⟨A, n, c, h1, h2, h3, h4, h5, h6, h7, h8⟩ := h.2 j p hp
  obtain ⟨⟨r1, r2⟩, r3, r4⟩ := hr p (List.mem_of_getElem? hp)
  have hl : (vs.drop (3 * j)).take 3 = [.int .i64 p.1, .int .i64 p.2.1, .slice A n c] := by
    refine List.ext_getElem? fun i => ?_
    rw [List.getElem?_take]
    by_cases hi : i < 3
    · rw [if_pos hi, List.getElem?_drop]
      rcases (show i = 0 ∨ i = 1 ∨ i = 2 by omega) with rfl | rfl | rfl
      · exact h1
      · exact h2
      · exact h3
    · rw [if_neg hi, List.getElem?_eq_none (by simp; omega)]
  show tyPage.Is w Q p ((vs.drop (3 * j)).take 3)
  rw [hl]
  exact Page_mk r1 r2 r3 r4 h4 h5 h6 h7 (fun _ => h8)
theorem pgL_mem {z : Nat} {bs : List UInt8} {vs : List Int} {since : Int} : ∀ {k : Nat} {p : PageD}, p ∈ pgL z bs vs since k → ∃ i : Nat, i < k ∧ p = ((i : Int), vs.getD i 0, segB bs i 1 z) ∧ since < vs.getD i 0 ∧ 0 < vs.getD i 0
  | 0, p, h => by simp [pgL] at h
  | k + 1, p, h => by
    unfold pgL at h
    split at h
    · rename_i hb
      rcases List.mem_append.1 h with h | h
      · obtain ⟨i, hi, h2⟩ := pgL_mem h
        exact ⟨i, by omega, h2⟩
      · simp only [List.mem_singleton] at h
        unfold pgB at hb
        simp only [Bool.and_eq_true, decide_eq_true_eq] at hb
        exact ⟨k, by omega, h, hb⟩
    · obtain ⟨i, hi, h2⟩ := pgL_mem h
      exact ⟨i, by omega, h2⟩
theorem pgL_range {b z : Nat} {bs : List UInt8} {vs : List Int} {since num : Int} (hb : b ≤ 4096) (hn : numB num = true) (hv : ∀ v ∈ vs, 0 ≤ v ∧ v ≤ num) : ∀ p ∈ pgL z bs vs since b, (-9223372036854775808 ≤ p.1 ∧ p.1 ≤ 9223372036854775807) ∧ -9223372036854775808 ≤ p.2.1 ∧ p.2.1 ≤ 9223372036854775807 := by
  intro p hp
  obtain ⟨i, hi, rfl, _, h0⟩ := pgL_mem hp
  have hm : vs.getD i 0 ∈ vs := by
    rw [List.getD_eq_getElem?_getD] at h0 ⊢
    cases hg : vs[i]? with
    | none => rw [hg] at h0; simp at h0
    | some v => exact List.mem_of_getElem? hg
  obtain ⟨h1, h2⟩ := hv _ hm
  have := numB_out hn
  exact ⟨⟨by show (-9223372036854775808 : Int) ≤ (i : Int); omega, by show (i : Int) ≤ 9223372036854775807; omega⟩, by show (-9223372036854775808 : Int) ≤ vs.getD i 0; omega, by show vs.getD i 0 ≤ 9223372036854775807; omega⟩
theorem Fr.setg (w : World) (g i : Nat) (v : Value) : Fr (fun b => b = g) w (w.setCell ⟨g, i, none⟩ v) := Fr.set w ⟨g, i, none⟩ v rfl
theorem grp_ep {e : Int} {ms : List Int} (h : grpOk e ms = true) : -9223372036854775808 ≤ e ∧ e ≤ 9223372036854775807 := by
  unfold grpOk at h
  simp only [Bool.and_eq_true, decide_eq_true_eq] at h
  omega
theorem nodesOk_mem : ∀ {ms : List Int} {a : Int}, -1 ≤ a → nodesOk a ms = true → ∀ x ∈ ms, 0 ≤ x ∧ x < 64
  | [], _, _, _, x, hx => by simp at hx
  | m :: ms, a, ha, h, x, hx => by
    have h' : (decide (a < m) && (decide (m < 64) && nodesOk m ms)) = true := h
    simp only [Bool.and_eq_true, decide_eq_true_eq] at h'
    obtain ⟨h1, h2, h3⟩ := h'
    rcases List.mem_cons.1 hx with rfl | hx
    · omega
    · exact nodesOk_mem (by omega) h3 x hx
theorem grp_ms {e : Int} {ms : List Int} (h : grpOk e ms = true) : ∀ x ∈ ms, -9223372036854775808 ≤ x ∧ x ≤ 9223372036854775807 := by
  unfold grpOk at h
  simp only [Bool.and_eq_true, decide_eq_true_eq] at h
  intro x hx
  have := nodesOk_mem (by omega) h.2.2 x hx
  omega
theorem cell_far7 {X : World} {g : Nat} {a : Addr} {u : Value} (v0 v1 v2 v3 v4 v5 v6 : Value) (h : X.cell? a = some u) (hne : a.block ≠ g) : (((((((X.setCell ⟨g, 0, none⟩ v0).setCell ⟨g, 1, none⟩ v1).setCell ⟨g, 2, none⟩ v2).setCell ⟨g, 3, none⟩ v3).setCell ⟨g, 4, none⟩ v4).setCell ⟨g, 5, none⟩ v5).setCell ⟨g, 6, none⟩ v6).cell? a = some u := by
  have e : ∀ (W : World) (i : Nat) (v : Value), (W.setCell ⟨g, i, none⟩ v).cell? a = W.cell? a := fun W i v => World.cell?_setCell_far W ⟨g, i, none⟩ a v (fun e => hne e.symm)
  rw [e, e, e, e, e, e, e]; exact h
section
variable {Y : Nat → Prop} {w : World} {L : Nat} {f : MFp} {a : MA} {N NN B : Nat} {D : DataW Value} {G : Option Addr} {gn gc : Nat}
set_option maxRecDepth 20000 in
set_option maxHeartbeats 6400000 in
theorem state7_any (h : MIs w L Y f a N NN B D G gn gc) (hok : a.Ok) (since : Int) : Calls Tryz.prog 17 #[.pointer (some ⟨f.mb, 0, none⟩), .int .i64 since] w fun e w' =>
    ∃ cs, e = .returned (.agg cs.toArray) ∧ tyState.Is w' (fun k => w.heap.size ≤ k) (a.st since) cs ∧ Below w.heap.size w w' := by
  have hr64 := (rowsB_out hok.rows).1
  have hrng := pgL_range (b := a.b) (z := a.z) (bs := a.bs) (since := since) h.vol.hb.2 hok.num hok.vs
  have hnum := numB_out hok.num
  have gl := grp_len h.ok
  obtain ⟨g, hg⟩ : ∃ g, w.heap.size = g := ⟨_, rfl⟩
  obtain ⟨w0, hw0⟩ : ∃ x, w.alloc (.cells #[.int .i64 0, .int .i64 0, .int .i64 0, .slice none 0 0, .slice none 0 0, .int .i64 0, .slice none 0 0] 30) = x := ⟨_, rfl⟩
  have hZ : Blk w0 g [.int .i64 0, .int .i64 0, .int .i64 0, .slice none 0 0, .slice none 0 0, .int .i64 0, .slice none 0 0] 30 := by rw [← hw0, ← hg]; exact Blk.new w [.int .i64 0, .int .i64 0, .int .i64 0, .slice none 0 0, .slice none 0 0, .int .i64 0, .slice none 0 0] _
  have hb0 : Below w.heap.size w w0 := by rw [← hw0]; exact (Below.refl _ _).alloc (Nat.le_refl _) _
  have Hw0 := hide hw0
  have h0 := h.below hb0
  have HOk := hide hok
  have Hrng := hide hrng
  have Hgl := hide h.gl
  clear hw0 hok hrng
  have CL := fun X (hX : Below w0.heap.size w0 X) => (h0.below hX).blk
  have KC := hide (show ∀ X, Below w0.heap.size w0 X → (X.cell? ⟨f.mb, 0, none⟩ = some (.pointer (some ⟨f.v, 0, none⟩)) ∧ X.cell? ⟨f.mb, 1, none⟩ = some (.pointer (some ⟨f.t, 0, none⟩)) ∧ X.cell? ⟨f.mb, 2, none⟩ = some (.int .i64 a.ep) ∧ X.cell? ⟨f.mb, 3, none⟩ = some (.slice G gn gc) ∧ X.cell? ⟨f.mb, 4, none⟩ = some (.int .i64 a.num)) from fun X hX => ⟨(CL X hX).cell (j := 0) rfl, (CL X hX).cell (j := 1) rfl, (CL X hX).cell (j := 2) rfl, (CL X hX).cell (j := 3) rfl, (CL X hX).cell (j := 4) rfl⟩)
  have HM := hide (show ∀ X, Below w0.heap.size w0 X → MIs X L Y f a N NN B D G gn gc from fun X hX => h0.below hX)
  have KZ := hide (show ∀ X, Below w0.heap.size w0 X → (X.cell? ⟨g, 0, none⟩ = some (.int .i64 0) ∧ X.cell? ⟨g, 1, none⟩ = some (.int .i64 0) ∧ X.cell? ⟨g, 2, none⟩ = some (.int .i64 0) ∧ X.cell? ⟨g, 3, none⟩ = some (.slice none 0 0) ∧ X.cell? ⟨g, 4, none⟩ = some (.slice none 0 0) ∧ X.cell? ⟨g, 5, none⟩ = some (.int .i64 0) ∧ X.cell? ⟨g, 6, none⟩ = some (.slice none 0 0) ∧ X.frozen? ⟨g, 0, none⟩ = false ∧ X.frozen? ⟨g, 1, none⟩ = false ∧ X.frozen? ⟨g, 2, none⟩ = false ∧ X.frozen? ⟨g, 3, none⟩ = false ∧ X.frozen? ⟨g, 4, none⟩ = false ∧ X.frozen? ⟨g, 5, none⟩ = false ∧ X.frozen? ⟨g, 6, none⟩ = false) from fun X hX => ⟨(hZ.below hX).cell (j := 0) rfl, (hZ.below hX).cell (j := 1) rfl, (hZ.below hX).cell (j := 2) rfl, (hZ.below hX).cell (j := 3) rfl, (hZ.below hX).cell (j := 4) rfl, (hZ.below hX).cell (j := 5) rfl, (hZ.below hX).cell (j := 6) rfl, (hZ.below hX).frozen 0, (hZ.below hX).frozen 1, (hZ.below hX).frozen 2, (hZ.below hX).frozen 3, (hZ.below hX).frozen 4, (hZ.below hX).frozen 5, (hZ.below hX).frozen 6⟩)
  have HT := hide (show ∀ X X', Below w0.heap.size w0 X → Below X.heap.size X X' → Below w0.heap.size w0 X' from fun X X' h1 h2 => h1.trans (h2.mono h1.size))
  have hmg : f.mb ≠ g := by have := h.blk.lt; omega
  have KS := hide (show ∀ (X : World) (v0 v1 v2 v3 v4 v5 v6 : Value), (X.cell? ⟨f.mb, 0, none⟩ = some (.pointer (some ⟨f.v, 0, none⟩)) ∧ X.cell? ⟨f.mb, 1, none⟩ = some (.pointer (some ⟨f.t, 0, none⟩)) ∧ X.cell? ⟨f.mb, 2, none⟩ = some (.int .i64 a.ep) ∧ X.cell? ⟨f.mb, 3, none⟩ = some (.slice G gn gc) ∧ X.cell? ⟨f.mb, 4, none⟩ = some (.int .i64 a.num)) → ((((((((X.setCell ⟨g, 0, none⟩ v0).setCell ⟨g, 1, none⟩ v1).setCell ⟨g, 2, none⟩ v2).setCell ⟨g, 3, none⟩ v3).setCell ⟨g, 4, none⟩ v4).setCell ⟨g, 5, none⟩ v5).setCell ⟨g, 6, none⟩ v6).cell? ⟨f.mb, 0, none⟩ = some (.pointer (some ⟨f.v, 0, none⟩)) ∧ (((((((X.setCell ⟨g, 0, none⟩ v0).setCell ⟨g, 1, none⟩ v1).setCell ⟨g, 2, none⟩ v2).setCell ⟨g, 3, none⟩ v3).setCell ⟨g, 4, none⟩ v4).setCell ⟨g, 5, none⟩ v5).setCell ⟨g, 6, none⟩ v6).cell? ⟨f.mb, 1, none⟩ = some (.pointer (some ⟨f.t, 0, none⟩)) ∧ (((((((X.setCell ⟨g, 0, none⟩ v0).setCell ⟨g, 1, none⟩ v1).setCell ⟨g, 2, none⟩ v2).setCell ⟨g, 3, none⟩ v3).setCell ⟨g, 4, none⟩ v4).setCell ⟨g, 5, none⟩ v5).setCell ⟨g, 6, none⟩ v6).cell? ⟨f.mb, 2, none⟩ = some (.int .i64 a.ep) ∧ (((((((X.setCell ⟨g, 0, none⟩ v0).setCell ⟨g, 1, none⟩ v1).setCell ⟨g, 2, none⟩ v2).setCell ⟨g, 3, none⟩ v3).setCell ⟨g, 4, none⟩ v4).setCell ⟨g, 5, none⟩ v5).setCell ⟨g, 6, none⟩ v6).cell? ⟨f.mb, 3, none⟩ = some (.slice G gn gc) ∧ (((((((X.setCell ⟨g, 0, none⟩ v0).setCell ⟨g, 1, none⟩ v1).setCell ⟨g, 2, none⟩ v2).setCell ⟨g, 3, none⟩ v3).setCell ⟨g, 4, none⟩ v4).setCell ⟨g, 5, none⟩ v5).setCell ⟨g, 6, none⟩ v6).cell? ⟨f.mb, 4, none⟩ = some (.int .i64 a.num)) from fun X v0 v1 v2 v3 v4 v5 v6 hS => ⟨cell_far7 _ _ _ _ _ _ _ hS.1 hmg, cell_far7 _ _ _ _ _ _ _ hS.2.1 hmg, cell_far7 _ _ _ _ _ _ _ hS.2.2.1 hmg, cell_far7 _ _ _ _ _ _ _ hS.2.2.2.1 hmg, cell_far7 _ _ _ _ _ _ _ hS.2.2.2.2 hmg⟩)
  have S0 := KC.out w0.drew (Below.refl _ _).drew
  have c0 : Below w0.heap.size w0 w0.drew := (Below.refl _ _).drew
  clear CL
  go_enter Tryz.func17, Tryz.ntmps17
  go_wp2_with fail
  rw [Hw0.out]
  go_fit (made7_any h0)
  rintro xx w1 ⟨rfl, rfl⟩
  go_wp2_with fail
  go_region_held_law (fun X => X.cell? ⟨f.mb, 0, none⟩ = some (.pointer (some ⟨f.v, 0, none⟩)) ∧ X.cell? ⟨f.mb, 1, none⟩ = some (.pointer (some ⟨f.t, 0, none⟩)) ∧ X.cell? ⟨f.mb, 2, none⟩ = some (.int .i64 a.ep) ∧ X.cell? ⟨f.mb, 3, none⟩ = some (.slice G gn gc) ∧ X.cell? ⟨f.mb, 4, none⟩ = some (.int .i64 a.num)) (first | with_reducible assumption | (with_reducible refine KS.out _ _ _ _ _ _ _ _ ?_); with_reducible assumption) (first
    | (go_at_call 53; refine (shapeOf_any _ _ _ _ _ _ _ _ _ _ (HM.out _ (by assumption)).vol).mono ?_; rintro xx wa ⟨rfl, hba⟩; have ca := HT.out _ _ (by assumption) hba; have Sa := KC.out _ ca)
    | (go_at_call 54; refine (pages_any _ _ _ _ _ _ _ _ _ _ since (HM.out _ (by assumption)).vol).mono ?_; rintro xx wb ⟨o, pc, rfl, hpo, hpp, hbb⟩; obtain ⟨PA, pcap, rfl, hp1⟩ := own_out hpo; have cb := HT.out _ _ (by assumption) hbb; have Sb := KC.out _ cb; have Hp := hide (And.intro hbb (And.intro hp1 hpp)); clear hp1 hpp hpo hbb)
    | (go_at_call 55; refine (rows_any (HM.out _ (by assumption)).tab (by rw [h.sz]; omega) HOk.out.ser).mono ?_; rintro xx wc ⟨RA, rcap, rcs, es, rfl, hrc⟩; have cc := HT.out _ _ (by assumption) hrc.2.2.2.2.2.2.2.1; have Sc := KC.out _ cc; obtain ⟨rn, hrn⟩ : ∃ rn, es.length = rn := ⟨_, rfl⟩; have Hrn := hide hrn; have Hr := hide hrc; rw [hrn]; clear hrn hrc)
    | (go_at_call 56; refine (cloneG_any a.ep G gn gc a.ms _ Hgl.out (by rw [← Hgl.out]; omega) (HM.out _ (by assumption)).gr).mono ?_; rintro xx wd ⟨GA, gcap, rfl, hgd⟩; have cd := HT.out _ _ (by assumption) hgd.2.2.2.2; have Hg := hide hgd; clear hgd; have Sd := KC.out _ cd; obtain ⟨z0, z1, z2, z3, z4, z5, z6, f0, f1, f2, f3, f4, f5, f6⟩ := KZ.out _ cd))
  all_goals
    have hZd := hZ.below cd
    have hfin := (((((((hZd.set 0 (.int .i64 a.num)).set 1 (.int .i64 a.b)).set 2 (.int .i64 a.z)).set 3 (.slice PA (pgL a.z a.bs a.vs since a.b).length pcap)).set 4 (.slice RA rn rcap)).set 5 (.int .i64 a.ep)).set 6 (.slice GA gn gcap))
    have hFr : Fr (fun b => b = g) wd (((((((wd.setCell ⟨g, 0, none⟩ (.int .i64 a.num)).setCell ⟨g, 1, none⟩ (.int .i64 a.b)).setCell ⟨g, 2, none⟩ (.int .i64 a.z)).setCell ⟨g, 3, none⟩ (.slice PA (pgL a.z a.bs a.vs since a.b).length pcap)).setCell ⟨g, 4, none⟩ (.slice RA rn rcap)).setCell ⟨g, 5, none⟩ (.int .i64 a.ep)).setCell ⟨g, 6, none⟩ (.slice GA gn gcap)) := (((((((Fr.refl (fun b => b = g) wd).trans (Fr.setg _ g 0 _)).trans (Fr.setg _ g 1 _)).trans (Fr.setg _ g 2 _)).trans (Fr.setg _ g 3 _)).trans (Fr.setg _ g 4 _)).trans (Fr.setg _ g 5 _)).trans (Fr.setg _ g 6 _)
    obtain ⟨wf, hwf⟩ : ∃ y, (((((((wd.setCell ⟨g, 0, none⟩ (.int .i64 a.num)).setCell ⟨g, 1, none⟩ (.int .i64 a.b)).setCell ⟨g, 2, none⟩ (.int .i64 a.z)).setCell ⟨g, 3, none⟩ (.slice PA (pgL a.z a.bs a.vs since a.b).length pcap)).setCell ⟨g, 4, none⟩ (.slice RA rn rcap)).setCell ⟨g, 5, none⟩ (.int .i64 a.ep)).setCell ⟨g, 6, none⟩ (.slice GA gn gcap)) = y := ⟨_, rfl⟩
    rw [hwf] at hfin hFr
    have Hwf := hide hwf
    clear hwf z0 z1 z2 z3 z4 z5 z6 f0 f1 f2 f3 f4 f5 f6
    go_wp2
    rw [Hwf.out]
    refine bodyPost_ret (results_cell rfl rfl hfin Tryz.underlying30 rfl (by kernel_rfl)) rfl ?_
    obtain ⟨hbb, ⟨hpl, hpc, hpm, hpr, hpa⟩, hpp⟩ := Hp.out
    obtain ⟨hrc, hrm, hrr, hre, hrs, hrmem, hrl, hbc, hra⟩ := Hr.out
    obtain ⟨hgc, hgm, hgr, hga, hbd⟩ := Hg.out
    have hrn := Hrn.out
    obtain rfl : es = a.rows := srt_one hrs HOk.out.tb.srt (fun e => (hrmem e).trans (HOk.out.tb.mem e).symm)
    have sa := ca.size
    have sb := hbb.size
    have sc := hbc.size
    have sd := hbd.size
    have gl' := hZ.lt
    have hgw : w.heap.size ≤ g := by omega
    have bcd := hbc.trans (hbd.mono sc)
    have hP := ((pg_mk hpp (Hrng.out)).below bcd).fr hFr (fun b hb => by have := hb.1; omega)
    have hR := ((rw_mk hre HOk.out.rows).below hbd).fr hFr (fun b hb => by omega)
    have hG := hgr.fr hFr (fun _ a' ha => by have := hga a' ha; omega)
    have hPr := (hpr.below bcd).fr hFr (fun _ a' ha => by have := (hpa a' ha).1; omega)
    have hRr := (hrr.below hbd).fr hFr (fun _ a' ha => by have := hra a' ha; omega)
    refine ⟨_, rfl, ?_, hFr.below (hb0.trans (cd.mono hb0.size)) (by omega) (fun k hk => by omega)⟩
    have hn := numB_out HOk.out.num
    have hbz := h.vol.hb
    have hzz := h.vol.hz
    have hep := grp_ep h.ok
    have hms := grp_ms h.ok
    exact State_mk (by omega) (by omega) (by omega) (by omega) (by omega) (by omega) rfl hpc (by unfold maxLen at hpm; omega) hPr (fun _ a' ha => by have := (hpa a' ha).1; omega) (hP.mono fun b hb => by have := hb.1; omega) hrn (by rw [← hrn]; exact hrc) hrm hRr (fun _ a' ha => by have := hra a' ha; omega) (hR.mono fun b hb => by omega) hep.1 hep.2 Hgl.out hgc hgm hG (fun _ a' ha => by have := hga a' ha; omega) (i64rows_mk hms)
end
end Go.Proofs.YtkknkdjdneldlaaGreat
namespace Go.Proofs.YtkknkdjdneldlaaGreat
set_option maxRecDepth 20000
open Go.RowKit Go.Px Go.Maps
set_option linter.unusedVariables false
section
variable {Y : Nat → Prop} {w : World} {L : Nat} {f : MFp} {a : MA} {N NN B : Nat} {D : DataW Value} {G : Option Addr} {gn gc : Nat}
/-- What done makes. -/
def MA.done (a : MA) (e : EntryD) : MA × Nat × List UInt8 :=
  if e.1 = 1 then
    ({ a with bs := doBE a.b a.z a.bs a.last e.2.2.2.2.2.1.1 e.2.2.2.2.2.1.2.1 e.2.2.2.2.2.1.2.2.1 e.2.2.2.2.2.1.2.2.2.1 e.2.2.2.2.2.1.2.2.2.2 e.2.1
              vs := doVE a.b a.z a.bs a.vs a.last e.2.2.2.2.2.1.1 e.2.2.2.2.2.1.2.1 e.2.2.2.2.2.1.2.2.1 e.2.2.2.2.2.1.2.2.2.1 e.2.2.2.2.2.1.2.2.2.2 e.2.1
              last := doLE a.b a.z a.last e.2.2.2.2.2.1.1 e.2.2.2.2.2.1.2.1 e.2.2.2.2.2.1.2.2.1 e.2.2.2.2.2.1.2.2.2.1 e.2.2.2.2.2.1.2.2.2.2 e.2.1 },
      doKE a.b a.z a.bs a.last e.2.2.2.2.2.1.1 e.2.2.2.2.2.1.2.1 e.2.2.2.2.2.1.2.2.1 e.2.2.2.2.2.1.2.2.2.1 e.2.2.2.2.2.1.2.2.2.2 e.2.1, doDE a.b a.z a.bs a.last e.2.2.2.2.2.1.1 e.2.2.2.2.2.1.2.1 e.2.2.2.2.2.1.2.2.1 e.2.2.2.2.2.1.2.2.2.1 e.2.2.2.2.2.1.2.2.2.2 e.2.1)
  else if e.1 = 2 ∧ e.2.2.2.2.2.2.1 = a.ep + 1 then ({ a with ep := e.2.2.2.2.2.2.1, ms := e.2.2.2.2.2.2.2 }, 1, [])
  else (a, 2, [])
/-- .. in memory. -/
def DoneM (L : Nat) (Y : Nat → Prop) (f : MFp) (N : Nat) (r : MA × Nat × List UInt8) (w : World) (e : Ending) (w' : World) : Prop :=
  ∃ A c, e = .returned (resv r.2.1 A r.2.2.length c) ∧ r.2.2.length ≤ c ∧ c ≤ 9223372036854775807 ∧ Rd w' A (bys r.2.2) ∧ (∀ a, A = some a → w.heap.size ≤ a.block) ∧ MX w' L Y f r.1 N ∧ Fr f.W w w'
theorem MIs.upd {w' : World} {bs' : List UInt8} {vs' : List Int} {last' : Int} (h : MIs w L Y f a N NN B D G gn gc) (hu : Upd f.v f.r f.s w w') (hv : VolIs w' f.v f.r f.s a.b a.z NN bs' vs' last') :
    MIs w' L Y f { a with bs := bs', vs := vs', last := last' } N NN B D G gn gc := by
  have hF : Fr (fun b => b = f.v ∨ b = f.r ∨ b = f.s) w w' := Fr.of_upd hu (.inl rfl) (.inr (.inl rfl)) (.inr (.inr rfl))
  obtain ⟨b1, b2, b3, b4⟩ := h.hiB
  obtain ⟨c1, c2⟩ := h.tab.hB
  exact { blk := h.blk.fr hF (by omega), vol := hv, tab := h.tab.fr hF (by omega) (by omega) (h.tab.dataB.mono fun b hb => by omega), sz := h.sz, gr := h.gr.fr hF (fun _ a' ha => by have := (h.gA a' ha).1; omega), gl := h.gl, gc_ := h.gc_, ok := h.ok, lo := h.lo, hiB := h.hiB, ne := h.ne, gA := h.gA, dA := h.dA, yA := h.yA }
theorem cell_far2 {X : World} {g : Nat} {a : Addr} {u : Value} (v0 v1 : Value) (h : X.cell? a = some u) (hne : a.block ≠ g) : ((X.setCell ⟨g, 0, none⟩ v0).setCell ⟨g, 1, none⟩ v1).cell? a = some u := by
  have e : ∀ (W : World) (i : Nat) (v : Value), (W.setCell ⟨g, i, none⟩ v).cell? a = W.cell? a := fun W i v => World.cell?_setCell_far W ⟨g, i, none⟩ a v (fun e => hne e.symm)
  rw [e, e]; exact h
set_option maxRecDepth 20000 in
set_option maxHeartbeats 6400000 in
theorem done7_op {Q : Nat → Prop} {e : EntryD} {cs : List Value} (h : MIs w L Y f a N NN B D G gn gc) (he : tyEntry.Is w Q e cs) (hQ : ∀ b, Q b → ¬ f.W b) (hk : e.1 = 1) (hY : ∀ b, Y b → b < w.heap.size) :
    Calls Tryz.prog 44 #[.pointer (some ⟨f.mb, 0, none⟩), .agg cs.toArray] w (DoneM L Y f N (a.done e) w) := by
  obtain ⟨eKind, eNum, eView, eClient, eSerial, eOpKind, eOpAt, eOpN, eOpData, eOpDataA, eOpDatan, eOpDatac, eOpOld, eOpOldA, eOpOldn, eOpOldc, eGroupEpoch, eGroupMembers, eGroupMembersA, eGroupMembersn, eGroupMembersc, eGroupMembersv, rfl, rfl, hu_eKind, h1_eNum, h2_eNum, h1_eView, h2_eView, h1_eClient, h2_eClient, h1_eSerial, h2_eSerial, hu_eOpKind, h1_eOpAt, h2_eOpAt, h1_eOpN, h2_eOpN, hl_eOpData, hc_eOpData, hm_eOpData, hr_eOpData, hq_eOpData, hl_eOpOld, hc_eOpOld, hm_eOpOld, hr_eOpOld, hq_eOpOld, h1_eGroupEpoch, h2_eGroupEpoch, hl_eGroupMembers, hc_eGroupMembers, hm_eGroupMembers, hr_eGroupMembers, hq_eGroupMembers, he_eGroupMembers⟩ := Entry_out he
  simp only at hk
  subst hk
  obtain ⟨g, hg⟩ : ∃ g, w.heap.size = g := ⟨_, rfl⟩
  obtain ⟨w0, hw0⟩ : ∃ x, ((w.alloc (.cells #[.int .u8 1, .int .i64 eNum, .int .i64 eView, .int .i64 eClient, .int .i64 eSerial, .int .u8 eOpKind, .int .i64 eOpAt, .int .i64 eOpN, .slice eOpDataA eOpDatan eOpDatac, .slice eOpOldA eOpOldn eOpOldc, .int .i64 eGroupEpoch, .slice eGroupMembersA eGroupMembersn eGroupMembersc] 49)).alloc (.cells #[.int .u8 0, .slice none 0 0] 40)).alloc (.cells #[.int .u8 1, .slice none 0 0] 40) = x := ⟨_, rfl⟩
  have hE : Blk w0 g [.int .u8 1, .int .i64 eNum, .int .i64 eView, .int .i64 eClient, .int .i64 eSerial, .int .u8 eOpKind, .int .i64 eOpAt, .int .i64 eOpN, .slice eOpDataA eOpDatan eOpDatac, .slice eOpOldA eOpOldn eOpOldc, .int .i64 eGroupEpoch, .slice eGroupMembersA eGroupMembersn eGroupMembersc] 49 := by rw [← hw0, ← hg]; exact ((Blk.new w [.int .u8 1, .int .i64 eNum, .int .i64 eView, .int .i64 eClient, .int .i64 eSerial, .int .u8 eOpKind, .int .i64 eOpAt, .int .i64 eOpN, .slice eOpDataA eOpDatan eOpDatac, .slice eOpOldA eOpOldn eOpOldc, .int .i64 eGroupEpoch, .slice eGroupMembersA eGroupMembersn eGroupMembersc] _).alloc _).alloc _
  have hZ : Blk w0 (g + 1) [.int .u8 0, .slice none 0 0] 40 := by
    rw [← hw0, ← hg]
    have := (Blk.new (w.alloc (.cells #[.int .u8 1, .int .i64 eNum, .int .i64 eView, .int .i64 eClient, .int .i64 eSerial, .int .u8 eOpKind, .int .i64 eOpAt, .int .i64 eOpN, .slice eOpDataA eOpDatan eOpDatac, .slice eOpOldA eOpOldn eOpOldc, .int .i64 eGroupEpoch, .slice eGroupMembersA eGroupMembersn eGroupMembersc] 49)) [.int .u8 0, .slice none 0 0] 40).alloc (.cells #[.int .u8 1, .slice none 0 0] 40)
    rwa [World.size_alloc] at this
  have hR : Blk w0 (g + 2) [.int .u8 1, .slice none 0 0] 40 := by
    rw [← hw0, ← hg]
    have := Blk.new ((w.alloc (.cells #[.int .u8 1, .int .i64 eNum, .int .i64 eView, .int .i64 eClient, .int .i64 eSerial, .int .u8 eOpKind, .int .i64 eOpAt, .int .i64 eOpN, .slice eOpDataA eOpDatan eOpDatac, .slice eOpOldA eOpOldn eOpOldc, .int .i64 eGroupEpoch, .slice eGroupMembersA eGroupMembersn eGroupMembersc] 49)).alloc (.cells #[.int .u8 0, .slice none 0 0] 40)) [.int .u8 1, .slice none 0 0] 40
    rwa [World.size_alloc, World.size_alloc] at this
  have hb0 : Below w.heap.size w w0 := by rw [← hw0]; exact (((Below.refl _ _).alloc (Nat.le_refl _) _).alloc (by simp) _).alloc (by simp; omega) _
  have Hw0 := hide hw0
  clear hw0
  have h0 := h.below hb0
  have zl := hR.lt
  have hlt := h.lts
  have l1 := hlt f.mb (.inl rfl)
  have l2 := hlt f.v (.inr (.inl rfl))
  have l3 := hlt f.r (.inr (.inr (.inl rfl)))
  have l4 := hlt f.s (.inr (.inr (.inr (.inl rfl))))
  obtain ⟨b1, b2, b3, b4⟩ := h.hiB
  have hdq : ∀ b, Q b → b ≠ f.v ∧ b ≠ f.r ∧ b ≠ f.s := fun b hb => ⟨fun e => hQ b hb (.inr (.inl e)), fun e => hQ b hb (.inr (.inr (.inl e))), fun e => hQ b hb (.inr (.inr (.inr (.inl e))))⟩
  have y0 := hE.cell (j := 0) rfl
  have DOc := do_any w0.drew f.v f.r f.s a.b a.z NN a.bs a.vs a.last eOpKind eOpAt eOpN eOpDataA eOpDatan eOpDatac eOpData eOpOldA eOpOldn eOpOldc eOpOld eNum hu_eOpKind (h0.vol.below (Below.refl _ _).drew) hl_eOpData hl_eOpOld (hr_eOpData.below hb0.drew) (hr_eOpOld.below hb0.drew) (fun hne a' ha => hdq _ (hq_eOpData hne a' ha)) (fun hne a' ha => hdq _ (hq_eOpOld hne a' ha))
  have HD : Hid (a.done (1, eNum, eView, eClient, eSerial, (eOpKind, eOpAt, eOpN, eOpData, eOpOld), eGroupEpoch, eGroupMembers) = ({ a with bs := doBE a.b a.z a.bs a.last eOpKind eOpAt eOpN eOpData eOpOld eNum, vs := doVE a.b a.z a.bs a.vs a.last eOpKind eOpAt eOpN eOpData eOpOld eNum, last := doLE a.b a.z a.last eOpKind eOpAt eOpN eOpData eOpOld eNum }, doKE a.b a.z a.bs a.last eOpKind eOpAt eOpN eOpData eOpOld eNum, doDE a.b a.z a.bs a.last eOpKind eOpAt eOpN eOpData eOpOld eNum)) := rfl
  generalize doE a.b a.z a.last eOpKind eOpAt eOpN eOpData.length eOpOld.length eNum = EE at DOc
  generalize doKE a.b a.z a.bs a.last eOpKind eOpAt eOpN eOpData eOpOld eNum = K1 at DOc HD
  generalize doDE a.b a.z a.bs a.last eOpKind eOpAt eOpN eOpData eOpOld eNum = D1 at DOc HD
  generalize doBE a.b a.z a.bs a.last eOpKind eOpAt eOpN eOpData eOpOld eNum = B1 at DOc HD
  generalize doVE a.b a.z a.bs a.vs a.last eOpKind eOpAt eOpN eOpData eOpOld eNum = V1 at DOc HD
  generalize doLE a.b a.z a.last eOpKind eOpAt eOpN eOpData eOpOld eNum = L1 at DOc HD
  have HDo := hide DOc
  clear DOc hl_eOpData hl_eOpOld hl_eGroupMembers hlt
  have SS : ∀ X, Fr (fun b => b = f.v ∨ b = f.r ∨ b = f.s) w0 X → (X.cell? ⟨f.mb, 0, none⟩ = some (.pointer (some ⟨f.v, 0, none⟩)) ∧ X.cell? ⟨g, 1, none⟩ = some (.int .i64 eNum) ∧ X.cell? ⟨g, 5, none⟩ = some (.int .u8 eOpKind) ∧ X.cell? ⟨g, 6, none⟩ = some (.int .i64 eOpAt) ∧ X.cell? ⟨g, 7, none⟩ = some (.int .i64 eOpN) ∧ X.cell? ⟨g, 8, none⟩ = some (.slice eOpDataA eOpDatan eOpDatac) ∧ X.cell? ⟨g, 9, none⟩ = some (.slice eOpOldA eOpOldn eOpOldc)) := fun X hX =>
    ⟨(h0.blk.fr hX (by omega)).cell (j := 0) rfl, (hE.fr hX (by omega)).cell (j := 1) rfl, (hE.fr hX (by omega)).cell (j := 5) rfl, (hE.fr hX (by omega)).cell (j := 6) rfl, (hE.fr hX (by omega)).cell (j := 7) rfl, (hE.fr hX (by omega)).cell (j := 8) rfl, (hE.fr hX (by omega)).cell (j := 9) rfl⟩
  have KC := hide SS
  have KS := hide (show ∀ (X : World) (v0 v1 : Value), Fr (fun b => b = f.v ∨ b = f.r ∨ b = f.s) w0 X → (((X.setCell ⟨g + 2, 0, none⟩ v0).setCell ⟨g + 2, 1, none⟩ v1).cell? ⟨f.mb, 0, none⟩ = some (.pointer (some ⟨f.v, 0, none⟩)) ∧ ((X.setCell ⟨g + 2, 0, none⟩ v0).setCell ⟨g + 2, 1, none⟩ v1).cell? ⟨g, 1, none⟩ = some (.int .i64 eNum) ∧ ((X.setCell ⟨g + 2, 0, none⟩ v0).setCell ⟨g + 2, 1, none⟩ v1).cell? ⟨g, 5, none⟩ = some (.int .u8 eOpKind) ∧ ((X.setCell ⟨g + 2, 0, none⟩ v0).setCell ⟨g + 2, 1, none⟩ v1).cell? ⟨g, 6, none⟩ = some (.int .i64 eOpAt) ∧ ((X.setCell ⟨g + 2, 0, none⟩ v0).setCell ⟨g + 2, 1, none⟩ v1).cell? ⟨g, 7, none⟩ = some (.int .i64 eOpN) ∧ ((X.setCell ⟨g + 2, 0, none⟩ v0).setCell ⟨g + 2, 1, none⟩ v1).cell? ⟨g, 8, none⟩ = some (.slice eOpDataA eOpDatan eOpDatac) ∧ ((X.setCell ⟨g + 2, 0, none⟩ v0).setCell ⟨g + 2, 1, none⟩ v1).cell? ⟨g, 9, none⟩ = some (.slice eOpOldA eOpOldn eOpOldc)) from fun X v0 v1 hX => ⟨cell_far2 _ _ (SS X hX).1 (by show f.mb ≠ g + 2; omega), cell_far2 _ _ (SS X hX).2.1 (by show g ≠ g + 2; omega), cell_far2 _ _ (SS X hX).2.2.1 (by show g ≠ g + 2; omega), cell_far2 _ _ (SS X hX).2.2.2.1 (by show g ≠ g + 2; omega), cell_far2 _ _ (SS X hX).2.2.2.2.1 (by show g ≠ g + 2; omega), cell_far2 _ _ (SS X hX).2.2.2.2.2.1 (by show g ≠ g + 2; omega), cell_far2 _ _ (SS X hX).2.2.2.2.2.2 (by show g ≠ g + 2; omega)⟩)
  have S0 := SS w0.drew (Fr.refl _ _).drew
  clear SS
  go_enter Tryz.func44, Tryz.ntmps44
  go_wp2_with fail
  rw [Hw0.out]
  go_region_held_law (fun X => X.cell? ⟨f.mb, 0, none⟩ = some (.pointer (some ⟨f.v, 0, none⟩)) ∧ X.cell? ⟨g, 1, none⟩ = some (.int .i64 eNum) ∧ X.cell? ⟨g, 5, none⟩ = some (.int .u8 eOpKind) ∧ X.cell? ⟨g, 6, none⟩ = some (.int .i64 eOpAt) ∧ X.cell? ⟨g, 7, none⟩ = some (.int .i64 eOpN) ∧ X.cell? ⟨g, 8, none⟩ = some (.slice eOpDataA eOpDatan eOpDatac) ∧ X.cell? ⟨g, 9, none⟩ = some (.slice eOpOldA eOpOldn eOpOldc)) (first | with_reducible assumption | exact KS.out _ _ _ (by with_reducible assumption)) (first
    | (go_at_call 104; refine HDo.out.mono ?_; rintro xx wa ⟨A, c, rfl, ⟨hA, hAc, hAm⟩, uA, hV1, hU1⟩; have cF : Fr (fun b => b = f.v ∨ b = f.r ∨ b = f.s) w0 wa := (Fr.refl _ w0).drew.trans (Fr.of_upd hU1 (.inl rfl) (.inr (.inl rfl)) (.inr (.inr rfl))); have Sa := KC.out _ cF; have hRa := hR.fr cF (by omega); have r0 := hRa.cell (j := 0) rfl; have r1 := hRa.cell (j := 1) rfl; have q0 := hRa.frozen 0; have q1 := hRa.frozen 1; have Hda := hide (And.intro hA (And.intro hAc (And.intro hAm (And.intro uA (And.intro hV1 hU1))))); clear hA hAc hAm uA hV1 hU1 hRa))
  all_goals
    obtain ⟨hA, hAc, hAm, uA, hV1, hU1⟩ := Hda.out
    have hRa := hR.fr cF (by omega)
    have hZa := hZ.fr cF (by omega)
    have hR2 := (hRa.set 0 (.int .u8 K1)).set 1 (.slice A D1.length c)
    have hZ2 := (hZa.apart (k := g + 2) (by omega) 0 (.int .u8 K1)).apart (k := g + 2) (by omega) 1 (.slice A D1.length c)
    clear r0 r1 q0 q1
    have r0 := hR2.cell (j := 0) rfl
    have r1 := hR2.cell (j := 1) rfl
    have z0 := hZ2.cell (j := 0) rfl
    have z1 := hZ2.cell (j := 1) rfl
    have q0 := hZ2.frozen 0
    have q1 := hZ2.frozen 1
    have hZ3 := (hZ2.set 0 (.int .u8 K1)).set 1 (.slice A D1.length c)
    have F1 : Fr f.W w wa := (Fr.of_below hb0).trans (cF.mono (by rintro b (rfl | rfl | rfl); exact .inr (.inl rfl); exact .inr (.inr (.inl rfl)); exact .inr (.inr (.inr (.inl rfl)))))
    have hM := ((h.avoid (Z := fun b => w.heap.size ≤ b) (fun b hb => hb)).below hb0.drew).upd hU1 hV1
    have G2 : Fr (fun b => b = g + 2) wa ((wa.setCell ⟨g + 2, 0, none⟩ (.int .u8 K1)).setCell ⟨g + 2, 1, none⟩ (.slice A D1.length c)) := ((Fr.refl (fun b => b = g + 2) wa).trans (Fr.setg _ (g + 2) 0 _)).trans (Fr.setg _ (g + 2) 1 _)
    have G3 : Fr (fun b => b = g + 1) ((wa.setCell ⟨g + 2, 0, none⟩ (.int .u8 K1)).setCell ⟨g + 2, 1, none⟩ (.slice A D1.length c)) ((((wa.setCell ⟨g + 2, 0, none⟩ (.int .u8 K1)).setCell ⟨g + 2, 1, none⟩ (.slice A D1.length c)).setCell ⟨g + 1, 0, none⟩ (.int .u8 K1)).setCell ⟨g + 1, 1, none⟩ (.slice A D1.length c)) := ((Fr.refl (fun b => b = g + 1) _).trans (Fr.setg _ (g + 1) 0 _)).trans (Fr.setg _ (g + 1) 1 _)
    have F3 := (F1.trans' G2 (fun b hb => .inr (by omega))).trans' G3 (fun b hb => .inr (by omega))
    have hM3 := ((hM.fr G2 (fun b hb _ => .inr (by show w.heap.size ≤ b; omega))).fr G3 (fun b hb _ => .inr (by show w.heap.size ≤ b; omega))).free (fun b hb => .inl hb)
    have s0 := hb0.size
    have hA3 := (hA.fr G2 (fun _ a' ha => by have := uA a' ha; have e : w0.drew.heap.size = w0.heap.size := rfl; omega)).fr G3 (fun _ a' ha => by have := uA a' ha; have e : w0.drew.heap.size = w0.heap.size := rfl; omega)
    have HM3 := hide hM3
    have HF3 := hide F3
    have HA3 := hide hA3
    clear hA hM hM3 F3 F1 G2 G3 hA3 hRa hZa hV1 hU1
    go_wp2
    refine bodyPost_ret (results_cell rfl rfl hZ3 Tryz.underlying40 rfl (by kernel_rfl)) rfl ?_
    rw [HD.out]
    exact ⟨A, c, rfl, hAc, hAm, HA3.out, (fun a' ha => by have := uA a' ha; have e : w0.drew.heap.size = w0.heap.size := rfl; omega), ⟨NN, B, D, G, gn, gc, HM3.out⟩, HF3.out⟩
theorem grp_ep1 {e : Int} {ms : List Int} (h : grpOk e ms = true) : 0 ≤ e ∧ e ≤ 4611686018427387904 := by
  unfold grpOk at h
  simp only [Bool.and_eq_true, decide_eq_true_eq] at h
  omega
set_option maxRecDepth 20000 in
set_option maxHeartbeats 6400000 in
theorem done7_no {Q : Nat → Prop} {e : EntryD} {cs : List Value} (h : MIs w L Y f a N NN B D G gn gc) (he : tyEntry.Is w Q e cs) (hk : e.1 = 2) (hn : e.2.2.2.2.2.2.1 ≠ a.ep + 1) (hY : ∀ b, Y b → b < w.heap.size) :
    Calls Tryz.prog 44 #[.pointer (some ⟨f.mb, 0, none⟩), .agg cs.toArray] w (DoneM L Y f N (a.done e) w) := by
  obtain ⟨eKind, eNum, eView, eClient, eSerial, eOpKind, eOpAt, eOpN, eOpData, eOpDataA, eOpDatan, eOpDatac, eOpOld, eOpOldA, eOpOldn, eOpOldc, eGroupEpoch, eGroupMembers, eGroupMembersA, eGroupMembersn, eGroupMembersc, eGroupMembersv, rfl, rfl, hu_eKind, h1_eNum, h2_eNum, h1_eView, h2_eView, h1_eClient, h2_eClient, h1_eSerial, h2_eSerial, hu_eOpKind, h1_eOpAt, h2_eOpAt, h1_eOpN, h2_eOpN, hl_eOpData, hc_eOpData, hm_eOpData, hr_eOpData, hq_eOpData, hl_eOpOld, hc_eOpOld, hm_eOpOld, hr_eOpOld, hq_eOpOld, h1_eGroupEpoch, h2_eGroupEpoch, hl_eGroupMembers, hc_eGroupMembers, hm_eGroupMembers, hr_eGroupMembers, hq_eGroupMembers, he_eGroupMembers⟩ := Entry_out he
  simp only at hk hn
  subst hk
  have HD : Hid (a.done (2, eNum, eView, eClient, eSerial, (eOpKind, eOpAt, eOpN, eOpData, eOpOld), eGroupEpoch, eGroupMembers) = (a, 2, [])) := by
    show a.done _ = _
    unfold MA.done
    rw [if_neg (show ¬ (2 : Nat) = 1 by decide), if_neg (by rintro ⟨_, h2⟩; exact hn h2)]
  obtain ⟨g, hg⟩ : ∃ g, w.heap.size = g := ⟨_, rfl⟩
  obtain ⟨w0, hw0⟩ : ∃ x, ((w.alloc (.cells #[.int .u8 2, .int .i64 eNum, .int .i64 eView, .int .i64 eClient, .int .i64 eSerial, .int .u8 eOpKind, .int .i64 eOpAt, .int .i64 eOpN, .slice eOpDataA eOpDatan eOpDatac, .slice eOpOldA eOpOldn eOpOldc, .int .i64 eGroupEpoch, .slice eGroupMembersA eGroupMembersn eGroupMembersc] 49)).alloc (.cells #[.int .u8 0, .slice none 0 0] 40)).alloc (.cells #[.int .u8 1, .slice none 0 0] 40) = x := ⟨_, rfl⟩
  have hE : Blk w0 g [.int .u8 2, .int .i64 eNum, .int .i64 eView, .int .i64 eClient, .int .i64 eSerial, .int .u8 eOpKind, .int .i64 eOpAt, .int .i64 eOpN, .slice eOpDataA eOpDatan eOpDatac, .slice eOpOldA eOpOldn eOpOldc, .int .i64 eGroupEpoch, .slice eGroupMembersA eGroupMembersn eGroupMembersc] 49 := by rw [← hw0, ← hg]; exact ((Blk.new w [.int .u8 2, .int .i64 eNum, .int .i64 eView, .int .i64 eClient, .int .i64 eSerial, .int .u8 eOpKind, .int .i64 eOpAt, .int .i64 eOpN, .slice eOpDataA eOpDatan eOpDatac, .slice eOpOldA eOpOldn eOpOldc, .int .i64 eGroupEpoch, .slice eGroupMembersA eGroupMembersn eGroupMembersc] _).alloc _).alloc _
  have hZ : Blk w0 (g + 1) [.int .u8 0, .slice none 0 0] 40 := by
    rw [← hw0, ← hg]
    have := (Blk.new (w.alloc (.cells #[.int .u8 2, .int .i64 eNum, .int .i64 eView, .int .i64 eClient, .int .i64 eSerial, .int .u8 eOpKind, .int .i64 eOpAt, .int .i64 eOpN, .slice eOpDataA eOpDatan eOpDatac, .slice eOpOldA eOpOldn eOpOldc, .int .i64 eGroupEpoch, .slice eGroupMembersA eGroupMembersn eGroupMembersc] 49)) [.int .u8 0, .slice none 0 0] 40).alloc (.cells #[.int .u8 1, .slice none 0 0] 40)
    rwa [World.size_alloc] at this
  have hR : Blk w0 (g + 2) [.int .u8 1, .slice none 0 0] 40 := by
    rw [← hw0, ← hg]
    have := Blk.new ((w.alloc (.cells #[.int .u8 2, .int .i64 eNum, .int .i64 eView, .int .i64 eClient, .int .i64 eSerial, .int .u8 eOpKind, .int .i64 eOpAt, .int .i64 eOpN, .slice eOpDataA eOpDatan eOpDatac, .slice eOpOldA eOpOldn eOpOldc, .int .i64 eGroupEpoch, .slice eGroupMembersA eGroupMembersn eGroupMembersc] 49)).alloc (.cells #[.int .u8 0, .slice none 0 0] 40)) [.int .u8 1, .slice none 0 0] 40
    rwa [World.size_alloc, World.size_alloc] at this
  have hb0 : Below w.heap.size w w0 := by rw [← hw0]; exact (((Below.refl _ _).alloc (Nat.le_refl _) _).alloc (by simp) _).alloc (by simp; omega) _
  have Hw0 := hide hw0
  clear hw0
  have h0 := h.below hb0
  have zl := hR.lt
  have hlt := h.lts
  have l1 := hlt f.mb (.inl rfl)
  have y0 := hE.cell (j := 0) rfl
  have y10 := hE.cell (j := 10) rfl
  have y11 := hE.cell (j := 11) rfl
  have x2 := h0.blk.cell (j := 2) rfl
  have x3 := h0.blk.cell (j := 3) rfl
  have xf2 := h0.blk.frozen 2
  have xf3 := h0.blk.frozen 3
  have hep := grp_ep1 h.ok
  have q : (eGroupEpoch == a.ep + 1) = false := by simpa using hn
  clear hn
  go_enter Tryz.func44, Tryz.ntmps44
  go_wp2_with fail
  rw [Hw0.out]
  go_region
  all_goals
    have r0 := hR.cell (j := 0) rfl
    have qr0 := hR.frozen 0
    have hR2 := hR.set 0 (.int .u8 2)
    have hZ2 := hZ.apart (k := g + 2) (by omega) 0 (.int .u8 2)
    have v0 := hR2.cell (j := 0) rfl
    have v1 := hR2.cell (j := 1) rfl
    have z0 := hZ2.cell (j := 0) rfl
    have z1 := hZ2.cell (j := 1) rfl
    have q0 := hZ2.frozen 0
    have q1 := hZ2.frozen 1
    have hZ3 := (hZ2.set 0 (.int .u8 2)).set 1 (.slice none 0 0)
    have G2 : Fr (fun b => g ≤ b) w0 (w0.setCell ⟨g + 2, 0, none⟩ (.int .u8 2)) := Fr.set w0 ⟨g + 2, 0, none⟩ _ (by show g ≤ g + 2; omega)
    have G3 : Fr (fun b => g ≤ b) (w0.setCell ⟨g + 2, 0, none⟩ (.int .u8 2)) (((w0.setCell ⟨g + 2, 0, none⟩ (.int .u8 2)).setCell ⟨g + 1, 0, none⟩ (.int .u8 2)).setCell ⟨g + 1, 1, none⟩ (.slice none 0 0)) := (Fr.set _ ⟨g + 1, 0, none⟩ _ (by show g ≤ g + 1; omega)).trans (Fr.set _ ⟨g + 1, 1, none⟩ _ (by show g ≤ g + 1; omega))
    have GG := (G2.trans G3).drew
    have F3 : Fr f.W w _ := (Fr.of_below hb0).trans' GG (fun b hb => .inr (by omega))
    have hM3 := (((h.avoid (Z := fun b => w.heap.size ≤ b) (fun b hb => hb)).below hb0).fr GG (fun b hb _ => .inr (by show w.heap.size ≤ b; omega))).free (Y' := Y) (fun b hb => .inl hb)
    have HM3 := hide hM3
    have HF3 := hide F3
    clear hM3 F3 G2 G3 GG
    go_wp2
    refine bodyPost_ret (results_cell rfl rfl hZ3 Tryz.underlying40 rfl (by kernel_rfl)) rfl ?_
    rw [HD.out]
    exact ⟨none, 0, rfl, by simp, by omega, Rd.nil, (fun a' ha => by cases ha), ⟨NN, B, D, G, gn, gc, HM3.out⟩, HF3.out⟩
/-- Another group, lying anew. -/
theorem MIs.regroup {ep : Int} {ms : List Int} {GA : Option Addr} {n' c' : Nat} (h : MIs w L Y f a N NN B D G gn gc) (hb : Blk ((w.setCell ⟨f.mb, 2, none⟩ (.int .i64 ep)).setCell ⟨f.mb, 3, none⟩ (.slice GA n' c')) f.mb [.pointer (some ⟨f.v, 0, none⟩), .pointer (some ⟨f.t, 0, none⟩), .int .i64 ep, .slice GA n' c', .int .i64 a.num] 90)
    (hr : Rd w GA (ints ms)) (hn : ms.length = n') (hc : n' ≤ c' ∧ c' ≤ 9223372036854775807) (hok : grpOk ep ms = true) (hG : ∀ a, GA = some a → B ≤ a.block ∧ a.block ≠ f.mb ∧ a.block ≠ f.bm ∧ a.block ≠ f.t ∧ ¬ Y a.block) :
    MIs ((w.setCell ⟨f.mb, 2, none⟩ (.int .i64 ep)).setCell ⟨f.mb, 3, none⟩ (.slice GA n' c')) L Y f { a with ep := ep, ms := ms } N NN B D GA n' c' := by
  have Fm : Fr (fun b => b = f.mb) w ((w.setCell ⟨f.mb, 2, none⟩ (.int .i64 ep)).setCell ⟨f.mb, 3, none⟩ (.slice GA n' c')) := (Fr.setg w f.mb 2 _).trans (Fr.setg _ f.mb 3 _)
  obtain ⟨b1, b2, b3, b4⟩ := h.hiB
  obtain ⟨n1, n2⟩ := h.ne
  exact { blk := hb, vol := h.vol.fr Fm (by omega) (by omega) (by omega), tab := h.tab.fr Fm (by omega) (by omega) (h.dA.mono fun b hb => hb.1), sz := h.sz, gr := hr.fr Fm (fun _ a' ha => (hG a' ha).2.1), gl := hn, gc_ := hc, ok := hok, lo := h.lo, hiB := h.hiB, ne := h.ne, gA := hG, dA := h.dA, yA := h.yA }
set_option maxRecDepth 20000 in
set_option maxHeartbeats 6400000 in
theorem done7_yes {Q : Nat → Prop} {e : EntryD} {cs : List Value} (h : MIs w L Y f a N NN B D G gn gc) (he : tyEntry.Is w Q e cs) (hk : e.1 = 2) (hn : e.2.2.2.2.2.2.1 = a.ep + 1) (hgo : grpOk e.2.2.2.2.2.2.1 e.2.2.2.2.2.2.2 = true) (hY : ∀ b, Y b → b < w.heap.size) :
    Calls Tryz.prog 44 #[.pointer (some ⟨f.mb, 0, none⟩), .agg cs.toArray] w (DoneM L Y f N (a.done e) w) := by
  obtain ⟨eKind, eNum, eView, eClient, eSerial, eOpKind, eOpAt, eOpN, eOpData, eOpDataA, eOpDatan, eOpDatac, eOpOld, eOpOldA, eOpOldn, eOpOldc, eGroupEpoch, eGroupMembers, eGroupMembersA, eGroupMembersn, eGroupMembersc, eGroupMembersv, rfl, rfl, hu_eKind, h1_eNum, h2_eNum, h1_eView, h2_eView, h1_eClient, h2_eClient, h1_eSerial, h2_eSerial, hu_eOpKind, h1_eOpAt, h2_eOpAt, h1_eOpN, h2_eOpN, hl_eOpData, hc_eOpData, hm_eOpData, hr_eOpData, hq_eOpData, hl_eOpOld, hc_eOpOld, hm_eOpOld, hr_eOpOld, hq_eOpOld, h1_eGroupEpoch, h2_eGroupEpoch, hl_eGroupMembers, hc_eGroupMembers, hm_eGroupMembers, hr_eGroupMembers, hq_eGroupMembers, he_eGroupMembers⟩ := Entry_out he
  simp only at hk hn hgo
  subst hk
  have HD : Hid (a.done (2, eNum, eView, eClient, eSerial, (eOpKind, eOpAt, eOpN, eOpData, eOpOld), eGroupEpoch, eGroupMembers) = ({ a with ep := eGroupEpoch, ms := eGroupMembers }, 1, [])) := by
    show a.done _ = _
    unfold MA.done
    rw [if_neg (show ¬ (2 : Nat) = 1 by decide), if_pos ⟨rfl, hn⟩]
  obtain ⟨hmi, _⟩ := i64rows he_eGroupMembers
  subst hmi
  have gl := grp_len hgo
  obtain ⟨g, hg⟩ : ∃ g, w.heap.size = g := ⟨_, rfl⟩
  obtain ⟨w0, hw0⟩ : ∃ x, ((w.alloc (.cells #[.int .u8 2, .int .i64 eNum, .int .i64 eView, .int .i64 eClient, .int .i64 eSerial, .int .u8 eOpKind, .int .i64 eOpAt, .int .i64 eOpN, .slice eOpDataA eOpDatan eOpDatac, .slice eOpOldA eOpOldn eOpOldc, .int .i64 eGroupEpoch, .slice eGroupMembersA eGroupMembersn eGroupMembersc] 49)).alloc (.cells #[.int .u8 0, .slice none 0 0] 40)).alloc (.cells #[.int .u8 1, .slice none 0 0] 40) = x := ⟨_, rfl⟩
  have hE : Blk w0 g [.int .u8 2, .int .i64 eNum, .int .i64 eView, .int .i64 eClient, .int .i64 eSerial, .int .u8 eOpKind, .int .i64 eOpAt, .int .i64 eOpN, .slice eOpDataA eOpDatan eOpDatac, .slice eOpOldA eOpOldn eOpOldc, .int .i64 eGroupEpoch, .slice eGroupMembersA eGroupMembersn eGroupMembersc] 49 := by rw [← hw0, ← hg]; exact ((Blk.new w [.int .u8 2, .int .i64 eNum, .int .i64 eView, .int .i64 eClient, .int .i64 eSerial, .int .u8 eOpKind, .int .i64 eOpAt, .int .i64 eOpN, .slice eOpDataA eOpDatan eOpDatac, .slice eOpOldA eOpOldn eOpOldc, .int .i64 eGroupEpoch, .slice eGroupMembersA eGroupMembersn eGroupMembersc] _).alloc _).alloc _
  have hZ : Blk w0 (g + 1) [.int .u8 0, .slice none 0 0] 40 := by
    rw [← hw0, ← hg]
    have := (Blk.new (w.alloc (.cells #[.int .u8 2, .int .i64 eNum, .int .i64 eView, .int .i64 eClient, .int .i64 eSerial, .int .u8 eOpKind, .int .i64 eOpAt, .int .i64 eOpN, .slice eOpDataA eOpDatan eOpDatac, .slice eOpOldA eOpOldn eOpOldc, .int .i64 eGroupEpoch, .slice eGroupMembersA eGroupMembersn eGroupMembersc] 49)) [.int .u8 0, .slice none 0 0] 40).alloc (.cells #[.int .u8 1, .slice none 0 0] 40)
    rwa [World.size_alloc] at this
  have hR : Blk w0 (g + 2) [.int .u8 1, .slice none 0 0] 40 := by
    rw [← hw0, ← hg]
    have := Blk.new ((w.alloc (.cells #[.int .u8 2, .int .i64 eNum, .int .i64 eView, .int .i64 eClient, .int .i64 eSerial, .int .u8 eOpKind, .int .i64 eOpAt, .int .i64 eOpN, .slice eOpDataA eOpDatan eOpDatac, .slice eOpOldA eOpOldn eOpOldc, .int .i64 eGroupEpoch, .slice eGroupMembersA eGroupMembersn eGroupMembersc] 49)).alloc (.cells #[.int .u8 0, .slice none 0 0] 40)) [.int .u8 1, .slice none 0 0] 40
    rwa [World.size_alloc, World.size_alloc] at this
  have hb0 : Below w.heap.size w w0 := by rw [← hw0]; exact (((Below.refl _ _).alloc (Nat.le_refl _) _).alloc (by simp) _).alloc (by simp; omega) _
  have Hw0 := hide hw0
  clear hw0
  have h0 := h.below hb0
  have zl := hR.lt
  have hlt := h.lts
  have l1 := hlt f.mb (.inl rfl)
  have y0 := hE.cell (j := 0) rfl
  have y10 := hE.cell (j := 10) rfl
  have y11 := hE.cell (j := 11) rfl
  have x2 := h0.blk.cell (j := 2) rfl
  have x3 := h0.blk.cell (j := 3) rfl
  have xf2 := h0.blk.frozen 2
  have xf3 := h0.blk.frozen 3
  have hep := grp_ep1 h.ok
  have q : (eGroupEpoch == a.ep + 1) = true := by simpa using hn
  have HL := hide hl_eGroupMembers
  have hgn : eGroupMembersn ≤ 9 := by rw [← hl_eGroupMembers]; exact gl.2
  have hrM := hr_eGroupMembers.below hb0
  have Hgo := hide hgo
  have Hgl := hide gl
  clear hn hl_eGroupMembers hgo gl
  go_enter Tryz.func44, Tryz.ntmps44
  go_wp2_with fail
  rw [Hw0.out]
  go_region
  all_goals
    go_wp2_with fail
    go_fit (cloneG_any eGroupEpoch eGroupMembersA eGroupMembersn eGroupMembersc eGroupMembers _ HL.out (by omega) hrM.drew)
    rintro xx w1 ⟨GA, c', rfl, hgc, hgm, hgr, hga, hb1⟩
    have hb1' : Below w0.heap.size w0 w1 := ⟨hb1.os, hb1.tape, hb1.output, hb1.size, hb1.block⟩
    have h1 := h0.below hb1'
    have hR1 := hR.below hb1'
    have hZ1 := hZ.below hb1'
    have s0 := hb0.size
    have s1 := hb1'.size
    clear x2 x3 xf2 xf3 y0 y10 y11
    have x2 := h1.blk.cell (j := 2) rfl
    have x3 := h1.blk.cell (j := 3) rfl
    have xf2 := h1.blk.frozen 2
    have xf3 := h1.blk.frozen 3
    have hM2 := (h1.blk.set 2 (.int .i64 eGroupEpoch)).set 3 (.slice GA eGroupMembersn c')
    have hR2 := (hR1.apart (k := f.mb) (by omega) 2 (.int .i64 eGroupEpoch)).apart (k := f.mb) (by omega) 3 (.slice GA eGroupMembersn c')
    have hZ2 := (hZ1.apart (k := f.mb) (by omega) 2 (.int .i64 eGroupEpoch)).apart (k := f.mb) (by omega) 3 (.slice GA eGroupMembersn c')
    have v0 := hR2.cell (j := 0) rfl
    have v1 := hR2.cell (j := 1) rfl
    have z0 := hZ2.cell (j := 0) rfl
    have z1 := hZ2.cell (j := 1) rfl
    have q0 := hZ2.frozen 0
    have q1 := hZ2.frozen 1
    have hZ3 := (hZ2.set 0 (.int .u8 1)).set 1 (.slice none 0 0)
    have Fm : Fr (fun b => b = f.mb) w1 ((w1.setCell ⟨f.mb, 2, none⟩ (.int .i64 eGroupEpoch)).setCell ⟨f.mb, 3, none⟩ (.slice GA eGroupMembersn c')) := (Fr.setg w1 f.mb 2 _).trans (Fr.setg _ f.mb 3 _)
    have Fz : Fr (fun b => b = g + 1) ((w1.setCell ⟨f.mb, 2, none⟩ (.int .i64 eGroupEpoch)).setCell ⟨f.mb, 3, none⟩ (.slice GA eGroupMembersn c')) ((((w1.setCell ⟨f.mb, 2, none⟩ (.int .i64 eGroupEpoch)).setCell ⟨f.mb, 3, none⟩ (.slice GA eGroupMembersn c')).setCell ⟨g + 1, 0, none⟩ (.int .u8 1)).setCell ⟨g + 1, 1, none⟩ (.slice none 0 0)) := (Fr.setg _ (g + 1) 0 _).trans (Fr.setg _ (g + 1) 1 _)
    have F3 := (((Fr.of_below (hb0.trans (hb1'.mono hb0.size))).trans' (X := f.W) Fm (fun b hb => .inl (.inl hb))).trans' Fz (fun b hb => .inr (by omega)))
    have hA := (h.avoid (Z := fun b => w.heap.size ≤ b ∧ b < w0.heap.size) (fun b hb => hb.1)).below (hb0.trans (hb1'.mono hb0.size))
    have hlts := h.lts
    have lbm := hlts f.bm (.inr (.inr (.inr (.inr rfl))))
    have ltt := h.tab.blk.lt
    obtain ⟨b1, b2, b3, b4⟩ := h.hiB
    have hN := hA.regroup hM2 hgr HL.out ⟨hgc, hgm⟩ Hgo.out (fun a' ha => by have := hga a' ha; have e : w0.drew.heap.size = w0.heap.size := rfl; refine ⟨by omega, by omega, by omega, by omega, ?_⟩; rintro (hy | hy); have := hY _ hy; omega; omega)
    have hN3 := (hN.fr Fz (fun b hb _ => .inr (by omega))).free (Y' := Y) (fun b hb => .inl hb)
    have HN3 := hide hN3
    have HF3 := hide F3
    clear hN3 hN hA F3 Fz Fm hR1 hZ1 h1 hgr
    go_wp2
    refine bodyPost_ret (results_cell rfl rfl hZ3 Tryz.underlying40 rfl (by kernel_rfl)) rfl ?_
    rw [HD.out]
    exact ⟨none, 0, rfl, by simp, by omega, Rd.nil, (fun a' ha => by cases ha), ⟨NN, B, D, _, _, _, HN3.out⟩, HF3.out⟩
end
end Go.Proofs.YtkknkdjdneldlaaGreat
