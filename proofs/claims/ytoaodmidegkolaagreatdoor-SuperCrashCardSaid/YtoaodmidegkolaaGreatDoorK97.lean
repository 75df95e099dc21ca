/- Texts joined (shake.py). -/
import Derived.Deep.QuietTactic
import Derived.BigQuiet
import Derived.WalkSpells
import Derived.Outline
import Derived.Deep.DeepFit
import Derived.Maps.OwnSet
import Derived.Lib.SlKeysI
import Derived.Test.YtoaodmidegkolaaGreatDoorK91
import Derived.Test.YtoaodmidegkolaaGreatDoorK92
namespace Go.Proofs.YtoaodmidegkolaaGreatDoor
set_option maxRecDepth 20000
open Go.RowKit Go.Px Go.Maps
set_option linter.unusedVariables false
def rdS (v : Value) : Option (DataW Value × List MemPlace) := some (.held v, [])
theorem keyed08 : Keyed Tryz.prog 3 := int_keyed Tryz.underlying3
theorem key08 {c : Int} (h1 : -9223372036854775808 ≤ c) (h2 : c ≤ 9223372036854775807) : keyOf Tryz.prog 3 (.int .i64 c) = some (.int .i64 c) :=
  keyOf_int_mk Tryz.underlying3 (by simpa [Lit.wf, IntKind.min, IntKind.max, IntKind.signed, IntKind.bits] using And.intro h1 h2)
theorem keyLit08 (c : Int) : WideAt.IsKeyLit (Lit.int .i64 c) := by first | trivial | (unfold WideAt.IsKeyLit; trivial) | simp [WideAt.IsKeyLit]
theorem zero_bytes08 (w : World) : (zeroValue 51).run Tryz.prog w = .ok (.slice none 0 0) w := by kernel_rfl
theorem zero_unit08 (w : World) : (zeroValue 62).run Tryz.prog w = .ok (.agg #[]) w := by kernel_rfl
theorem lit_ne {x y : Int} (h : x ≠ y) : (Lit.int .i64 x) ≠ (Lit.int .i64 y) := by intro e; injection e with _ e; exact h e
/-- A disk: sectors' size, what is fast, what is loose, what is bad, the fuse. -/
structure Dk where
  size : Nat
  fast : List (List UInt8)
  loose : Int → Option (List UInt8)
  bad : Int → Bool
  fuse : Int
/-- It may be. -/
structure Dk.Ok (d : Dk) : Prop where
  s1 : 1 ≤ d.size
  s2 : d.size ≤ 8192
  n1 : 1 ≤ d.fast.length
  n2 : d.fast.length ≤ 65536
  fl : ∀ b ∈ d.fast, b.length = d.size
  lo : ∀ i b, d.loose i = some b → 0 ≤ i ∧ i < d.fast.length ∧ b.length = d.size
  ba : ∀ i, d.bad i = true → 0 ≤ i ∧ i < d.fast.length
  f1 : -1 ≤ d.fuse
  f2 : d.fuse ≤ 9223372036854775807
/-- A sector's bytes: nil says that they are 0. -/
def SecIs (w : World) (Q : Nat → Prop) (v : Value) (bs : List UInt8) : Prop :=
  ∃ A n c, v = .slice A n c ∧ n ≤ c ∧ c ≤ 9223372036854775807 ∧ ((A = none ∧ n = 0 ∧ c = 0 ∧ bs = List.replicate bs.length 0) ∨ (bs.length = n ∧ Rd w A (bys bs) ∧ ∀ a, A = some a → Q a.block))
/-- What the map of loose sectors says of one. -/
def LoIs (w : World) (Q : Nat → Prop) (D : DataW Value) (i : Int) : Option (List UInt8) → Prop
  | none => Maps.has D (.int .i64 i) = false
  | some bs => Maps.has D (.int .i64 i) = true ∧ ∃ A n c, D.atKey (.int .i64 i) (.held (.slice none 0 0)) = .held (.slice A n c) ∧ bs.length = n ∧ n ≤ c ∧ c ≤ 9223372036854775807 ∧ Rd w A (bys bs) ∧ ∀ a, A = some a → Q a.block
/-- A disk at block t, its row of sectors at f, its maps at lm and bm; what sectors hold lies in Q. -/
structure DIs (w : World) (Q : Nat → Prop) (t f lm bm : Nat) (d : Dk) : Prop where
  blk : ∃ c, Blk w t [.int .i64 (d.size : Int), .slice (some ⟨f, 0, none⟩) d.fast.length c, .map (some lm), .map (some bm), .int .i64 d.fuse] 48 ∧ d.fast.length ≤ c ∧ c ≤ 9223372036854775807
  row : ∃ cs, Blk w f cs 51 ∧ d.fast.length ≤ cs.length ∧ ∀ (i : Nat) (b : List UInt8), d.fast[i]? = some b → ∃ v, cs[i]? = some v ∧ SecIs w Q v b
  lo : ∃ D, w.ownsMap Tryz.prog 3 rdS lm (Maps.size D) D ∧ ∀ i, LoIs w Q D i (d.loose i)
  ba : ∃ D : DataW Value, w.ownsMap Tryz.prog 3 unitElem bm (Maps.size D) D ∧ ∀ i, Maps.has D (.int .i64 i) = d.bad i
  ok : d.Ok
  ne : t ≠ f ∧ t ≠ lm ∧ t ≠ bm ∧ f ≠ lm ∧ f ≠ bm ∧ lm ≠ bm
  out : ∀ b, Q b → b ≠ t ∧ b ≠ f ∧ b ≠ lm ∧ b ≠ bm
section
variable {w w' : World} {Q Q' X : Nat → Prop} {t f lm bm : Nat} {d : Dk}
theorem own_tight {w : World} {R : Value → Option (DataW Value × List MemPlace)} {b n : Nat} {D : DataW Value} (h : w.ownsMap Tryz.prog 3 R b n D) : w.ownsMap Tryz.prog 3 R b (Maps.size D) D := by
  obtain ⟨es, clock, hb, F, hs, rfl⟩ := h
  exact ⟨es, clock, hb, F, by simp [Maps.size, length_sorted], rfl⟩
theorem own_fr {R : Value → Option (DataW Value × List MemPlace)} {b n : Nat} {D : DataW Value} (h : w.ownsMap Tryz.prog 3 R b n D) (hf : Fr X w w') (hx : ¬ X b) : w'.ownsMap Tryz.prog 3 R b n D := by
  have hl := h.lt
  obtain ⟨es, clock, hb, F, hs, hD⟩ := h
  exact ⟨es, clock, (hf.blk b hl hx).trans hb, F, hs, hD⟩
theorem SecIs.keep {v : Value} {bs : List UInt8} (h : SecIs w Q v bs) (hk : ∀ A xs, Rd w A xs → (∀ a, A = some a → Q a.block) → Rd w' A xs) (hQ : ∀ b, Q b → Q' b) : SecIs w' Q' v bs := by
  obtain ⟨A, n, c, h1, h2, h3, h4 | ⟨h4, h5, h6⟩⟩ := h
  · exact ⟨A, n, c, h1, h2, h3, .inl h4⟩
  · exact ⟨A, n, c, h1, h2, h3, .inr ⟨h4, hk _ _ h5 h6, fun a ha => hQ _ (h6 a ha)⟩⟩
theorem LoIs.keep {D : DataW Value} {i : Int} {o : Option (List UInt8)} (h : LoIs w Q D i o) (hk : ∀ A xs, Rd w A xs → (∀ a, A = some a → Q a.block) → Rd w' A xs) (hQ : ∀ b, Q b → Q' b) : LoIs w' Q' D i o := by
  cases o with
  | none => exact h
  | some bs =>
    obtain ⟨h0, A, n, c, h1, h2, h3, h4, h5, h6⟩ := h
    exact ⟨h0, A, n, c, h1, h2, h3, h4, hk _ _ h5 h6, fun a ha => hQ _ (h6 a ha)⟩
/-- What a disk holds stays while its blocks are left alone. -/
theorem DIs.frQ (h : DIs w Q t f lm bm d) (hf : Fr X w w') (ht : ¬ X t) (hff : ¬ X f) (hl : ¬ X lm) (hb : ¬ X bm) (hq : ∀ b, Q b → ¬ X b) (hQ : ∀ b, Q b → Q' b) (hout : ∀ b, Q' b → b ≠ t ∧ b ≠ f ∧ b ≠ lm ∧ b ≠ bm) : DIs w' Q' t f lm bm d := by
  have hk : ∀ A xs, Rd w A xs → (∀ a, A = some a → Q a.block) → Rd w' A xs := fun A xs hr hA => hr.fr hf (fun _ a ha => hq _ (hA a ha))
  obtain ⟨⟨c, b1, b2⟩, ⟨cs, r1, r2, r3⟩, ⟨D, l1, l2⟩, ⟨E, e1, e2⟩, h5, h6, h7⟩ := h
  exact ⟨⟨c, b1.fr hf ht, b2⟩, ⟨cs, r1.fr hf hff, r2, fun i b hi => by obtain ⟨v, hv, hs⟩ := r3 i b hi; exact ⟨v, hv, hs.keep hk hQ⟩⟩, ⟨D, own_fr l1 hf hl, fun i => (l2 i).keep hk hQ⟩, ⟨E, own_fr e1 hf hb, e2⟩, h5, h6, hout⟩
theorem DIs.fr (h : DIs w Q t f lm bm d) (hf : Fr X w w') (ht : ¬ X t) (hff : ¬ X f) (hl : ¬ X lm) (hb : ¬ X bm) (hq : ∀ b, Q b → ¬ X b) : DIs w' Q t f lm bm d := h.frQ hf ht hff hl hb hq (fun _ h => h) h.out
theorem DIs.below (h : DIs w Q t f lm bm d) (hb : Below w.heap.size w w') : DIs w' Q t f lm bm d :=
  h.fr (X := fun _ => False) (Fr.of_below hb) (fun h => h) (fun h => h) (fun h => h) (fun h => h) (fun _ _ h => h)
theorem DIs.mono (h : DIs w Q t f lm bm d) (hQ : ∀ b, Q b → Q' b) (hout : ∀ b, Q' b → b ≠ t ∧ b ≠ f ∧ b ≠ lm ∧ b ≠ bm) : DIs w Q' t f lm bm d :=
  h.frQ (X := fun _ => False) (Fr.refl _ _) (fun h => h) (fun h => h) (fun h => h) (fun h => h) (fun _ _ h => h) hQ hout
theorem DIs.lts (h : DIs w Q t f lm bm d) : t < w.heap.size ∧ f < w.heap.size ∧ lm < w.heap.size ∧ bm < w.heap.size := by
  obtain ⟨⟨c, b1, b2⟩, ⟨cs, r1, r2, r3⟩, ⟨D, l1, l2⟩, ⟨E, e1, e2⟩, h5, h6, h7⟩ := h
  exact ⟨b1.lt, r1.lt, l1.lt, e1.lt⟩
/-- The blocks that are a disk's own. -/
def OwnB (t f lm bm : Nat) (b : Nat) : Prop := b = t ∨ b = f ∨ b = lm ∨ b = bm
/-- What the loose map says: a run. -/
theorem DIs.look_lo (h : DIs w Q t f lm bm d) {i : Int} (h1 : -9223372036854775808 ≤ i) (h2 : i ≤ 9223372036854775807) :
    (d.loose i = none ∧ (Instr.lookup 45 (.map (some lm)) (.int .i64 i) true).run Tryz.prog w = .ok (.tuple #[.slice none 0 0, .bool false]) w) ∨
    (∃ bs A n c, d.loose i = some bs ∧ (Instr.lookup 45 (.map (some lm)) (.int .i64 i) true).run Tryz.prog w = .ok (.tuple #[.slice A n c, .bool true]) w ∧ bs.length = n ∧ n ≤ c ∧ c ≤ 9223372036854775807 ∧ Rd w A (bys bs) ∧ ∀ a, A = some a → Q a.block) := by
  obtain ⟨D, l1, l2⟩ := h.lo
  have ha := l2 i
  obtain ⟨v, ps, hr, hv⟩ := l1.look_ok keyed08 Tryz.underlying45 (zero_bytes08 w) (zd := .held (.slice none 0 0)) (zp := []) rfl (key08 h1 h2)
  cases hl : d.loose i with
  | none =>
    left
    rw [hl] at ha
    have ha' : Maps.has D (.int .i64 i) = false := ha
    rw [ha'] at hr
    rw [atKey_of_not_has ha'] at hv
    injection hv with hv
    injection hv with hv _
    injection hv with hv
    rw [hv] at hr
    exact ⟨rfl, hr⟩
  | some bs =>
    right
    rw [hl] at ha
    obtain ⟨h0, A, n, c, ha1, hrest⟩ := ha
    rw [h0] at hr
    rw [ha1] at hv
    injection hv with hv
    injection hv with hv _
    injection hv with hv
    rw [hv] at hr
    exact ⟨bs, A, n, c, rfl, hr, hrest⟩
theorem DIs.look_ba (h : DIs w Q t f lm bm d) {i : Int} (h1 : -9223372036854775808 ≤ i) (h2 : i ≤ 9223372036854775807) :
    (Instr.lookup 46 (.map (some bm)) (.int .i64 i) true).run Tryz.prog w = .ok (.tuple #[.agg #[], .bool (d.bad i)]) w := by
  obtain ⟨D, l1, l2⟩ := h.ba
  obtain ⟨v, ps, hr, hv⟩ := l1.look_ok keyed08 Tryz.underlying46 (zero_unit08 w) (zd := .agg []) (zp := []) unitElem_mk (key08 h1 h2)
  rw [l2 i, (unitElem_inv hv).1] at hr
  exact hr
/-- A sector that is fast: its cell. -/
theorem DIs.sec (h : DIs w Q t f lm bm d) {i : Nat} (hi : i < d.fast.length) : ∃ v, w.cell? ⟨f, i, none⟩ = some v ∧ SecIs w Q v d.fast[i] := by
  obtain ⟨cs, r1, r2, r3⟩ := h.row
  obtain ⟨v, hv, hs⟩ := r3 i _ (List.getElem?_eq_getElem hi)
  exact ⟨v, r1.cell hv, hs⟩
end
end Go.Proofs.YtoaodmidegkolaaGreatDoor
namespace Go.Proofs.YtoaodmidegkolaaGreatDoor
set_option maxRecDepth 20000
open Go.RowKit Go.Px Go.Maps Go.WideShapes Go.MapKept Go.ChangeMaps
set_option linter.unusedVariables false
section
variable {w w' : World} {Q Q' X : Nat → Prop} {t f lm bm : Nat} {d : Dk}
theorem fr_turned {b : Nat} (h : w.mapTurned w' b) : Fr (fun x => x = b) w w' := Fr.of_grown h.grown (fun k e => by injection e with e; exact e.symm)
/-- The keys of a map of ints: each once, just those that it has. -/
theorem keys08 {R : Value → Option (DataW Value × List MemPlace)} {b n : Nat} {D : DataW Value} (h : w.ownsMap Tryz.prog 3 R b n D) : (intKeys D).Nodup ∧ (∀ x, x ∈ intKeys D ↔ Maps.has D (.int .i64 x) = true) ∧ (intKeys D).length = Maps.size D := by
  obtain ⟨es, hD, hpw, _⟩ := h.entries keyed08
  obtain ⟨es', hD', hko⟩ := h.keysOf
  obtain rfl : es = es' := by rw [hD] at hD'; simpa using hD'
  subst hD
  have hk : ∀ p ∈ es, ∃ x, p.1 = .int .i64 x := fun p hp => by obtain ⟨v, hv⟩ := hko p hp; obtain ⟨x, _, hx, _⟩ := Maps.keyOf_i64 Tryz.underlying3 hv; exact ⟨x, hx⟩
  refine ⟨?_, fun x => ?_, by simp [intKeys, Maps.size]⟩
  · show (es.map fun p => intOf p.1).Nodup
    refine List.pairwise_map.2 (hpw.imp_of_mem fun {p q} hp' hq' hne e => hne ?_)
    obtain ⟨a, ha⟩ := hk p hp'
    obtain ⟨b, hb⟩ := hk q hq'
    rw [ha, hb] at e ⊢
    exact congrArg _ e
  · rw [has_eq, List.any_eq_true]
    show x ∈ es.map (fun p => intOf p.1) ↔ _
    rw [List.mem_map]
    constructor
    · rintro ⟨p, hp', rfl⟩
      obtain ⟨a, ha⟩ := hk p hp'
      exact ⟨p, hp', by rw [ha]; simp [Lit.sameKey, intOf]⟩
    · rintro ⟨p, hp', hs⟩
      obtain ⟨a, ha⟩ := hk p hp'
      rw [ha] at hs
      exact ⟨p, hp', by rw [ha]; simpa [Lit.sameKey, intOf] using hs⟩
theorem nodup_le : ∀ (N : Nat) (l : List Int), l.Nodup → (∀ x ∈ l, 0 ≤ x ∧ x < (N : Int)) → l.length ≤ N
  | 0, l, _, h => by
    rcases l with _ | ⟨x, l⟩
    · simp
    · have := h x (List.mem_cons_self ..); omega
  | N + 1, l, hn, h => by
    have h1 := nodup_le N (l.erase (N : Int)) (hn.erase _) (fun x hx => by
      have h2 := h x (List.mem_of_mem_erase hx)
      have h3 := (hn.mem_erase_iff.1 hx).1
      omega)
    have h4 : l.length ≤ (l.erase (N : Int)).length + 1 := by
      rw [List.length_erase]
      split <;> omega
    omega
theorem DIs.lo_size (h : DIs w Q t f lm bm d) {R : Value → Option (DataW Value × List MemPlace)} {n : Nat} {D : DataW Value} (l1 : w.ownsMap Tryz.prog 3 R lm n D) (l2 : ∀ i, LoIs w Q D i (d.loose i)) : Maps.size D ≤ 65536 := by
  obtain ⟨k1, k2, k3⟩ := keys08 l1
  have := nodup_le d.fast.length (intKeys D) k1 (fun x hx => by
    have hh := (k2 x).1 hx
    have ha := l2 x
    cases hl : d.loose x with
    | none => rw [hl] at ha; rw [show Maps.has D (.int .i64 x) = false from ha] at hh; cases hh
    | some bs => have := h.ok.lo x bs hl; exact ⟨this.1, this.2.1⟩)
  have := h.ok.n2
  omega
theorem DIs.ba_size (h : DIs w Q t f lm bm d) {R : Value → Option (DataW Value × List MemPlace)} {n : Nat} {D : DataW Value} (l1 : w.ownsMap Tryz.prog 3 R bm n D) (l2 : ∀ i, Maps.has D (.int .i64 i) = d.bad i) : Maps.size D ≤ 65536 := by
  obtain ⟨k1, k2, k3⟩ := keys08 l1
  have := nodup_le d.fast.length (intKeys D) k1 (fun x hx => h.ok.ba x (by rw [← l2 x]; exact (k2 x).1 hx))
  have := h.ok.n2
  omega
/-- Memory but for one of the disk's own blocks. -/
theorem DIs.rd_keep (h : DIs w Q t f lm bm d) {b : Nat} (hf : Fr (fun x => x = b) w w') (hb : OwnB t f lm bm b) : ∀ A xs, Rd w A xs → (∀ a, A = some a → Q a.block) → Rd w' A xs := fun A xs hr hA => hr.fr hf (fun _ a ha e => by
  have := h.out _ (hA a ha)
  rcases hb with rfl | rfl | rfl | rfl <;> simp_all)
def Dk.putL (d : Dk) (i : Int) (o : Option (List UInt8)) : Dk := { d with loose := fun x => if x = i then o else d.loose x }
def Dk.putB (d : Dk) (i : Int) (o : Bool) : Dk := { d with bad := fun x => if x = i then o else d.bad x }
def Dk.putF (d : Dk) (i : Nat) (b : List UInt8) : Dk := { d with fast := d.fast.set i b }
theorem DIs.put_lo (h : DIs w Q t f lm bm d) {i : Int} (h0 : 0 ≤ i) (h1 : i < d.fast.length) {A : Option Addr} {n c : Nat} {bs : List UInt8} (hl : bs.length = d.size) (hn : bs.length = n) (hnc : n ≤ c) (hc : c ≤ 9223372036854775807) (hr : Rd w A (bys bs)) (hA : ∀ a, A = some a → Q a.block) :
    ∃ w', (Instr.mapUpdate 45 (.map (some lm)) (.int .i64 i) (.slice A n c)).run Tryz.prog w = .ok () w' ∧ DIs w' Q t f lm bm (d.putL i (some bs)) ∧ Fr (fun x => x = lm) w w' := by
  obtain ⟨D, l1, l2⟩ := h.lo
  have hsz := h.lo_size l1 l2
  have hN := h.ok.n2
  obtain ⟨w', hrun, hown, htu⟩ := l1.store keyed08 Tryz.underlying45 (by unfold maxLen; omega) (key08 (c := i) (by omega) (by omega)) (show rdS (.slice A n c) = some (.held (.slice A n c), []) from rfl)
  have hF := fr_turned htu
  have hk := h.rd_keep hF (.inr (.inr (.inl rfl)))
  refine ⟨w', hrun, ?_, hF⟩
  obtain ⟨⟨cc, b1, b2⟩, ⟨cs, r1, r2, r3⟩, _, ⟨E, e1, e2⟩, h5, h6, h7⟩ := h
  refine ⟨⟨cc, b1.fr hF h6.2.1, b2⟩, ⟨cs, r1.fr hF h6.2.2.2.1, r2, fun j b hj => by obtain ⟨v, hv, hs⟩ := r3 j b hj; exact ⟨v, hv, hs.keep hk (fun _ h => h)⟩⟩, ⟨_, own_tight hown, fun x => ?_⟩, ⟨E, own_fr e1 hF (fun e => h6.2.2.2.2.2 e.symm), e2⟩, ?_, h6, h7⟩
  · show LoIs w' Q _ x (if x = i then some bs else d.loose x)
    by_cases hx : x = i
    · subst hx
      rw [if_pos rfl]
      exact ⟨has_put_same l1.isMap (keyLit08 x) _, A, n, c, atKey_put_same l1.isMap (keyLit08 x) _ _, hn, hnc, hc, hk _ _ hr hA, hA⟩
    · rw [if_neg hx]
      have := (l2 x).keep hk (fun _ h => h)
      cases hm : d.loose x with
      | none => rw [hm] at this; show Maps.has _ _ = false; rw [has_put_other (lit_ne hx)]; exact this
      | some y =>
        rw [hm] at this
        obtain ⟨q0, A', n', c', q1, q2⟩ := this
        exact ⟨by rw [has_put_other (lit_ne hx)]; exact q0, A', n', c', by rw [atKey_put_other (lit_ne hx)]; exact q1, q2⟩
  · refine ⟨h5.s1, h5.s2, h5.n1, h5.n2, h5.fl, fun x b hx => ?_, h5.ba, h5.f1, h5.f2⟩
    have hx' : (if x = i then some bs else d.loose x) = some b := hx
    by_cases hxi : x = i
    · rw [if_pos hxi] at hx'; injection hx' with hx'; subst hx'; subst hxi; exact ⟨h0, h1, hl⟩
    · rw [if_neg hxi] at hx'; exact h5.lo x b hx'
theorem DIs.del_lo (h : DIs w Q t f lm bm d) {i : Int} (h1 : -9223372036854775808 ≤ i) (h2 : i ≤ 9223372036854775807) (ty : TypeId) :
    ∃ w', (Builtin.delete_ #[45, 3] ty #[.map (some lm), .int .i64 i]).run Tryz.prog w = .ok (.tuple #[]) w' ∧ DIs w' Q t f lm bm (d.putL i none) ∧ Fr (fun x => x = lm) w w' := by
  obtain ⟨D, l1, l2⟩ := h.lo
  obtain ⟨w', hrun, hown, htu⟩ := l1.drop keyed08 Tryz.underlying45 (key08 h1 h2) ty
  have hF := fr_turned htu
  have hk := h.rd_keep hF (.inr (.inr (.inl rfl)))
  refine ⟨w', hrun, ?_, hF⟩
  obtain ⟨⟨cc, b1, b2⟩, ⟨cs, r1, r2, r3⟩, _, ⟨E, e1, e2⟩, h5, h6, h7⟩ := h
  refine ⟨⟨cc, b1.fr hF h6.2.1, b2⟩, ⟨cs, r1.fr hF h6.2.2.2.1, r2, fun j b hj => by obtain ⟨v, hv, hs⟩ := r3 j b hj; exact ⟨v, hv, hs.keep hk (fun _ h => h)⟩⟩, ⟨_, own_tight hown, fun x => ?_⟩, ⟨E, own_fr e1 hF (fun e => h6.2.2.2.2.2 e.symm), e2⟩, ?_, h6, h7⟩
  · show LoIs w' Q _ x (if x = i then none else d.loose x)
    by_cases hx : x = i
    · subst hx
      rw [if_pos rfl]
      exact has_del_same
    · rw [if_neg hx]
      have := (l2 x).keep hk (fun _ h => h)
      cases hm : d.loose x with
      | none => rw [hm] at this; show Maps.has _ _ = false; rw [has_del_other (lit_ne hx)]; exact this
      | some y =>
        rw [hm] at this
        obtain ⟨q0, A', n', c', q1, q2⟩ := this
        exact ⟨by rw [has_del_other (lit_ne hx)]; exact q0, A', n', c', by rw [atKey_del_other (lit_ne hx)]; exact q1, q2⟩
  · refine ⟨h5.s1, h5.s2, h5.n1, h5.n2, h5.fl, fun x b hx => ?_, h5.ba, h5.f1, h5.f2⟩
    have hx' : (if x = i then none else d.loose x) = some b := hx
    by_cases hxi : x = i
    · rw [if_pos hxi] at hx'; cases hx'
    · rw [if_neg hxi] at hx'; exact h5.lo x b hx'
theorem DIs.clear_lo (h : DIs w Q t f lm bm d) (ty : TypeId) :
    ∃ w', (Builtin.clear_ #[45] ty #[.map (some lm)]).run Tryz.prog w = .ok (.tuple #[]) w' ∧ DIs w' Q t f lm bm { d with loose := fun _ => none } ∧ Fr (fun x => x = lm) w w' := by
  obtain ⟨D, l1, l2⟩ := h.lo
  obtain ⟨w', hrun, hown, htu⟩ : ∃ w', (Builtin.clear_ #[45] ty #[.map (some lm)]).run Tryz.prog w = .ok (.tuple #[]) w' ∧ w'.ownsMap Tryz.prog 3 rdS lm 0 (.map []) ∧ w.mapTurned w' lm := by
    obtain ⟨es, clock, hb, F, hs, hD⟩ := l1
    refine ⟨setBlock w lm (.map #[] clock), ?_, ⟨#[], clock, heap_setBlock_same hb _, ⟨by simp, stamped_empty _, by simp⟩, Nat.le_refl _, rfl⟩, ⟨es, clock, #[], clock, hb, rfl⟩⟩
    simp [Builtin.clear_, run_underlying Tryz.underlying45, MapKept.run_getObj_map hb, MapKept.run_setObj_map _ hb, Result.andThen]
    rfl
  have hF := fr_turned htu
  have hk := h.rd_keep hF (.inr (.inr (.inl rfl)))
  refine ⟨w', hrun, ?_, hF⟩
  obtain ⟨⟨cc, b1, b2⟩, ⟨cs, r1, r2, r3⟩, _, ⟨E, e1, e2⟩, h5, h6, h7⟩ := h
  exact ⟨⟨cc, b1.fr hF h6.2.1, b2⟩, ⟨cs, r1.fr hF h6.2.2.2.1, r2, fun j b hj => by obtain ⟨v, hv, hs⟩ := r3 j b hj; exact ⟨v, hv, hs.keep hk (fun _ h => h)⟩⟩, ⟨_, own_tight hown, fun x => rfl⟩, ⟨E, own_fr e1 hF (fun e => h6.2.2.2.2.2 e.symm), e2⟩, ⟨h5.s1, h5.s2, h5.n1, h5.n2, h5.fl, fun x b hx => (by cases hx), h5.ba, h5.f1, h5.f2⟩, h6, h7⟩
theorem DIs.put_ba (h : DIs w Q t f lm bm d) {i : Int} (h0 : 0 ≤ i) (h1 : i < d.fast.length) :
    ∃ w', (Instr.mapUpdate 46 (.map (some bm)) (.int .i64 i) (.agg #[])).run Tryz.prog w = .ok () w' ∧ DIs w' Q t f lm bm (d.putB i true) ∧ Fr (fun x => x = bm) w w' := by
  obtain ⟨D, l1, l2⟩ := h.ba
  have hsz := h.ba_size l1 l2
  have hN := h.ok.n2
  obtain ⟨w', hrun, hown, htu⟩ := l1.store keyed08 Tryz.underlying46 (by unfold maxLen; omega) (key08 (c := i) (by omega) (by omega)) (unitElem_mk (H := Value))
  have hF := fr_turned htu
  have hk := h.rd_keep hF (.inr (.inr (.inr rfl)))
  refine ⟨w', hrun, ?_, hF⟩
  obtain ⟨⟨cc, b1, b2⟩, ⟨cs, r1, r2, r3⟩, ⟨E, e1, e2⟩, _, h5, h6, h7⟩ := h
  refine ⟨⟨cc, b1.fr hF h6.2.2.1, b2⟩, ⟨cs, r1.fr hF h6.2.2.2.2.1, r2, fun j b hj => by obtain ⟨v, hv, hs⟩ := r3 j b hj; exact ⟨v, hv, hs.keep hk (fun _ h => h)⟩⟩, ⟨E, own_fr e1 hF h6.2.2.2.2.2, fun x => (e2 x).keep hk (fun _ h => h)⟩, ⟨_, own_tight hown, fun x => ?_⟩, ?_, h6, h7⟩
  · show _ = (if x = i then true else d.bad x)
    by_cases hx : x = i
    · subst hx; rw [if_pos rfl]; exact has_put_same l1.isMap (keyLit08 x) _
    · rw [if_neg hx, has_put_other (lit_ne hx)]; exact l2 x
  · refine ⟨h5.s1, h5.s2, h5.n1, h5.n2, h5.fl, h5.lo, fun x hx => ?_, h5.f1, h5.f2⟩
    have hx' : (if x = i then true else d.bad x) = true := hx
    by_cases hxi : x = i
    · subst hxi; exact ⟨h0, h1⟩
    · rw [if_neg hxi] at hx'; exact h5.ba x hx'
theorem DIs.del_ba (h : DIs w Q t f lm bm d) {i : Int} (h1 : -9223372036854775808 ≤ i) (h2 : i ≤ 9223372036854775807) (ty : TypeId) :
    ∃ w', (Builtin.delete_ #[46, 3] ty #[.map (some bm), .int .i64 i]).run Tryz.prog w = .ok (.tuple #[]) w' ∧ DIs w' Q t f lm bm (d.putB i false) ∧ Fr (fun x => x = bm) w w' := by
  obtain ⟨D, l1, l2⟩ := h.ba
  obtain ⟨w', hrun, hown, htu⟩ := l1.drop keyed08 Tryz.underlying46 (key08 h1 h2) ty
  have hF := fr_turned htu
  have hk := h.rd_keep hF (.inr (.inr (.inr rfl)))
  refine ⟨w', hrun, ?_, hF⟩
  obtain ⟨⟨cc, b1, b2⟩, ⟨cs, r1, r2, r3⟩, ⟨E, e1, e2⟩, _, h5, h6, h7⟩ := h
  refine ⟨⟨cc, b1.fr hF h6.2.2.1, b2⟩, ⟨cs, r1.fr hF h6.2.2.2.2.1, r2, fun j b hj => by obtain ⟨v, hv, hs⟩ := r3 j b hj; exact ⟨v, hv, hs.keep hk (fun _ h => h)⟩⟩, ⟨E, own_fr e1 hF h6.2.2.2.2.2, fun x => (e2 x).keep hk (fun _ h => h)⟩, ⟨_, own_tight hown, fun x => ?_⟩, ?_, h6, h7⟩
  · show _ = (if x = i then false else d.bad x)
    by_cases hx : x = i
    · subst hx; rw [if_pos rfl]; exact has_del_same
    · rw [if_neg hx, has_del_other (lit_ne hx)]; exact l2 x
  · refine ⟨h5.s1, h5.s2, h5.n1, h5.n2, h5.fl, h5.lo, fun x hx => ?_, h5.f1, h5.f2⟩
    have hx' : (if x = i then false else d.bad x) = true := hx
    by_cases hxi : x = i
    · rw [if_pos hxi] at hx'; cases hx'
    · rw [if_neg hxi] at hx'; exact h5.ba x hx'
/-- A sector made fast: its cell. -/
theorem DIs.put_fast (h : DIs w Q t f lm bm d) {i : Nat} (hi : i < d.fast.length) {v : Value} {bs : List UInt8} (hl : bs.length = d.size) (hv : SecIs w Q v bs) : DIs (w.setCell ⟨f, i, none⟩ v) Q t f lm bm (d.putF i bs) ∧ Fr (fun x => x = f) w (w.setCell ⟨f, i, none⟩ v) := by
  have hF : Fr (fun x => x = f) w (w.setCell ⟨f, i, none⟩ v) := Fr.set w ⟨f, i, none⟩ v rfl
  have hk := h.rd_keep hF (.inr (.inl rfl))
  refine ⟨?_, hF⟩
  obtain ⟨⟨cc, b1, b2⟩, ⟨cs, r1, r2, r3⟩, ⟨D, l1, l2⟩, ⟨E, e1, e2⟩, h5, h6, h7⟩ := h
  refine ⟨⟨cc, ?_, ?_⟩, ⟨cs.set i v, r1.set i v, by rw [List.length_set]; show (d.fast.set i bs).length ≤ _; rw [List.length_set]; exact r2, fun j b hj => ?_⟩, ⟨D, own_fr l1 hF (fun e => h6.2.2.2.1 e.symm), fun x => (l2 x).keep hk (fun _ h => h)⟩, ⟨E, own_fr e1 hF (fun e => h6.2.2.2.2.1 e.symm), e2⟩, ?_, h6, h7⟩
  · show Blk _ t [_, .slice _ (d.fast.set i bs).length _, _, _, _] _
    rw [List.length_set]; exact b1.fr hF h6.1
  · show (d.fast.set i bs).length ≤ _ ∧ _
    rw [List.length_set]; exact b2
  · have hj' : (d.fast.set i bs)[j]? = some b := hj
    by_cases hji : i = j
    · subst hji
      rw [List.getElem?_set_self hi] at hj'
      injection hj' with hj'
      subst hj'
      exact ⟨v, List.getElem?_set_self (by omega), hv.keep hk (fun _ h => h)⟩
    · rw [List.getElem?_set_ne hji] at hj'
      obtain ⟨u, hu, hs⟩ := r3 j b hj'
      exact ⟨u, by rw [List.getElem?_set_ne hji]; exact hu, hs.keep hk (fun _ h => h)⟩
  · refine ⟨h5.s1, h5.s2, ?_, ?_, fun b hb => ?_, fun x b hx => ?_, fun x hx => ?_, h5.f1, h5.f2⟩
    · show 1 ≤ (d.fast.set i bs).length; rw [List.length_set]; exact h5.n1
    · show (d.fast.set i bs).length ≤ _; rw [List.length_set]; exact h5.n2
    · rcases List.mem_or_eq_of_mem_set hb with hb | rfl
      · exact h5.fl b hb
      · exact hl
    · show 0 ≤ x ∧ x < ((d.fast.set i bs).length : Int) ∧ _
      rw [List.length_set]; exact h5.lo x b hx
    · show 0 ≤ x ∧ x < ((d.fast.set i bs).length : Int)
      rw [List.length_set]; exact h5.ba x hx
/-- The fuse. -/
theorem DIs.put_fuse (h : DIs w Q t f lm bm d) {z : Int} (h1 : -1 ≤ z) (h2 : z ≤ 9223372036854775807) : DIs (w.setCell ⟨t, 4, none⟩ (.int .i64 z)) Q t f lm bm { d with fuse := z } ∧ Fr (fun x => x = t) w (w.setCell ⟨t, 4, none⟩ (.int .i64 z)) := by
  have hF : Fr (fun x => x = t) w (w.setCell ⟨t, 4, none⟩ (.int .i64 z)) := Fr.set w ⟨t, 4, none⟩ (.int .i64 z) rfl
  have hk := h.rd_keep hF (.inl rfl)
  refine ⟨?_, hF⟩
  obtain ⟨⟨cc, b1, b2⟩, ⟨cs, r1, r2, r3⟩, ⟨D, l1, l2⟩, ⟨E, e1, e2⟩, h5, h6, h7⟩ := h
  exact ⟨⟨cc, b1.set 4 _, b2⟩, ⟨cs, r1.fr hF (fun e => h6.1 e.symm), r2, fun j b hj => by obtain ⟨v, hv, hs⟩ := r3 j b hj; exact ⟨v, hv, hs.keep hk (fun _ h => h)⟩⟩, ⟨D, own_fr l1 hF (fun e => h6.2.1 e.symm), fun x => (l2 x).keep hk (fun _ h => h)⟩, ⟨E, own_fr e1 hF (fun e => h6.2.2.1 e.symm), e2⟩, ⟨h5.s1, h5.s2, h5.n1, h5.n2, h5.fl, h5.lo, h5.ba, h1, h2⟩, h6, h7⟩
end
end Go.Proofs.YtoaodmidegkolaaGreatDoor
