/- Texts joined (shake.py). -/
import Derived.Test.YtoaodmidegkolaaGreatDoorK91
import Derived.Test.YtoaodmidegkolaaGreatDoorK99
import Derived.Test.YtoaodmidegkolaaGreatDoorK911
namespace Go.Proofs.YtoaodmidegkolaaGreatDoor
set_option maxRecDepth 20000
open Go.RowKit Go.Px Go.Maps
set_option linter.unusedVariables false
section
variable {d d1 d2 : Dk} {i : Nat}
/-- What one sector shows. -/
def SeeAs (d d' : Dk) (i : Nat) : Prop := d'.unread (i : Int) = d.unread (i : Int) ∧ d'.bytesD i = d.bytesD i
theorem SeeAs.trans (h1 : SeeAs d d1 i) (h2 : SeeAs d1 d2 i) : SeeAs d d2 i := ⟨h2.1.trans h1.1, h2.2.trans h1.2⟩
theorem SeeAs.slot (h : SeeAs d d1 i) (h1 : i < d.fast.length) (h2 : i < d1.fast.length) : slotV d1 i = slotV d i := by
  have r1 := Dk.read1 (d := d) h1
  have r2 := Dk.read1 (d := d1) h2
  rw [h.1, h.2] at r2
  unfold slotV
  rw [r1.1, r1.2, r2.1, r2.2]
theorem SeeAs.read (h1 : i < d.fast.length) (h2 : i < d1.fast.length) (he : d1.readE (i : Int) 1 = d.readE (i : Int) 1) (hb : d1.readB (i : Int) 1 = d.readB (i : Int) 1) : slotV d1 i = slotV d i := by
  unfold slotV
  rw [he, hb]
theorem see_fasten (ok : d.Ok) {y : Int} {b : List UInt8} (hy : d.loose y = some b) : (d.fasten y.toNat ((d.loose y).getD [])).Ok ∧ SeeAs d (d.fasten y.toNat ((d.loose y).getD [])) i := by
  obtain ⟨o1, o2, o3⟩ := ok.lo y b hy
  obtain ⟨k, rfl⟩ : ∃ k : Nat, y = (k : Int) := ⟨y.toNat, by omega⟩
  rw [hy, Int.toNat_natCast]
  have hk : k < d.fast.length := by omega
  refine ⟨?_, ?_, ?_⟩
  · exact Dk.put4_ok ok hk (o := none) false o3 (fun x hx => by cases hx)
  · unfold Dk.unread
    rw [Dk.fasten_loose, Dk.fasten_bad]
    by_cases h : (i : Int) = (k : Int)
    · rw [if_pos h, if_pos h, h, hy]; rfl
    · rw [if_neg h, if_neg h]
  · unfold Dk.bytesD
    rw [Dk.fasten_loose]
    show ((if (i : Int) = (k : Int) then none else d.loose (i : Int)).getD ((d.fast.set k b).getD i [])) = _
    rw [getD_set08 hk]
    by_cases h : (i : Int) = (k : Int)
    · have h' : i = k := by omega
      subst h'
      rw [if_pos rfl, if_pos rfl, hy]; rfl
    · rw [if_neg h, if_neg (by omega)]
theorem see_fastAll (l : List Int) : ∀ d : Dk, d.Ok → l.Nodup → (∀ y ∈ l, (d.loose y).isSome = true) → (d.fastAll l).Ok ∧ SeeAs d (d.fastAll l) i := by
  induction l with
  | nil => exact fun d ok _ _ => ⟨ok, rfl, rfl⟩
  | cons y l ih =>
    intro d ok hn hl
    obtain ⟨b, hb⟩ := Option.isSome_iff_exists.1 (hl y (List.mem_cons_self ..))
    obtain ⟨o1, o2, o3⟩ := ok.lo y b hb
    obtain ⟨k1, k2⟩ := see_fasten (i := i) ok hb
    have hyt : ((y.toNat : Nat) : Int) = y := by omega
    have hih := ih (d.fasten y.toNat ((d.loose y).getD [])) k1 (List.nodup_cons.1 hn).2 (fun z hz => ?_)
    · exact ⟨hih.1, k2.trans hih.2⟩
    rw [Dk.fasten_loose, hyt, if_neg (fun e => (List.nodup_cons.1 hn).1 (by rw [← e]; exact hz))]
    exact hl z (List.mem_cons_of_mem _ hz)
theorem see_barrier (ok : d.Ok) (hf : d.fuse = -1) : d.barrier.Ok ∧ SeeAs d d.barrier i := by
  have hb : d.burnE = 0 := by unfold Dk.burnE; rw [if_neg (by omega)]
  have hbt : d.burnt = d := by unfold Dk.burnt; rw [if_neg (by omega)]
  unfold Dk.barrier
  rw [if_pos hb, hbt]
  refine see_fastAll _ d ok ?_ (fun y hy => (Dk.mem_looseL ok).1 hy)
  exact (d.looseL_asc).imp (fun h => by omega)
theorem barrier_same (hf : d.fuse = -1) : d.barrier.size = d.size ∧ d.barrier.fast.length = d.fast.length ∧ d.barrier.fuse = -1 := by
  have hb : d.burnE = 0 := by unfold Dk.burnE; rw [if_neg (by omega)]
  have hbt : d.burnt = d := by unfold Dk.burnt; rw [if_neg (by omega)]
  unfold Dk.barrier
  rw [if_pos hb, hbt]
  obtain ⟨h1, h2, h3⟩ := Dk.fastAll_same d.looseL d
  exact ⟨h1, h2, h3.trans hf⟩
/-- One sector that is written. -/
theorem write_one (ok : d.Ok) (hf : d.fuse = -1) (hi : i < d.fast.length) {b : List UInt8} (hb : b.length = d.size) : d.writeE (i : Int) b = 0 ∧ d.write (i : Int) b = d.putL (i : Int) (some b) := by
  have hs := ok.s1
  have hE : d.burnE = 0 := by unfold Dk.burnE; rw [if_neg (by omega)]
  have hbt : d.burnt = d := by unfold Dk.burnt; rw [if_neg (by omega)]
  have hdiv : b.length / d.size = 1 := by rw [hb]; exact Nat.div_self (by omega)
  have hW : d.writeE (i : Int) b = 0 := by
    unfold Dk.writeE
    rw [if_neg (by rw [hb, Nat.mod_self]; simp), hdiv, if_pos (show d.inR (i : Int) ((1 : Nat) : Int) from ⟨by omega, by omega, by omega, by omega⟩)]
    exact hE
  refine ⟨hW, ?_⟩
  unfold Dk.write
  rw [if_pos hW, hbt, hdiv, Int.toNat_natCast]
  show (d.lay i b 0).putL ((i + 0 : Nat) : Int) (some (secB d.size b 0)) = _
  have : secB d.size b 0 = b := by unfold secB; rw [Nat.zero_mul, List.drop_zero, List.take_of_length_le (by omega)]
  rw [this]; rfl
theorem padN_of {m n : Nat} (h1 : m ≤ n) (h2 : 1 ≤ m) : padN m n = n := by
  unfold padN
  rw [Nat.div_eq_of_lt_le (k := 1) (by omega) (by omega), Nat.one_mul]
theorem padB_of {b : List UInt8} {n : Nat} (h1 : b.length ≤ n) (h2 : 1 ≤ b.length) : (padB b n).length = n := by
  unfold padB
  rw [List.length_append, List.length_replicate, padN_of h1 h2]; omega
/-- A superblock that is saved: its slot holds it, the other one is as it was. -/
theorem save_one {s : Sup} (ok : d.Ok) (hf : d.fuse = -1) (h2 : 2 ≤ d.fast.length) (h72 : 72 ≤ d.size) (hE : s.E = 0) (hs : s.ser < 18446744073709551616) (hch : s.ch < 4294967296) :
    saveE d s = 0 ∧ save9 d s = d.putL (slotI s) (some (padB (supB s) d.size)) ∧ slotV (save9 d s) (s.ser % 2) = some s ∧ ∀ j, j ≠ s.ser % 2 → SeeAs d (save9 d s) j := by
  have hok := E_ok hE
  have hl := supB_len hok
  have hpl : (padB (supB s) d.size).length = d.size := padB_of (by omega) (by omega)
  have hi : s.ser % 2 < d.fast.length := by omega
  obtain ⟨w1, w2⟩ := write_one ok hf hi hpl
  have hfit : fits9 d := ⟨h2, h72⟩
  have e1 : saveE d s = 0 := by
    unfold saveE
    rw [if_pos hE, if_pos hfit]
    exact w1
  have e2 : save9 d s = d.putL (slotI s) (some (padB (supB s) d.size)) := by
    unfold save9
    rw [if_pos ⟨hE, hfit⟩]
    exact w2
  refine ⟨e1, e2, ?_, fun j hj => ?_⟩
  · rw [e2]
    have hu : (d.putL (slotI s) (some (padB (supB s) d.size))).unread ((s.ser % 2 : Nat) : Int) = false := by
      unfold Dk.unread Dk.putL slotI
      simp
    have hbd : (d.putL (slotI s) (some (padB (supB s) d.size))).bytesD (s.ser % 2) = padB (supB s) d.size := by
      unfold Dk.bytesD Dk.putL slotI
      simp
    have r := Dk.read1 (d := d.putL (slotI s) (some (padB (supB s) d.size))) (i := s.ser % 2) hi
    rw [hu, hbd] at r
    unfold slotV
    rw [r.1, r.2]
    obtain ⟨k1, k2⟩ := sdec_back s hok hs hch (List.replicate (padN (supB s).length d.size - (supB s).length) 0)
    have k1' : sdecE (padB (supB s) d.size) = 0 := k1
    have k2' : sdecV (padB (supB s) d.size) = s := k2
    rw [if_pos ⟨by simp, by simpa using k1', by simp [k2']⟩]
    simp [k2']
  · rw [e2]
    have hne : ¬ ((j : Int) = slotI s) := fun e => hj (by unfold slotI at e; omega)
    refine ⟨?_, ?_⟩
    · unfold Dk.unread Dk.putL
      simp only [if_neg hne]
    · unfold Dk.bytesD Dk.putL
      simp only [if_neg hne]
theorem putL_ok (ok : d.Ok) {y : Int} {b : List UInt8} (h0 : 0 ≤ y) (h1 : y < d.fast.length) (hb : b.length = d.size) : (d.putL y (some b)).Ok :=
  ⟨ok.s1, ok.s2, ok.n1, ok.n2, ok.fl, fun x c hx => by
    unfold Dk.putL at hx
    simp only at hx
    split at hx
    · rename_i hxy; injection hx with hx; subst hx; subst hxy; exact ⟨h0, h1, hb⟩
    · exact ok.lo x c hx, ok.ba, ok.f1, ok.f2⟩
theorem save_ok {s : Sup} (ok : d.Ok) (h2 : 2 ≤ d.fast.length) (h72 : 72 ≤ d.size) (hE : s.E = 0) (h : save9 d s = d.putL (slotI s) (some (padB (supB s) d.size))) : (save9 d s).Ok := by
  rw [h]
  have hl := supB_len (E_ok hE)
  exact putL_ok ok (by unfold slotI; omega) (by unfold slotI; omega) (padB_of (by omega) (by omega))
theorem save_same {s : Sup} (h : save9 d s = d.putL (slotI s) (some (padB (supB s) d.size))) : (save9 d s).size = d.size ∧ (save9 d s).fast = d.fast ∧ (save9 d s).fuse = d.fuse ∧ (save9 d s).bad = d.bad := by
  rw [h]; exact ⟨rfl, rfl, rfl, rfl⟩
theorem best_new {p : Nat} {a b : Sup} (hp : p < 2) (h1 : slotV d p = some a) (h2 : slotV d (1 - p) = some b) (hlt : a.ser < b.ser) : bestAt d 2 = some b := by
  rw [best_two]
  rcases (show p = 0 ∨ p = 1 by omega) with rfl | rfl
  · rw [h1, h2]
    show (if b.ser < a.ser then some a else some b) = _
    rw [if_neg (by omega)]
  · rw [h1, show slotV d 0 = some b from h2]
    show (if a.ser < b.ser then some b else some a) = _
    rw [if_pos hlt]
theorem best_some {p : Nat} {a : Sup} (hp : p < 2) (h1 : slotV d p = some a) : (bestAt d 2).isSome = true := by
  rw [best_two]
  rcases (show p = 0 ∨ p = 1 by omega) with rfl | rfl
  · rw [h1]
    cases slotV d 1 with
    | none => rfl
    | some y => show (if y.ser < a.ser then some a else some y).isSome = true; split <;> rfl
  · rw [h1]
    cases slotV d 0 with
    | none => rfl
    | some y => show (if a.ser < y.ser then some y else some a).isSome = true; split <;> rfl
/-- The law's disk: the old superblock saved and made fast, the new one saved. -/
structure Crash9 (S : Nat) (old mk : Sup) : Prop where
  e1 : saveE (Dk.new 2 S) old = 0
  e2 : (save9 (Dk.new 2 S) old).burnE = 0
  e3 : saveE (save9 (Dk.new 2 S) old).barrier mk = 0
  l1 : loadE (save9 (save9 (Dk.new 2 S) old).barrier mk).barrier = 0
  l2 : loadV (save9 (save9 (Dk.new 2 S) old).barrier mk).barrier = mk
  c1 : ∀ keep torn cut, loadE ((save9 (save9 (Dk.new 2 S) old).barrier mk).crash keep torn cut) = 0
theorem crash9 {S : Nat} {old mk : Sup} (hS1 : 72 ≤ S) (hS2 : S ≤ 8192) (hE1 : old.E = 0) (hE2 : mk.E = 0) (hs1 : old.ser < 4611686018427387904) (hs2 : mk.ser = old.ser + 1) (hc1 : old.ch < 4294967296) (hc2 : mk.ch < 4294967296)
    : Crash9 S old mk := by
  have ok0 : (Dk.new 2 S).Ok := ⟨by show 1 ≤ S; omega, hS2, by simp [Dk.new], by simp [Dk.new], fun b hb => by rw [List.eq_of_mem_replicate hb]; simp [Dk.new], fun i b h => (by cases h), fun i h => (by cases h), by show (-1 : Int) ≤ -1; omega, by show (-1 : Int) ≤ _; omega⟩
  obtain ⟨a1, a2, a3, a4⟩ := save_one (s := old) ok0 rfl (by simp [Dk.new]) hS1 hE1 (by omega) hc1
  obtain ⟨b1, b2, b3, b4⟩ := save_same a2
  have ok1 := save_ok ok0 (by simp [Dk.new]) hS1 hE1 a2
  obtain ⟨d1, hd1⟩ : ∃ y, save9 (Dk.new 2 S) old = y := ⟨_, rfl⟩
  rw [hd1] at a3 b1 b2 b3 b4 ok1
  have n1 : d1.fast.length = 2 := by rw [b2]; simp [Dk.new]
  have z1 : d1.size = S := b1
  have f1 : d1.fuse = -1 := b3
  obtain ⟨p1, p2, p3⟩ := barrier_same f1
  have hsee := fun j => (see_barrier (i := j) ok1 f1).2
  have ok2 := (see_barrier (i := 0) ok1 f1).1
  obtain ⟨d2, hd2⟩ : ∃ y, d1.barrier = y := ⟨_, rfl⟩
  rw [hd2] at p1 p2 p3 ok2
  have hsee2 : ∀ j, SeeAs d1 d2 j := fun j => by rw [← hd2]; exact hsee j
  have n2 : d2.fast.length = 2 := by rw [p2, n1]
  have v2 : slotV d2 (old.ser % 2) = some old := by rw [(hsee2 _).slot (by omega) (by omega), a3]
  obtain ⟨g1, g2, g3, g4⟩ := save_one (s := mk) ok2 p3 (by omega) (by rw [p1, z1]; exact hS1) hE2 (by omega) hc2
  obtain ⟨k1, k2, k3, k4⟩ := save_same g2
  have ok3 := save_ok ok2 (by omega) (by rw [p1, z1]; exact hS1) hE2 g2
  have hm : mk.ser % 2 = 1 - old.ser % 2 := by omega
  have hp : old.ser % 2 < 2 := by omega
  have v3 : slotV (save9 d2 mk) (old.ser % 2) = some old := by rw [(g4 _ (by omega)).slot (by omega) (by rw [k2]; omega), v2]
  have nl : ∀ x, d2.loose x = none := by
    intro x
    have := (fast_start (d := d1) ok1).lo x
    have he : ({ d1 with fuse := fuseI (-1) } : Dk) = d1 := by
      obtain ⟨q1, q2, q3, q4, q5⟩ := d1
      have : q5 = -1 := f1
      subst this
      rfl
    rw [he, hd2] at this
    exact this
  have hFA : FastAs d2 (save9 d2 mk) := ⟨nl, k1, k2, k4⟩
  have hno : ((old.ser % 2 : Nat) : Int) ∉ (save9 d2 mk).looseL := fun h => by
    have := (Dk.mem_looseL ok3).1 h
    rw [g2] at this
    unfold Dk.putL at this
    simp only at this
    rw [if_neg (by unfold slotI; omega), nl] at this
    cases this
  obtain ⟨d3, hd3⟩ : ∃ y, save9 d2 mk = y := ⟨_, rfl⟩
  have hsee3 := fun j => (see_barrier (d := d3) (i := j) (by rw [← hd3]; exact ok3) (by rw [← hd3, k3]; exact p3)).2
  obtain ⟨r1, r2, r3⟩ := barrier_same (d := d3) (by rw [← hd3, k3]; exact p3)
  rw [hd3] at g3 v3 k1 k2 k3 hFA hno ok3
  have n3 : d3.fast.length = 2 := by rw [k2]; exact n2
  have hbest : bestAt d3.barrier 2 = some mk := best_new hp (by rw [(hsee3 _).slot (by omega) (by omega), v3]) (by rw [(hsee3 _).slot (by omega) (by omega), ← hm, g3]) (by omega)
  have hfit3 : fits9 d3.barrier := ⟨by rw [r2]; omega, by rw [r1, k1, p1, z1]; exact hS1⟩
  refine ⟨a1, ?_, ?_, ?_, ?_, ?_⟩
  · rw [hd1]; unfold Dk.burnE; rw [if_neg (by omega)]
  · rw [hd1, hd2]; exact g1
  · rw [hd1, hd2, hd3]; unfold loadE; rw [if_pos hfit3, hbest]; rfl
  · rw [hd1, hd2, hd3]; unfold loadV; rw [if_pos hfit3, hbest]; rfl
  · intro keep torn cut
    rw [hd1, hd2, hd3]
    have h0 : ∀ y ∈ d3.looseL, 0 ≤ y := fun y hy => by
      obtain ⟨j, hj, rfl⟩ := List.getElem_of_mem hy
      exact (Dk.looseL_get ok3 hj).choose_spec.2.1
    obtain ⟨t1, t2, t3⟩ := Dk.crashTo_same keep torn cut d3 d3.looseL h0 _ (Nat.le_refl _)
    have t2' : (d3.crash keep torn cut).fast.length = d3.fast.length := t2
    have t1' : (d3.crash keep torn cut).size = d3.size := t1
    obtain ⟨u1, u2⟩ := fast_not (i := old.ser % 2) hFA ok3 keep torn cut (by omega) hno
    have hv : slotV (d3.crash keep torn cut) (old.ser % 2) = some old := by
      rw [SeeAs.read (d := d2) (by omega) (by rw [t2']; omega) u1 u2, v2]
    unfold loadE
    rw [if_pos (show fits9 (d3.crash keep torn cut) from ⟨by rw [t2']; omega, by rw [t1', k1, p1, z1]; exact hS1⟩), best_some hp hv]
    rfl
end
end Go.Proofs.YtoaodmidegkolaaGreatDoor
namespace Go.Proofs.YtoaodmidegkolaaGreatDoor
set_option maxRecDepth 20000
open Go.RowKit Go.Px Go.Maps
set_option linter.unusedVariables false
def crashed9 (S : Nat) (old mk : Sup) (keep : List Bool) (torn cut : Int) : Dk := (save9 (save9 (Dk.new 2 S) old).barrier mk).crash keep torn cut
theorem rd_lo9 {w w' : World} {A : Option Addr} {xs : List Value} {B : Nat} (h : Rd w A xs) (hl : xs ≠ [] → ∀ a, A = some a → a.block < B) (hb : Below B w w') : Rd w' A xs := fun j u hu => by
  obtain ⟨a, rfl, hc⟩ := h j u hu
  exact ⟨a, rfl, (hb.cell (p := a.add j) (by rw [add_block]; exact hl (fun e => by rw [e] at hu; simp at hu) a rfl)).trans hc⟩
section
variable {w w' : World} {Q : Nat → Prop} {t f : Nat} {cs : List Value} {d : Dk}
theorem RDIs.notOwn (h : RDIs w Q t f cs d) : RDIs w (fun b => ¬ ROwn t f b) t f cs d :=
  h.mono (fun b hb hx => by have := h.out b hb; rcases hx with e | e <;> simp_all) (fun b hb => ⟨fun e => hb (.inl e), fun e => hb (.inr e)⟩)
theorem RDIs.notOwn_new (h : RDIs w Q t f cs d) : ∀ b, w.heap.size ≤ b → ¬ ROwn t f b := fun b hb hx => by
  have := h.lts
  rcases hx with e | e <;> omega
end
set_option maxHeartbeats 3200000 in
theorem accident_any (S : Nat) (old mk : Sup) (hS1 : 72 ≤ S) (hS2 : S ≤ 8192) (hs1 : old.ser < 18446744073709551616) (hs2 : mk.ser < 18446744073709551616) (hc1 : old.ch < 4294967296) (hc2 : mk.ch < 4294967296)
    (K : Option Addr) (kn kc : Nat) (keep : List Bool) (torn cut : Int) (w : World) (hcc1 : -9223372036854775808 ≤ cut) (hcc2 : cut ≤ 9223372036854775807) (hkn : keep.length = kn) (hk63 : kn ≤ 9223372036854775807) (hrk : Rd w K (bls keep)) (hK : bls keep ≠ [] → ∀ a, K = some a → a.block < w.heap.size) :
    Calls Tryz.prog 12 #[.agg old.cells.toArray, .agg mk.cells.toArray, .agg #[.slice K kn kc, .int .i64 torn, .int .i64 cut], .int .i64 (S : Int)] w fun e w' => e = .returned (.agg (loadV (crashed9 S old mk keep torn cut)).cells.toArray) ∧ Below w.heap.size w w' := by
  obtain ⟨ser, ep, vw, nm, tp, bs, ar, st, ch⟩ := old
  obtain ⟨ser0, ep', vw', nm', tp', bs', ar', st', ch'⟩ := mk
  obtain ⟨R, hR⟩ : ∃ y, loadV (crashed9 S ⟨ser, ep, vw, nm, tp, bs, ar, st, ch⟩ ⟨ser0, ep', vw', nm', tp', bs', ar', st', ch'⟩ keep torn cut) = y := ⟨_, rfl⟩
  rw [hR]
  obtain ⟨serT, epT, vwT, nmT, tpT, bsT, arT, stT, chT⟩ := R
  have HR := hide (show loadV ((save9 (save9 (Dk.new 2 S) ⟨ser, ep, vw, nm, tp, bs, ar, st, ch⟩).barrier ⟨ser0, ep', vw', nm', tp', bs', ar', st', ch'⟩).crash keep torn cut) = _ from hR)
  clear hR
  obtain ⟨wa, hwa⟩ : ∃ y, w.alloc (.cells #[.int .u64 (ser : Int), .int .i64 ep, .int .i64 vw, .int .i64 nm, .int .i64 tp, .int .i64 bs, .int .i64 ar, .int .i64 st, .int .u32 (ch : Int)] 25) = y := ⟨_, rfl⟩
  obtain ⟨g1, hg1⟩ : ∃ g, w.heap.size = g := ⟨_, rfl⟩
  have hA1 : Blk wa g1 (Sup.cells ⟨ser, ep, vw, nm, tp, bs, ar, st, ch⟩) 25 := by rw [← hwa, ← hg1]; exact Blk.new w _ _
  have hba : Below g1 w wa := by rw [← hwa, ← hg1]; exact (Below.refl _ _).alloc (Nat.le_refl _) _
  have hza : wa.heap.size = g1 + 1 := by rw [← hwa, ← hg1]; simp
  obtain ⟨wb, hwb⟩ : ∃ y, wa.alloc (.cells #[.int .u64 (ser0 : Int), .int .i64 ep', .int .i64 vw', .int .i64 nm', .int .i64 tp', .int .i64 bs', .int .i64 ar', .int .i64 st', .int .u32 (ch' : Int)] 25) = y := ⟨_, rfl⟩
  obtain ⟨g2, hg2⟩ : ∃ g, wa.heap.size = g := ⟨_, rfl⟩
  have hA2 : Blk wb g2 (Sup.cells ⟨ser0, ep', vw', nm', tp', bs', ar', st', ch'⟩) 25 := by rw [← hwb, ← hg2]; exact Blk.new wa _ _
  have hbb' : Below wa.heap.size wa wb := by rw [← hwb]; exact (Below.refl _ _).alloc (Nat.le_refl _) _
  have hzb : wb.heap.size = g2 + 1 := by rw [← hwb, ← hg2]; simp
  obtain ⟨wc, hwc⟩ : ∃ y, wb.alloc (.cells #[.slice K kn kc, .int .i64 torn, .int .i64 cut] 28) = y := ⟨_, rfl⟩
  obtain ⟨g3, hg3⟩ : ∃ g, wb.heap.size = g := ⟨_, rfl⟩
  have hA3 : Blk wc g3 [.slice K kn kc, .int .i64 torn, .int .i64 cut] 28 := by rw [← hwc, ← hg3]; exact Blk.new wb _ _
  have hbc' : Below wb.heap.size wb wc := by rw [← hwc]; exact (Below.refl _ _).alloc (Nat.le_refl _) _
  have hzc : wc.heap.size = g3 + 1 := by rw [← hwc, ← hg3]; simp
  obtain ⟨wd, hwd⟩ : ∃ y, wc.alloc (.cells #[.int .u64 0, .int .i64 0, .int .i64 0, .int .i64 0, .int .i64 0, .int .i64 0, .int .i64 0, .int .i64 0, .int .u32 0] 25) = y := ⟨_, rfl⟩
  obtain ⟨g4, hg4⟩ : ∃ g, wc.heap.size = g := ⟨_, rfl⟩
  have hA4 : Blk wd g4 sup0C 25 := by rw [← hwd, ← hg4]; exact Blk.new wc _ _
  have hbd' : Below wc.heap.size wc wd := by rw [← hwd]; exact (Below.refl _ _).alloc (Nat.le_refl _) _
  have hzd : wd.heap.size = g4 + 1 := by rw [← hwd, ← hg4]; simp
  have h12 : g2 = g1 + 1 := by omega
  have h23 : g3 = g1 + 2 := by omega
  have h34 : g4 = g1 + 3 := by omega
  have hA1 := ((hA1.below hbb').below hbc').below hbd'
  have hA2 := (hA2.below hbc').below hbd'
  have hA3 := hA3.below hbd'
  have hb0 : Below g1 w wd := ((hba.trans (hbb'.mono (by omega))).trans (hbc'.mono (by omega))).trans (hbd'.mono (by omega))
  rw [hg1] at hK ⊢
  have Hrk := hide (fun W (hW : Below g1 w W) => rd_lo9 hrk (fun hne a ha => hK hne a ha) hW)
  have HK := hide hK
  have HN := hide (rnew08_ok wd 2 S (by omega) (by omega) (by omega) (by omega))
  have Hwa := hide hwa
  have Hwb := hide hwb
  have Hwc := hide hwc
  have Hwd := hide hwd
  have Hg1 := hide hg1
  have Hg2 := hide hg2
  have Hg3 := hide hg3
  have Hg4 := hide hg4
  have K2 := hide (show g1 + 1 = g2 by omega)
  have K3 := hide (show g2 + 1 = g3 by omega)
  have K4 := hide (show g3 + 1 = g4 by omega)
  have H12 := hide h12
  have H23 := hide h23
  have H34 := hide h34
  have hz : wd.heap.size = g1 + 4 := by omega
  have Hz := hide hz
  have HB := hide (And.intro hA1 (And.intro hA2 (And.intro hA3 (And.intro hA4 hb0))))
  simp only at hs1 hs2 hc1 hc2
  clear hwa hwb hwc hwd hg1 hg2 hg3 hg4 hza hzb hzc hzd hba hbb' hbc' hbd' hrk hK h12 h23 h34 hA1 hA2 hA3 hA4 hb0 hz
  go_enter Tryz.func12, Tryz.ntmps12
  go_wp2_with fail
  rw [Hwa.out, Hg1.out, K2.out, K3.out, K4.out, Hwb.out, Hwc.out, Hwd.out]
  go_fit HN.out
  rintro e w1 ⟨f, cs, rfl, hD1, hgf, hb1⟩
  obtain ⟨t, ht⟩ : ∃ y, wd.heap.size = y := ⟨_, rfl⟩
  rw [ht] at hD1 hgf
  rw [ht]
  have hD1 := hD1.notOwn
  have hown : ∀ b, ROwn t f b → g1 + 4 ≤ b := fun b hb => by have := Hz.out; rcases hb with e | e <;> omega
  have Hown := hide hown
  have hA1 := HB.out.1.below hb1
  have hA2 := HB.out.2.1.below hb1
  have hA3 := HB.out.2.2.1.below hb1
  have hA4 := HB.out.2.2.2.1.below hb1
  have hb01 := HB.out.2.2.2.2.trans (hb1.mono (by have := Hz.out; omega))
  have hz1 : g1 + 4 ≤ w1.heap.size := by have := hb1.size; have := Hz.out; omega
  have HS1 := hide (rsave_any hD1 hD1.notOwn_new ⟨ser, ep, vw, nm, tp, bs, ar, st, ch⟩ hs1 hc1)
  have x0 := Blk.cell hA1 (j := 0) rfl; have x1 := Blk.cell hA1 (j := 1) rfl; have x2 := Blk.cell hA1 (j := 2) rfl; have x3 := Blk.cell hA1 (j := 3) rfl; have x4 := Blk.cell hA1 (j := 4) rfl; have x5 := Blk.cell hA1 (j := 5) rfl; have x6 := Blk.cell hA1 (j := 6) rfl; have x7 := Blk.cell hA1 (j := 7) rfl; have x8 := Blk.cell hA1 (j := 8) rfl
  have H1 := hide (And.intro hA1 (And.intro hA2 (And.intro hA3 (And.intro hA4 hb01))))
  clear HN hD1 hown ht hA1 hA2 hA3 hA4 hb01 HB hgf hb1
  go_wp2_with fail
  go_fit HS1.out
  rintro e w2 ⟨rfl, ⟨cs2, hD2⟩, hF2⟩
  have hA1 := H1.out.1.fr hF2 (fun hq => by have := Hown.out _ hq; omega)
  have hA2 := H1.out.2.1.fr hF2 (fun hq => by have := Hown.out _ hq; have := H12.out; omega)
  have hA3 := H1.out.2.2.1.fr hF2 (fun hq => by have := Hown.out _ hq; have := H23.out; omega)
  have hA4 := H1.out.2.2.2.1.fr hF2 (fun hq => by have := Hown.out _ hq; have := H34.out; omega)
  have hb02 := hF2.below H1.out.2.2.2.2 (by omega) (fun q hq => by have := Hown.out q hq; omega)
  have hz2 : g1 + 4 ≤ w2.heap.size := by have := hF2.size; omega
  have HB2 := hide (rbarrier08_any hD2)
  have H2 := hide (And.intro hA1 (And.intro hA2 (And.intro hA3 (And.intro hA4 hb02))))
  clear HS1 hD2 hF2 hA1 hA2 hA3 hA4 hb02 H1 x0 x1 x2 x3 x4 x5 x6 x7 x8
  go_wp2_with fail
  go_fit HB2.out
  rintro e w3 ⟨rfl, ⟨cs3, hD3⟩, hF3⟩
  have hA1 := H2.out.1.fr hF3 (fun hq => by have := Hown.out _ hq; omega)
  have hA2 := H2.out.2.1.fr hF3 (fun hq => by have := Hown.out _ hq; have := H12.out; omega)
  have hA3 := H2.out.2.2.1.fr hF3 (fun hq => by have := Hown.out _ hq; have := H23.out; omega)
  have hA4 := H2.out.2.2.2.1.fr hF3 (fun hq => by have := Hown.out _ hq; have := H34.out; omega)
  have hb03 := hF3.below H2.out.2.2.2.2 (by omega) (fun q hq => by have := Hown.out q hq; omega)
  have hz3 : g1 + 4 ≤ w3.heap.size := by have := hF3.size; omega
  have HS3 := hide (rsave_any hD3 hD3.notOwn_new ⟨ser0, ep', vw', nm', tp', bs', ar', st', ch'⟩ hs2 hc2)
  have x0 := Blk.cell hA2 (j := 0) rfl; have x1 := Blk.cell hA2 (j := 1) rfl; have x2 := Blk.cell hA2 (j := 2) rfl; have x3 := Blk.cell hA2 (j := 3) rfl; have x4 := Blk.cell hA2 (j := 4) rfl; have x5 := Blk.cell hA2 (j := 5) rfl; have x6 := Blk.cell hA2 (j := 6) rfl; have x7 := Blk.cell hA2 (j := 7) rfl; have x8 := Blk.cell hA2 (j := 8) rfl
  have H3 := hide (And.intro hA1 (And.intro hA2 (And.intro hA3 (And.intro hA4 hb03))))
  clear HB2 hD3 hF3 hA1 hA2 hA3 hA4 hb03 H2
  go_wp2_with fail
  go_fit HS3.out
  rintro e w4 ⟨rfl, ⟨cs4, hD4⟩, hF4⟩
  have hA1 := H3.out.1.fr hF4 (fun hq => by have := Hown.out _ hq; omega)
  have hA2 := H3.out.2.1.fr hF4 (fun hq => by have := Hown.out _ hq; have := H12.out; omega)
  have hA3 := H3.out.2.2.1.fr hF4 (fun hq => by have := Hown.out _ hq; have := H23.out; omega)
  have hA4 := H3.out.2.2.2.1.fr hF4 (fun hq => by have := Hown.out _ hq; have := H34.out; omega)
  have hb04 := hF4.below H3.out.2.2.2.2 (by omega) (fun q hq => by have := Hown.out q hq; omega)
  have hz4 : g1 + 4 ≤ w4.heap.size := by have := hF4.size; omega
  have HC4 := hide (rcrash08_any hD4 hD4.notOwn_new K kn kc keep torn cut hcc1 hcc2 hkn hk63 (Hrk.out w4 hb04) (fun hne a ha hq => by have := Hown.out _ hq; have := HK.out hne a ha; omega))
  have v0 := hA3.cell (j := 0) rfl
  have v1 := hA3.cell (j := 1) rfl
  have v2 := hA3.cell (j := 2) rfl
  have H4 := hide (And.intro hA1 (And.intro hA2 (And.intro hA3 (And.intro hA4 hb04))))
  clear HS3 hD4 hF4 hA1 hA2 hA3 hA4 hb04 H3 x0 x1 x2 x3 x4 x5 x6 x7 x8
  go_wp2_with fail
  go_fit HC4.out
  rintro e w5 ⟨rfl, ⟨cs5, hD5⟩, hF5⟩
  have hA1 := H4.out.1.fr hF5 (fun hq => by have := Hown.out _ hq; omega)
  have hA2 := H4.out.2.1.fr hF5 (fun hq => by have := Hown.out _ hq; have := H12.out; omega)
  have hA3 := H4.out.2.2.1.fr hF5 (fun hq => by have := Hown.out _ hq; have := H23.out; omega)
  have hA4 := H4.out.2.2.2.1.fr hF5 (fun hq => by have := Hown.out _ hq; have := H34.out; omega)
  have hb05 := hF5.below H4.out.2.2.2.2 (by omega) (fun q hq => by have := Hown.out q hq; omega)
  have hz5 : g1 + 4 ≤ w5.heap.size := by have := hF5.size; omega
  have HL5 := rload_any hD5
  rw [HR.out] at HL5
  have HL5 := hide HL5
  have H5 := hide (And.intro hA4 hb05)
  clear HC4 hD5 hF5 hA1 hA2 hA3 hA4 hb05 H4 v0 v1 v2
  go_wp2_with fail
  go_fit HL5.out
  rintro e w6 ⟨rfl, hb6⟩
  have hA4 := H5.out.1.below hb6
  have hb06 := H5.out.2.trans (hb6.mono (by omega))
  have hz6 := hb6.size
  have hT7 := Blk.new w6 [.int .u64 (serT : Int), .int .i64 epT, .int .i64 vwT, .int .i64 nmT, .int .i64 tpT, .int .i64 bsT, .int .i64 arT, .int .i64 stT, .int .u32 (chT : Int)] 25
  have hA7 := hA4.alloc (.cells #[.int .u64 (serT : Int), .int .i64 epT, .int .i64 vwT, .int .i64 nmT, .int .i64 tpT, .int .i64 bsT, .int .i64 arT, .int .i64 stT, .int .u32 (chT : Int)] 25)
  have hb07 := hb06.alloc (by omega) (.cells #[.int .u64 (serT : Int), .int .i64 epT, .int .i64 vwT, .int .i64 nmT, .int .i64 tpT, .int .i64 bsT, .int .i64 arT, .int .i64 stT, .int .u32 (chT : Int)] 25)
  have x0 := Blk.cell hT7 (j := 0) rfl; have x1 := Blk.cell hT7 (j := 1) rfl; have x2 := Blk.cell hT7 (j := 2) rfl; have x3 := Blk.cell hT7 (j := 3) rfl; have x4 := Blk.cell hT7 (j := 4) rfl; have x5 := Blk.cell hT7 (j := 5) rfl; have x6 := Blk.cell hT7 (j := 6) rfl; have x7 := Blk.cell hT7 (j := 7) rfl; have x8 := Blk.cell hT7 (j := 8) rfl
  have y0 := Blk.cell hA7 (j := 0) rfl; have y1 := Blk.cell hA7 (j := 1) rfl; have y2 := Blk.cell hA7 (j := 2) rfl; have y3 := Blk.cell hA7 (j := 3) rfl; have y4 := Blk.cell hA7 (j := 4) rfl; have y5 := Blk.cell hA7 (j := 5) rfl; have y6 := Blk.cell hA7 (j := 6) rfl; have y7 := Blk.cell hA7 (j := 7) rfl; have y8 := Blk.cell hA7 (j := 8) rfl
  have z0 := hA7.frozen 0; have z1 := hA7.frozen 1; have z2 := hA7.frozen 2; have z3 := hA7.frozen 3; have z4 := hA7.frozen 4; have z5 := hA7.frozen 5; have z6 := hA7.frozen 6; have z7 := hA7.frozen 7; have z8 := hA7.frozen 8
  have HX := hide (And.intro hA7 hb07)
  have HSC := hide (fun (X : World) (q : Nat) (u : Value) (hX : Below g1 w X) => hX.setCell (show g1 ≤ (⟨g4, q, none⟩ : Addr).block by show g1 ≤ g4; have := H34.out; omega) u)
  clear HL5 H5 hb6 hb06 hA4 hT7 hA7 hb07
  go_wp2
  refine bodyPost_ret (results_cell rfl rfl (((((((((HX.out.1.set 0 _).set 1 _).set 2 _).set 3 _).set 4 _).set 5 _).set 6 _).set 7 _).set 8 _) Tryz.underlying25 rfl (by kernel_rfl)) rfl ?_
  exact ⟨rfl, (HSC.out _ _ _ (HSC.out _ _ _ (HSC.out _ _ _ (HSC.out _ _ _ (HSC.out _ _ _ (HSC.out _ _ _ (HSC.out _ _ _ (HSC.out _ _ _ (HSC.out _ _ _ HX.out.2)))))))))⟩
end Go.Proofs.YtoaodmidegkolaaGreatDoor
namespace Go.Proofs.YtoaodmidegkolaaGreatDoor
set_option maxRecDepth 20000
open Go.RowKit Go.Px Go.Maps
set_option linter.unusedVariables false
theorem nine_no {a0 a1 a2 a3 a4 a5 a6 a7 a8 b0 b1 b2 b3 b4 b5 b6 b7 b8 : Int} [i0 : Decidable (a0 = b0)] [i1 : Decidable (a1 = b1)] [i2 : Decidable (a2 = b2)] [i3 : Decidable (a3 = b3)] [i4 : Decidable (a4 = b4)] [i5 : Decidable (a5 = b5)] [i6 : Decidable (a6 = b6)] [i7 : Decidable (a7 = b7)] [i8 : Decidable (a8 = b8)] {α : Type} {x y : α} (h : ¬ (a0 = b0 ∧ a1 = b1 ∧ a2 = b2 ∧ a3 = b3 ∧ a4 = b4 ∧ a5 = b5 ∧ a6 = b6 ∧ a7 = b7 ∧ a8 = b8)) : (if a0 = b0 then (if a1 = b1 then (if a2 = b2 then (if a3 = b3 then (if a4 = b4 then (if a5 = b5 then (if a6 = b6 then (if a7 = b7 then (if a8 = b8 then x else y) else y) else y) else y) else y) else y) else y) else y) else y) = y := by
  repeat' split
  all_goals first | rfl | exact absurd ⟨‹_›, ‹_›, ‹_›, ‹_›, ‹_›, ‹_›, ‹_›, ‹_›, ‹_›⟩ h
set_option maxRecDepth 20000 in
set_option maxHeartbeats 6400000 in
theorem superCrash_walk (old mk0 : Sup) (K : Option Addr) (kn kc : Nat) (keep : List Bool) (torn cut : Int) (s : Nat) (w : World) (hs : s < 256) (hs1 : old.ser < 18446744073709551616) (hc1 : old.ch < 4294967296) (hc2 : mk0.ch < 4294967296)
    (hcc1 : -9223372036854775808 ≤ cut) (hcc2 : cut ≤ 9223372036854775807) (hkn : keep.length = kn) (hk63 : kn ≤ 9223372036854775807) (hrk : Rd w K (bls keep)) (hK : bls keep ≠ [] → ∀ a, K = some a → a.block < w.heap.size) (ht : Tab w) :
    Calls Tryz.prog 3 #[.agg old.cells.toArray, .agg mk0.cells.toArray, .agg #[.slice K kn kc, .int .i64 torn, .int .i64 cut], .int .u8 (s : Int)] w fun e w' => e = .returned (.bool true) ∧ Below w.heap.size w w' := by
  obtain ⟨wa, hwa⟩ : ∃ y, w.alloc (.cells old.cells.toArray 25) = y := ⟨_, rfl⟩
  obtain ⟨g1, hg1⟩ : ∃ g, w.heap.size = g := ⟨_, rfl⟩
  have hA1 : Blk wa g1 old.cells 25 := by rw [← hwa, ← hg1]; exact Blk.new w _ _
  have hba : Below g1 w wa := by rw [← hwa, ← hg1]; exact (Below.refl _ _).alloc (Nat.le_refl _) _
  have hza : wa.heap.size = g1 + 1 := by rw [← hwa, ← hg1]; simp
  obtain ⟨wb, hwb⟩ : ∃ y, wa.alloc (.cells mk0.cells.toArray 25) = y := ⟨_, rfl⟩
  obtain ⟨g2, hg2⟩ : ∃ g, wa.heap.size = g := ⟨_, rfl⟩
  have hA2 : Blk wb g2 mk0.cells 25 := by rw [← hwb, ← hg2]; exact Blk.new wa _ _
  have hbb' : Below wa.heap.size wa wb := by rw [← hwb]; exact (Below.refl _ _).alloc (Nat.le_refl _) _
  have hzb : wb.heap.size = g2 + 1 := by rw [← hwb, ← hg2]; simp
  obtain ⟨wc, hwc⟩ : ∃ y, wb.alloc (.cells #[.slice K kn kc, .int .i64 torn, .int .i64 cut] 28) = y := ⟨_, rfl⟩
  obtain ⟨g3, hg3⟩ : ∃ g, wb.heap.size = g := ⟨_, rfl⟩
  have hA3 : Blk wc g3 [.slice K kn kc, .int .i64 torn, .int .i64 cut] 28 := by rw [← hwc, ← hg3]; exact Blk.new wb _ _
  have hbc' : Below wb.heap.size wb wc := by rw [← hwc]; exact (Below.refl _ _).alloc (Nat.le_refl _) _
  have hzc : wc.heap.size = g3 + 1 := by rw [← hwc, ← hg3]; simp
  have h12 : g2 = g1 + 1 := by omega
  have h23 : g3 = g1 + 2 := by omega
  have hA1 := (hA1.below hbb').below hbc'
  have hA2 := hA2.below hbc'
  have hb0 : Below g1 w wc := (hba.trans (hbb'.mono (by omega))).trans (hbc'.mono (by omega))
  rw [hg1] at hK ⊢
  have hTab : ∀ W, Below g1 w W → Tab W := fun W hW => Rd.below ht (by rw [hg1]; exact hW)
  have HAW := hide (awake09_any wc (hTab wc hb0))
  have HRK := hide (fun W (hW : Below g1 w W) => rd_lo9 hrk (fun hne a ha => hK hne a ha) hW)
  have HK := hide hK
  have HTab := hide hTab
  have hCO := fun W => rschk_any old W
  have hCM := fun W => rschk_any mk0 W
  have hCR := fun (h1 : old.E = 0) (h2 : mk0.E = 0) (h3 : old.ser < 4611686018427387904) => crash9 (S := 72 + s) (old := old) (mk := { mk0 with ser := old.ser + 1 }) (by omega) (by omega) h1 h2 h3 rfl hc1 hc2
  obtain ⟨e1, he1⟩ : ∃ y, old.E = y := ⟨_, rfl⟩
  obtain ⟨e2, he2⟩ : ∃ y, mk0.E = y := ⟨_, rfl⟩
  simp only [he1] at hCO hCR
  simp only [he2] at hCM hCR
  obtain ⟨ser, ep, vw, nm, tp, bs, ar, st, ch⟩ := old
  obtain ⟨ser0, ep', vw', nm', tp', bs', ar', st', ch'⟩ := mk0
  simp only at hs1 hc1 hc2 hCR
  have HCO := hide hCO
  have HCM := hide hCM
  have HCR := hide hCR
  have Hwa := hide hwa
  have Hwb := hide hwb
  have Hwc := hide hwc
  have Hg1 := hide hg1
  have Hg2 := hide hg2
  have Hg3 := hide hg3
  have K2 := hide (show g1 + 1 = g2 by omega)
  have K3 := hide (show g2 + 1 = g3 by omega)
  have H12 := hide h12
  have H23 := hide h23
  have hz : g1 + 3 ≤ wc.heap.size := by omega
  clear hwa hwb hwc hg1 hg2 hg3 hza hzb hzc hba hbb' hbc' hTab hrk hK ht he1 he2 hCO hCM hCR h12 h23
  go_enter Tryz.func3, Tryz.ntmps3
  go_wp2_with fail
  rw [Hwa.out, Hg1.out, K2.out, K3.out, Hwb.out, Hwc.out]
  go_fit HAW.out
  rintro x w1 ⟨rfl, hb1⟩
  have hA1 := hA1.below hb1
  have hA2 := hA2.below hb1
  have hA3 := hA3.below hb1
  have hb01 := hb0.trans (hb1.mono (by omega))
  have hz1 : g1 + 3 ≤ w1.heap.size := by have := hb1.size; omega
  clear HAW hb0 hb1 hz
  have x0 := Blk.cell hA1 (j := 0) rfl; have x1 := Blk.cell hA1 (j := 1) rfl; have x2 := Blk.cell hA1 (j := 2) rfl; have x3 := Blk.cell hA1 (j := 3) rfl; have x4 := Blk.cell hA1 (j := 4) rfl; have x5 := Blk.cell hA1 (j := 5) rfl; have x6 := Blk.cell hA1 (j := 6) rfl; have x7 := Blk.cell hA1 (j := 7) rfl; have x8 := Blk.cell hA1 (j := 8) rfl
  have y0 := Blk.cell hA2 (j := 0) rfl; have y1 := Blk.cell hA2 (j := 1) rfl; have y2 := Blk.cell hA2 (j := 2) rfl; have y3 := Blk.cell hA2 (j := 3) rfl; have y4 := Blk.cell hA2 (j := 4) rfl; have y5 := Blk.cell hA2 (j := 5) rfl; have y6 := Blk.cell hA2 (j := 6) rfl; have y7 := Blk.cell hA2 (j := 7) rfl; have y8 := Blk.cell hA2 (j := 8) rfl
  have H1 := hide (And.intro hA1 (And.intro hA2 (And.intro hA3 hb01)))
  clear hA1 hA2 hA3 hb01
  by_cases he1 : e1 = 0
  case neg =>
    have q1 : (e1 != 0) = true := by simpa using he1
    clear HCR
    go_wp2_with fail
    go_fit (HCO.out w1)
    rintro x w2 ⟨rfl, hb2⟩
    have HX := hide (H1.out.2.2.2.trans (hb2.mono (by omega)))
    clear hb2 HCO x0 x1 x2 x3 x4 x5 x6 x7 x8 y0 y1 y2 y3 y4 y5 y6 y7 y8
    go_wp2
    go_ret
    exact ⟨by first | rfl | simp, HX.out⟩
  subst he1
  by_cases he2 : e2 = 0
  case neg =>
    have q1 : (e2 != 0) = true := by simpa using he2
    clear HCR
    go_wp2_with fail
    go_fit (HCO.out w1)
    rintro x w2 ⟨rfl, hb2⟩
    have hA2 := H1.out.2.1.below hb2
    have hb02 := H1.out.2.2.2.trans (hb2.mono (by omega))
    have hz2 := hb2.size
    clear hb2 HCO x0 x1 x2 x3 x4 x5 x6 x7 x8 y0 y1 y2 y3 y4 y5 y6 y7 y8
    have y0 := Blk.cell hA2 (j := 0) rfl; have y1 := Blk.cell hA2 (j := 1) rfl; have y2 := Blk.cell hA2 (j := 2) rfl; have y3 := Blk.cell hA2 (j := 3) rfl; have y4 := Blk.cell hA2 (j := 4) rfl; have y5 := Blk.cell hA2 (j := 5) rfl; have y6 := Blk.cell hA2 (j := 6) rfl; have y7 := Blk.cell hA2 (j := 7) rfl; have y8 := Blk.cell hA2 (j := 8) rfl
    have HB2 := hide hb02
    clear hA2 hb02
    go_wp2_with fail
    go_fit (HCM.out w2)
    rintro x w3 ⟨rfl, hb3⟩
    have HX := hide (HB2.out.trans (hb3.mono (by omega)))
    clear hb3 HCM y0 y1 y2 y3 y4 y5 y6 y7 y8
    go_wp2
    go_ret
    exact ⟨by first | rfl | simp, HX.out⟩
  subst he2
  go_wp2_with fail
  go_fit (HCO.out w1)
  rintro x w2 ⟨rfl, hb2⟩
  have hA1 := H1.out.1.below hb2
  have hA2 := H1.out.2.1.below hb2
  have hA3 := H1.out.2.2.1.below hb2
  have hb02 := H1.out.2.2.2.trans (hb2.mono (by omega))
  have hz2 : g1 + 3 ≤ w2.heap.size := by have := hb2.size; omega
  clear hb2 HCO H1 x0 x1 x2 x3 x4 x5 x6 x7 x8 y0 y1 y2 y3 y4 y5 y6 y7 y8
  have y0 := Blk.cell hA2 (j := 0) rfl; have y1 := Blk.cell hA2 (j := 1) rfl; have y2 := Blk.cell hA2 (j := 2) rfl; have y3 := Blk.cell hA2 (j := 3) rfl; have y4 := Blk.cell hA2 (j := 4) rfl; have y5 := Blk.cell hA2 (j := 5) rfl; have y6 := Blk.cell hA2 (j := 6) rfl; have y7 := Blk.cell hA2 (j := 7) rfl; have y8 := Blk.cell hA2 (j := 8) rfl
  have H2 := hide (And.intro hA1 (And.intro hA2 (And.intro hA3 hb02)))
  clear hA1 hA2 hA3 hb02
  go_wp2_with fail
  go_fit (HCM.out w2)
  rintro x w3 ⟨rfl, hb3⟩
  have hA1 := H2.out.1.below hb3
  have hA2 := H2.out.2.1.below hb3
  have hA3 := H2.out.2.2.1.below hb3
  have hb03 := H2.out.2.2.2.trans (hb3.mono (by omega))
  have hz3 : g1 + 3 ≤ w3.heap.size := by have := hb3.size; omega
  clear hb3 HCM H2 y0 y1 y2 y3 y4 y5 y6 y7 y8
  have x0 := hA1.cell (j := 0) rfl
  have y0 := hA2.cell (j := 0) rfl
  have u0 := hA2.frozen 0
  by_cases hlt : 4611686018427387904 ≤ ser
  · have q1 : decide ((4611686018427387904 : Int) ≤ (ser : Int)) = true := decide_eq_true (by omega)
    have HX := hide hb03
    clear hA1 hA2 hA3 hb03 HCR
    go_wp2
    go_ret
    exact ⟨by first | rfl | simp, HX.out⟩
  have q1 : decide ((4611686018427387904 : Int) ≤ (ser : Int)) = false := decide_eq_false (by omega)
  obtain ⟨C1, C2, C3, C4, C5, C6⟩ := HCR.out (by first | rfl | trivial) (by first | rfl | trivial) (by omega)
  have HC4 := hide C4
  have HC5 := hide C5
  have HC6 := hide C6
  obtain ⟨S, hS⟩ : ∃ S : Nat, (72 : Int) + (s : Int) = (S : Int) := ⟨72 + s, by omega⟩
  have hS' : 72 + s = S := by omega
  rw [hS'] at C1 C2 C3 HC4 HC5 HC6
  have h0 : IntKind.u64.wrap ((ser : Int) + 1) = ((ser : Int) + 1) % 18446744073709551616 := by unfold IntKind.wrap; simp [IntKind.signed, IntKind.bits]
  have hwr : IntKind.u64.wrap ((ser : Int) + 1) = (ser : Int) + 1 := by rw [h0]; omega
  clear h0
  obtain ⟨mk, hmk⟩ : ∃ y : Sup, y = ⟨ser + 1, ep', vw', nm', tp', bs', ar', st', ch'⟩ := ⟨_, rfl⟩
  obtain ⟨w4, hw4⟩ : ∃ y, w3.setCell ⟨g2, 0, none⟩ (.int .u64 ((ser : Int) + 1)) = y := ⟨_, rfl⟩
  have hm4 : Blk w4 g2 (Sup.cells ⟨ser + 1, ep', vw', nm', tp', bs', ar', st', ch'⟩) 25 := by
    have h := hA2.set 0 (.int .u64 ((ser : Int) + 1))
    rw [hw4] at h
    exact h
  have ho4 : Blk w4 g1 (Sup.cells ⟨ser, ep, vw, nm, tp, bs, ar, st, ch⟩) 25 := by rw [← hw4]; exact hA1.apart (by have := H12.out; omega) 0 _
  have hk4 : Blk w4 g3 [.slice K kn kc, .int .i64 torn, .int .i64 cut] 28 := by rw [← hw4]; exact hA3.apart (by have := H12.out; have := H23.out; omega) 0 _
  have hb04 : Below g1 w w4 := by rw [← hw4]; exact hb03.setCell (by show g1 ≤ g2; have := H12.out; omega) _
  have hz4 : g1 + 3 ≤ w4.heap.size := by rw [← hw4]; simpa using hz3
  have HN := hide (new08_ok w4 2 S (by omega) (by omega) (by omega) (by omega))
  have H4 := hide (And.intro ho4 (And.intro hm4 (And.intro hk4 hb04)))
  have Hw4 := hide hw4
  clear hA1 hA2 hA3 hb03 hw4 ho4 hm4 hk4 hb04 HCR hmk C4 C5 C6 hz3
  go_wp2_with fail
  rw [Hw4.out]
  go_fit HN.out
  rintro x w5 ⟨rfl, hD5, hz5, hb5⟩
  obtain ⟨t, ht⟩ : ∃ t, w4.heap.size + 3 = t := ⟨_, rfl⟩
  obtain ⟨f, hf⟩ : ∃ f, w4.heap.size = f := ⟨_, rfl⟩
  obtain ⟨lm, hlm⟩ : ∃ l, f + 1 = l := ⟨_, rfl⟩
  obtain ⟨bm, hbm⟩ : ∃ l, f + 2 = l := ⟨_, rfl⟩
  rw [ht, hf, hlm, hbm] at hD5
  rw [ht]
  have hown : ∀ b, OwnB t f lm bm b → g1 + 3 ≤ b := fun b hb => by rcases hb with e | e | e | e <;> omega
  have Hown := hide hown
  have hA1 := H4.out.1.below (hb5)
  have hA2 := H4.out.2.1.below (hb5)
  have hA3 := H4.out.2.2.1.below (hb5)
  have hb05 := H4.out.2.2.2.trans (hb5.mono (by omega))
  have hz5 : g1 + 3 ≤ w5.heap.size := by omega
  have hD5 := hD5.notOwn
  obtain ⟨d1, hd1⟩ : ∃ y, save9 (Dk.new 2 S) ⟨ser, ep, vw, nm, tp, bs, ar, st, ch⟩ = y := ⟨_, rfl⟩
  obtain ⟨d2, hd2⟩ : ∃ y, d1.barrier = y := ⟨_, rfl⟩
  obtain ⟨d3, hd3⟩ : ∃ y, save9 d2 ⟨ser + 1, ep', vw', nm', tp', bs', ar', st', ch'⟩ = y := ⟨_, rfl⟩
  have hcr : ∀ keep torn cut, crashed9 S ⟨ser, ep, vw, nm, tp, bs, ar, st, ch⟩ ⟨ser + 1, ep', vw', nm', tp', bs', ar', st', ch'⟩ keep torn cut = d3.crash keep torn cut := fun keep torn cut => by unfold crashed9; rw [hd1, hd2, hd3]
  have hc4 := HC4.out
  have hc5 := HC5.out
  have hc6 := HC6.out
  rw [hd1] at C2 C3 hc4 hc5 hc6
  rw [hd2] at C3 hc4 hc5 hc6
  rw [hd3] at hc4 hc5 hc6
  have HS5 := save_any hD5 hD5.notOwn_new ⟨ser, ep, vw, nm, tp, bs, ar, st, ch⟩ hs1 hc1 (HTab.out w5 hb05)
  rw [C1, hd1] at HS5
  have HS5 := hide HS5
  have HC2 := hide C2
  have HC3 := hide C3
  have HC4 := hide hc4
  have HC5 := hide hc5
  have HC6 := hide hc6
  have Hd2 := hide hd2
  have Hd3 := hide hd3
  have Hcr := hide hcr
  have x0 := Blk.cell hA1 (j := 0) rfl; have x1 := Blk.cell hA1 (j := 1) rfl; have x2 := Blk.cell hA1 (j := 2) rfl; have x3 := Blk.cell hA1 (j := 3) rfl; have x4 := Blk.cell hA1 (j := 4) rfl; have x5 := Blk.cell hA1 (j := 5) rfl; have x6 := Blk.cell hA1 (j := 6) rfl; have x7 := Blk.cell hA1 (j := 7) rfl; have x8 := Blk.cell hA1 (j := 8) rfl
  have H5 := hide (And.intro hA1 (And.intro hA2 (And.intro hA3 hb05)))
  clear hA1 hA2 hA3 hb05 hD5 hd1 hd2 hd3 hcr hc4 hc5 hc6 C1 C2 C3 ht hf hlm hbm hown H4 HN hb5 u0
  clear y0
  go_wp2_with fail
  go_fit HS5.out
  rintro x w6 ⟨rfl, hD6, hF6⟩
  have hA1 := H5.out.1.fr hF6 (fun hq => by have := Hown.out _ hq; omega)
  have hA2 := H5.out.2.1.fr hF6 (fun hq => by have := Hown.out _ hq; have := H12.out; omega)
  have hA3 := H5.out.2.2.1.fr hF6 (fun hq => by have := Hown.out _ hq; have := H23.out; omega)
  have hb06 := hF6.below H5.out.2.2.2 (by omega) (fun q hq => by have := Hown.out q hq; omega)
  have hz6 : g1 + 3 ≤ w6.heap.size := by have := hF6.size; omega
  have HB6 := barrier08_any hD6
  rw [HC2.out, Hd2.out] at HB6
  have HB6 := hide HB6
  have H6 := hide (And.intro hA1 (And.intro hA2 (And.intro hA3 hb06)))
  clear hA1 hA2 hA3 hb06 hD6 hF6 HS5 H5 x0 x1 x2 x3 x4 x5 x6 x7 x8
  go_wp2_with fail
  go_fit HB6.out
  rintro x w7 ⟨rfl, hD7, hF7⟩
  have hA1 := H6.out.1.fr hF7 (fun hq => by have := Hown.out _ hq; omega)
  have hA2 := H6.out.2.1.fr hF7 (fun hq => by have := Hown.out _ hq; have := H12.out; omega)
  have hA3 := H6.out.2.2.1.fr hF7 (fun hq => by have := Hown.out _ hq; have := H23.out; omega)
  have hb07 := hF7.below H6.out.2.2.2 (by omega) (fun q hq => by have := Hown.out q hq; omega)
  have hz7 : g1 + 3 ≤ w7.heap.size := by have := hF7.size; omega
  have HS7 := save_any hD7 hD7.notOwn_new ⟨ser + 1, ep', vw', nm', tp', bs', ar', st', ch'⟩ (show ser + 1 < 18446744073709551616 by omega) hc2 (HTab.out w7 hb07)
  rw [HC3.out, Hd3.out] at HS7
  have HS7 := hide HS7
  have y0 := Blk.cell hA2 (j := 0) rfl; have y1 := Blk.cell hA2 (j := 1) rfl; have y2 := Blk.cell hA2 (j := 2) rfl; have y3 := Blk.cell hA2 (j := 3) rfl; have y4 := Blk.cell hA2 (j := 4) rfl; have y5 := Blk.cell hA2 (j := 5) rfl; have y6 := Blk.cell hA2 (j := 6) rfl; have y7 := Blk.cell hA2 (j := 7) rfl; have y8 := Blk.cell hA2 (j := 8) rfl
  have H7 := hide (And.intro hA1 (And.intro hA2 (And.intro hA3 hb07)))
  clear hA1 hA2 hA3 hb07 hD7 hF7 HB6 H6
  go_wp2_with fail
  go_fit HS7.out
  rintro x w8 ⟨rfl, hD8, hF8⟩
  have hA1 := H7.out.1.fr hF8 (fun hq => by have := Hown.out _ hq; omega)
  have hA2 := H7.out.2.1.fr hF8 (fun hq => by have := Hown.out _ hq; have := H12.out; omega)
  have hA3 := H7.out.2.2.1.fr hF8 (fun hq => by have := Hown.out _ hq; have := H23.out; omega)
  have hb08 := hF8.below H7.out.2.2.2 (by omega) (fun q hq => by have := Hown.out q hq; omega)
  have hz8 : g1 + 3 ≤ w8.heap.size := by have := hF8.size; omega
  have HC8 := hide (copy08_any hD8)
  have hlt8 := hD8.lts
  have hlw := hide hD8.low
  have H8 := hide (And.intro hA1 (And.intro hA2 (And.intro hA3 hb08)))
  clear hA1 hA2 hA3 hb08 hD8 hF8 HS7 H7 y0 y1 y2 y3 y4 y5 y6 y7 y8
  go_wp2_with fail
  go_fit HC8.out
  rintro x w9 ⟨xx, xf, xl, xm, rfl, hX9, hXo, hb9⟩
  have hA1 := H8.out.1.below hb9
  have hA2 := H8.out.2.1.below hb9
  have hA3 := H8.out.2.2.1.below hb9
  have hb09 := H8.out.2.2.2.trans (hb9.mono (by omega))
  have hz9 := hb9.size
  have hD9 := hlw.out.below hb9
  have HB9 := hide (barrier08_any hX9)
  have H9 := hide (And.intro hA1 (And.intro hA2 (And.intro hA3 (And.intro hb09 hD9))))
  have HXo := hide hXo
  clear hA1 hA2 hA3 hb09 hD9 HC8 H8 hX9 hXo hlw hb9
  go_wp2_with fail
  go_fit HB9.out
  rintro x w10 ⟨rfl, hX10, hF10⟩
  have hA1 := H9.out.1.fr hF10 (fun hq => by have := HXo.out _ hq; omega)
  have hA2 := H9.out.2.1.fr hF10 (fun hq => by have := HXo.out _ hq; have := H12.out; omega)
  have hA3 := H9.out.2.2.1.fr hF10 (fun hq => by have := HXo.out _ hq; have := H23.out; omega)
  have hb010 := hF10.below H9.out.2.2.2.1 (by omega) (fun q hq => by have := HXo.out q hq; omega)
  have hz10 : g1 + 3 ≤ w10.heap.size := by have := hF10.size; omega
  have hD10 := (H9.out.2.2.2.2.fr hF10 (fun hq => by have := HXo.out _ hq; omega) (fun hq => by have := HXo.out _ hq; omega) (fun hq => by have := HXo.out _ hq; omega) (fun hq => by have := HXo.out _ hq; omega) (fun b hb hq => by have := HXo.out _ hq; omega)).notOwn
  have HL10 := load_any hX10 (HTab.out w10 hb010)
  rw [HC4.out, HC5.out] at HL10
  have HL10 := hide HL10
  have H10 := hide (And.intro hA1 (And.intro hA2 (And.intro hA3 (And.intro hb010 hD10))))
  clear hA1 hA2 hA3 hb010 hD10 HB9 H9 hX10 hF10 HXo hlt8 hz9
  go_wp2_with fail
  go_fit HL10.out
  rintro x w11 ⟨rfl, hb11⟩
  obtain ⟨g4, hg4⟩ : ∃ y, w11.heap.size = y := ⟨_, rfl⟩
  obtain ⟨w12, hw12⟩ : ∃ y, w11.alloc (.cells #[.int .u64 ((ser : Int) + 1), .int .i64 ep', .int .i64 vw', .int .i64 nm', .int .i64 tp', .int .i64 bs', .int .i64 ar', .int .i64 st', .int .u32 (ch' : Int)] 25) = y := ⟨_, rfl⟩
  have hN12 : Blk w12 g4 (Sup.cells ⟨ser + 1, ep', vw', nm', tp', bs', ar', st', ch'⟩) 25 := by rw [← hw12, ← hg4]; exact Blk.new w11 _ _
  have hb1112 : Below w11.heap.size w11 w12 := by rw [← hw12]; exact (Below.refl _ _).alloc (Nat.le_refl _) _
  have hb1012 := hb11.trans (hb1112.mono hb11.size)
  have hg4w : g4 < w12.heap.size := hN12.lt
  have hg4g : w10.heap.size ≤ g4 := by rw [← hg4]; exact hb11.size
  have hA1 := H10.out.1.below hb1012
  have hA2 := H10.out.2.1.below hb1012
  have hA3 := H10.out.2.2.1.below hb1012
  have hb012 := H10.out.2.2.2.1.trans (hb1012.mono (by omega))
  have hz12 : g1 + 3 ≤ w12.heap.size := by have := hb1012.size; omega
  have hlt10 := H10.out.2.2.2.2.lts
  have hD12 := H10.out.2.2.2.2.below hb1012
  have hg4o : ¬ OwnB t f lm bm g4 := fun hq => by rcases hq with e | e | e | e <;> omega
  have HCR := hide (crash08_any hD12 hD12.notOwn_new K kn kc keep torn cut hcc1 hcc2 hkn hk63 (HRK.out w12 hb012) (fun hne a ha hq => by have := Hown.out _ hq; have := HK.out hne a ha; omega))
  have v0 := hA3.cell (j := 0) rfl
  have v1 := hA3.cell (j := 1) rfl
  have v2 := hA3.cell (j := 2) rfl
  rw [← hw12] at v0 v1 v2
  have Hw12 := hide hw12
  have Hg4 := hide hg4
  have Hg4o := hide hg4o
  have H12' := hide (And.intro hA1 (And.intro hA2 (And.intro hA3 (And.intro hb012 hN12))))
  clear hA1 hA2 hA3 hb012 hD12 hN12 HL10 H10 hb11 hb1112 hb1012 hw12 hg4 hg4o hlt10
  go_wp2_with fail
  rw [Hw12.out, Hg4.out]
  go_fit HCR.out
  rintro x w13 ⟨rfl, hD13, hF13⟩
  have hA1 := H12'.out.1.fr hF13 (fun hq => by have := Hown.out _ hq; omega)
  have hA2 := H12'.out.2.1.fr hF13 (fun hq => by have := Hown.out _ hq; have := H12.out; omega)
  have hA3 := H12'.out.2.2.1.fr hF13 (fun hq => by have := Hown.out _ hq; have := H23.out; omega)
  have hb013 := hF13.below H12'.out.2.2.2.1 (by omega) (fun q hq => by have := Hown.out q hq; omega)
  have hz13 : g1 + 3 ≤ w13.heap.size := by have := hF13.size; omega
  have hN13 := H12'.out.2.2.2.2.fr hF13 Hg4o.out
  have hg4w : g4 < w13.heap.size := hN13.lt
  have HL13 := load_any hD13 (HTab.out w13 hb013)
  rw [HC6.out] at HL13
  have hAC := fun W (hW : Below g1 w W) (hWz : g1 + 3 ≤ W.heap.size) => accident_any S ⟨ser, ep, vw, nm, tp, bs, ar, st, ch⟩ ⟨ser + 1, ep', vw', nm', tp', bs', ar', st', ch'⟩ (by omega) (by omega) hs1 (show ser + 1 < 18446744073709551616 by omega) hc1 hc2 K kn kc keep torn cut W hcc1 hcc2 hkn hk63 (HRK.out W hW) (fun hne a ha => by have := HK.out hne a ha; omega)
  simp only [Hcr.out] at hAC
  obtain ⟨T, hT⟩ : ∃ y, loadV (d3.crash keep torn cut) = y := ⟨_, rfl⟩
  rw [hT] at HL13
  simp only [hT] at hAC
  obtain ⟨serT, epT, vwT, nmT, tpT, bsT, arT, stT, chT⟩ := T
  have HL13 := hide HL13
  have HAC := hide hAC
  have H13 := hide (And.intro hA1 (And.intro hA2 (And.intro hA3 (And.intro hb013 hN13))))
  clear hA1 hA2 hA3 hb013 hD13 hN13 HCR H12' hF13 hT hAC v0 v1 v2
  go_wp2_with fail
  go_fit HL13.out
  rintro x w14 ⟨rfl, hb14⟩
  obtain ⟨g5, hg5⟩ : ∃ y, w14.heap.size = y := ⟨_, rfl⟩
  obtain ⟨w15, hw15⟩ : ∃ y, w14.alloc (.cells #[.int .u64 (serT : Int), .int .i64 epT, .int .i64 vwT, .int .i64 nmT, .int .i64 tpT, .int .i64 bsT, .int .i64 arT, .int .i64 stT, .int .u32 (chT : Int)] 25) = y := ⟨_, rfl⟩
  have hT15 : Blk w15 g5 (Sup.cells ⟨serT, epT, vwT, nmT, tpT, bsT, arT, stT, chT⟩) 25 := by rw [← hw15, ← hg5]; exact Blk.new w14 _ _
  have hb1415 : Below w14.heap.size w14 w15 := by rw [← hw15]; exact (Below.refl _ _).alloc (Nat.le_refl _) _
  have hb1315 := hb14.trans (hb1415.mono hb14.size)
  have hA1 := H13.out.1.below hb1315
  have hA2 := H13.out.2.1.below hb1315
  have hA3 := H13.out.2.2.1.below hb1315
  have hN15 := H13.out.2.2.2.2.below hb1315
  have hb015 := H13.out.2.2.2.1.trans (hb1315.mono (by omega))
  have hz15 : g1 + 3 ≤ w15.heap.size := by have := hb1315.size; omega
  have x0 := Blk.cell hN15 (j := 0) rfl; have x1 := Blk.cell hN15 (j := 1) rfl; have x2 := Blk.cell hN15 (j := 2) rfl; have x3 := Blk.cell hN15 (j := 3) rfl; have x4 := Blk.cell hN15 (j := 4) rfl; have x5 := Blk.cell hN15 (j := 5) rfl; have x6 := Blk.cell hN15 (j := 6) rfl; have x7 := Blk.cell hN15 (j := 7) rfl; have x8 := Blk.cell hN15 (j := 8) rfl
  have y0 := Blk.cell hA2 (j := 0) rfl; have y1 := Blk.cell hA2 (j := 1) rfl; have y2 := Blk.cell hA2 (j := 2) rfl; have y3 := Blk.cell hA2 (j := 3) rfl; have y4 := Blk.cell hA2 (j := 4) rfl; have y5 := Blk.cell hA2 (j := 5) rfl; have y6 := Blk.cell hA2 (j := 6) rfl; have y7 := Blk.cell hA2 (j := 7) rfl; have y8 := Blk.cell hA2 (j := 8) rfl
  rw [← hw15] at x0 x1 x2 x3 x4 x5 x6 x7 x8 y0 y1 y2 y3 y4 y5 y6 y7 y8
  have Hw15 := hide hw15
  have Hg5 := hide hg5
  have H15 := hide (And.intro hA1 (And.intro hA2 (And.intro hA3 (And.intro hb015 hT15))))
  clear hA1 hA2 hA3 hb015 hT15 hN15 HL13 H13 hb14 hb1415 hb1315 hw15 hg5
  go_wp2_with fail
  rw [Hw15.out, Hg5.out]
  clear x0 x1 x2 x3 x4 x5 x6 x7 x8 y0 y1 y2 y3 y4 y5 y6 y7 y8
  have hC1 : ∀ (j : Nat) (u : Value), (Sup.cells ⟨serT, epT, vwT, nmT, tpT, bsT, arT, stT, chT⟩)[j]? = some u → ∀ x : InC (fun W => Below w15.heap.size w15 W), x.W.cell? ⟨g5, j, none⟩ = some u := fun j u hu x => (H15.out.2.2.2.2.below x.h).cell hu
  have hC2 : ∀ (j : Nat) (u : Value), (Sup.cells ⟨ser, ep, vw, nm, tp, bs, ar, st, ch⟩)[j]? = some u → ∀ x : InC (fun W => Below w15.heap.size w15 W), x.W.cell? ⟨g1, j, none⟩ = some u := fun j u hu x => (H15.out.1.below x.h).cell hu
  have hC3 : ∀ (j : Nat) (u : Value), (Sup.cells ⟨ser + 1, ep', vw', nm', tp', bs', ar', st', ch'⟩)[j]? = some u → ∀ x : InC (fun W => Below w15.heap.size w15 W), x.W.cell? ⟨g2, j, none⟩ = some u := fun j u hu x => (H15.out.2.1.below x.h).cell hu
  have hC4 : ∀ (j : Nat) (u : Value), ([.slice K kn kc, .int .i64 torn, .int .i64 cut] : List Value)[j]? = some u → ∀ x : InC (fun W => Below w15.heap.size w15 W), x.W.cell? ⟨g3, j, none⟩ = some u := fun j u hu x => (H15.out.2.2.1.below x.h).cell hu
  have x0 := hC1 0 _ rfl
  have x1 := hC1 1 _ rfl
  have x2 := hC1 2 _ rfl
  have x3 := hC1 3 _ rfl
  have x4 := hC1 4 _ rfl
  have x5 := hC1 5 _ rfl
  have x6 := hC1 6 _ rfl
  have x7 := hC1 7 _ rfl
  have x8 := hC1 8 _ rfl
  have y0 := hC2 0 _ rfl
  have y1 := hC2 1 _ rfl
  have y2 := hC2 2 _ rfl
  have y3 := hC2 3 _ rfl
  have y4 := hC2 4 _ rfl
  have y5 := hC2 5 _ rfl
  have y6 := hC2 6 _ rfl
  have y7 := hC2 7 _ rfl
  have y8 := hC2 8 _ rfl
  have z0 := hC3 0 _ rfl
  have z1 := hC3 1 _ rfl
  have z2 := hC3 2 _ rfl
  have z3 := hC3 3 _ rfl
  have z4 := hC3 4 _ rfl
  have z5 := hC3 5 _ rfl
  have z6 := hC3 6 _ rfl
  have z7 := hC3 7 _ rfl
  have z8 := hC3 8 _ rfl
  have v0 := hC4 0 _ rfl
  have v1 := hC4 1 _ rfl
  have v2 := hC4 2 _ rfl
  have HACx := hide (fun x : InC (fun W => Below w15.heap.size w15 W) => HAC.out x.W (H15.out.2.2.2.1.trans (x.h.mono (by omega))) (by have := x.h.size; omega))
  have Hb15 := hide H15.out.2.2.2.1
  clear hC1 hC2 hC3 hC4 H15 HAC
  by_cases hN1 : (serT : Int) = (ser : Int) ∧ epT = ep ∧ vwT = vw ∧ nmT = nm ∧ tpT = tp ∧ bsT = bs ∧ arT = ar ∧ stT = st ∧ (chT : Int) = (ch : Int)
  · obtain ⟨e0, rfl, rfl, rfl, rfl, rfl, rfl, rfl, e8⟩ := hN1
    obtain rfl : serT = ser := by omega
    obtain rfl : chT = ch := by omega
    clear e0 e8
    refine wp_region_in (fun W => Below w15.heap.size w15 W) (Below.refl _ _).drew (by kernel_rfl) (by kernel_rfl) ?_
    repeat (go_big_quiet_step (first
          | fail))
    refine wpQuiet_nil ?_
    intro _ hw'
    obtain ⟨nq, hw''⟩ := hw'
    subst hw''
    have hbq := nq.h
    go_wp2
    go_ret
    exact ⟨by first | rfl | simp, Hb15.out.trans (hbq.mono (by omega))⟩
  · have HN1 := hide hN1
    clear hN1
    by_cases hN2 : (serT : Int) = (ser : Int) + 1 ∧ epT = ep' ∧ vwT = vw' ∧ nmT = nm' ∧ tpT = tp' ∧ bsT = bs' ∧ arT = ar' ∧ stT = st' ∧ (chT : Int) = (ch' : Int)
    · obtain ⟨e0, rfl, rfl, rfl, rfl, rfl, rfl, rfl, e8⟩ := hN2
      obtain rfl : serT = ser + 1 := by omega
      obtain rfl : chT = ch' := by omega
      clear e0 e8
      refine wp_region_in (fun W => Below w15.heap.size w15 W) (Below.refl _ _).drew (by kernel_rfl) (by kernel_rfl) ?_
      repeat (go_big_quiet_step (first
            | (rw [nine_no HN1.out]; exact ⟨rfl, rfl⟩)))
      refine wpQuiet_nil ?_
      intro _ hw'
      obtain ⟨nq, hw''⟩ := hw'
      subst hw''
      have hbq := nq.h
      go_wp2
      go_ret
      exact ⟨by first | rfl | simp, Hb15.out.trans (hbq.mono (by omega))⟩
    · have HN2 := hide hN2
      clear hN2
      refine wp_region_in (fun W => Below w15.heap.size w15 W) (Below.refl _ _).drew (by kernel_rfl) (by kernel_rfl) ?_
      repeat (go_big_quiet_step (first
            | (go_at_call 12; exact Calls.in_below (HACx.out _))
            | (rw [nine_no HN1.out]; exact ⟨rfl, rfl⟩)
            | (rw [nine_no HN2.out]; exact ⟨rfl, rfl⟩)))
      refine wpQuiet_nil ?_
      intro _ hw'
      obtain ⟨nq, hw''⟩ := hw'
      subst hw''
      have hbq := nq.h
      go_wp2
      go_ret
      exact ⟨by first | rfl | simp, Hb15.out.trans (hbq.mono (by omega))⟩
end Go.Proofs.YtoaodmidegkolaaGreatDoor
