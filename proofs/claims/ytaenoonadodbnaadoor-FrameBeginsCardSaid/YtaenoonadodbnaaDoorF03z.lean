/- frame.frames' closure: what it hands on, round by round. -/
import Derived.Test.YtaenoonadodbnaaDoorF03y
import Derived.RangeFuncNested
import Derived.RangeFuncBound
import Derived.RangeFuncCalls
import Derived.RangeFuncLeaves
import Derived.RangeFuncBox
import Derived.Shelf.Abstract
import Derived.WalkKit
import Derived.OwnWalkIn
import Derived.TacticsInMore
import Derived.LoopNIn
import Derived.LoopIn
import Derived.Maps.AppendAt
import Derived.Maps.OwnIn
namespace Go.Proofs.YtaenoonadodbnaaDoor
open Go.RowKit Go.Px Go.Shelf
set_option linter.unusedVariables false
attribute [local go_sem] Oper.semAt_some
/-- Between two rounds: j frames have come. o: the box of the row, o + 1: of the end, o + 2: of the bytes; o + 3, o + 4: the loop's own. -/
def ScInv (w : World) (A : Option Addr) (m c : Nat) (bs : List UInt8) (r : Loop) (Bd j : Nat) (W : World) : Prop := ∃ v cs, (∀ t, t < j → rdE bs (scP bs t : Nat) = 0) ∧ 20 * j ≤ scP bs j ∧ scP bs j ≤ m ∧
  Blk W w.heap.size [v] 35 ∧ Blk W (w.heap.size + 1) [.int .i64 (scP bs j : Nat)] 3 ∧ Blk W (w.heap.size + 2) [.slice A m c] 23 ∧
  W.ownsRow (w.heap.size + 5) 25 3 v j cs ∧ FrRows W (fun B => w.heap.size + 5 ≤ B ∧ B < Bd ∧ some B ≠ v.ownBlock) cs (scF bs j) ∧ (∀ g, v.ownBlock = some g → g < Bd) ∧ w.heap.size + 5 ≤ Bd ∧ Bd ≤ W.heap.size ∧
  W.heap[w.heap.size + 4]? = some (.loop r) ∧ W.heap[w.heap.size + 3]? = some (.deferred (some [])) ∧ Below w.heap.size w W
theorem ScInv.below {w : World} {A : Option Addr} {m c : Nat} {bs : List UInt8} {r : Loop} {Bd j : Nat} {W W' : World} (h : ScInv w A m c bs r Bd j W) (hb : Below W.heap.size W W') : ScInv w A m c bs r Bd j W' := by
  obtain ⟨v, cs, h1, h2, h3, h4, h5, h6, h7, h8, h9, h10, h11, h12, h13, h14⟩ := h
  exact ⟨v, cs, h1, h2, h3, h4.below hb, h5.below hb, h6.below hb, own_below h7 hb, h8.below hb, h9, h10, Nat.le_trans h11 hb.size, (hb.block _ (Array.getElem?_eq_some_iff.1 h12).1).trans h12, (hb.block _ (Array.getElem?_eq_some_iff.1 h13).1).trans h13, h14.trans (hb.mono h14.size)⟩
theorem ScInv.up {w : World} {A : Option Addr} {m c : Nat} {bs : List UInt8} {r : Loop} {Bd j : Nat} {W : World} (h : ScInv w A m c bs r Bd j W) : ScInv w A m c bs r W.heap.size j W := by
  obtain ⟨v, cs, h1, h2, h3, h4, h5, h6, h7, h8, h9, h10, h11, h12, h13, h14⟩ := h
  exact ⟨v, cs, h1, h2, h3, h4, h5, h6, h7, h8.keep (fun A xs hr _ => hr) (fun B hB => ⟨hB.1, by have := hB.2.1; omega, hB.2.2⟩), fun g hg => by have := h9 g hg; omega, by omega, Nat.le_refl _, h12, h13, h14⟩
theorem own_grown3 {w w' : World} {base e size n : Nat} {v : Value} {xs : List Value} {row : Option Nat} (h : w.ownsRow base e size v n xs) (hg : w.grownBy w' row) (hne : ∀ g, v.ownBlock = some g → row ≠ some g) : w'.ownsRow base e size v n xs := by
  refine ⟨h.1, ?_⟩
  rcases h.2 with h2 | ⟨g, cap, cur, rfl, hbg, hgg, r⟩
  · exact .inl h2
  · exact .inr ⟨g, cap, cur, rfl, hbg, (hg.block g (Array.getElem?_eq_some_iff.1 hgg).1 (fun e => hne g rfl e.symm)).trans hgg, r⟩
/-- The loop's record turned. -/
theorem ScInv.put {w : World} {A : Option Addr} {m c : Nat} {bs : List UInt8} {r : Loop} {Bd j : Nat} {W : World} (h : ScInv w A m c bs r Bd j W) (r' : Loop) : ScInv w A m c bs r' Bd j (W.putObj (w.heap.size + 4) (.loop r')) := by
  obtain ⟨v, cs, h1, h2, h3, h4, h5, h6, h7, h8, h9, h10, h11, h12, h13, h14⟩ := h
  have hg := grownBy_putObj' W (w.heap.size + 4) (.loop r')
  have hlt := (Array.getElem?_eq_some_iff.1 h12).1
  have lo := own_lt3 h7
  exact ⟨v, cs, h1, h2, h3, (World.putObj_heap_other (by omega)).trans h4, (World.putObj_heap_other (by omega)).trans h5, (World.putObj_heap_other (by omega)).trans h6,
    own_grown3 h7 hg (fun g hg e => by injection e with e; have := (lo g hg).1; omega), h8.keep (fun A xs hr hq => hr.grown hg (fun a ha e => by injection e with e; have := (hq a ha).1; omega)) (fun B hB => hB), h9, h10, by simpa [World.putObj] using h11,
    World.putObj_heap_same hlt, (World.putObj_heap_other (by omega)).trans h13, h14.grown hg (by omega) (fun k e => by injection e with e; omega)⟩
/-- A frame that is handed on: it is the next one, and its bytes lie in a block of its own. -/
structure NextFr (w : World) (m : Nat) (bs : List UInt8) (Bd j : Nat) (W : World) (K S : Nat) (A1 : Option Addr) (c1 : Nat) (D : List UInt8) (P' : Nat) : Prop where
  fr : scF bs (j + 1) = scF bs j ++ [(K, S, D)]
  pos : scP bs (j + 1) = P'
  gd : ∀ t, t < j + 1 → rdE bs (scP bs t : Nat) = 0
  p20 : 20 * (j + 1) ≤ P'
  pm : P' ≤ m
  len : D.length ≤ c1
  cap : c1 ≤ 9223372036854775807
  rd : Rd W A1 (bys D)
  blk : ∀ a, A1 = some a → Bd ≤ a.block ∧ a.block < W.heap.size
set_option maxRecDepth 100000 in
set_option maxHeartbeats 3200000 in
theorem frames1_walk (n : Nat) (hn : 1 ≤ n) (w : World) (A : Option Addr) (m c : Nat) (bs : List UInt8) (r : Loop) (hm : bs.length = m) (hm8 : m ≤ 16384) (hmc : m ≤ c) (hc : c ≤ 9223372036854775807) (hr : Rd w A (bys bs)) (ht : Tab w)
    (hY : ∀ Bd j W K S A1 c1 D P', ScInv w A m c bs r Bd j W → NextFr w m bs Bd j W K S A1 c1 D P' → YieldAt Fence.wide (n - 1) Tryd.prog (w.heap.size + 4) #[.agg #[.int .u8 (K : Nat), .int .u64 (S : Nat), .slice A1 D.length c1], .int .i64 (P' : Nat)] W fun e W' => e = .returned (.bool true) ∧ ∃ Bd', ScInv w A m c bs r Bd' (j + 1) W')
    (W : World) (h0 : ∃ Bd, ScInv w A m c bs r Bd 0 W) :
    CallsIn Fence.wide n Tryd.prog 42 #[.func (.yield (w.heap.size + 4)) #[] #[], .pointer (some ⟨w.heap.size + 2, 0, none⟩)] W fun e W' => (∃ v, e = .returned v) ∧ ∃ J Bd, Ends bs J ∧ ScInv w A m c bs r Bd J W' := by
  have Hm := hide hm
  clear hm
  refine callsIn_of_wp Tryd.func42 rfl trivial ?_ rfl
  simp only [Tryd.ntmps42, List.size_toArray, List.length_cons, List.length_nil, Nat.reduceAdd, Nat.reduceSub, Array.replicate_succ, Array.replicate_zero, List.push_toArray, List.append_toArray, List.nil_append, List.cons_append]
  gi_wp2
  gi_loopw [3] (fun i wr => ∃ (j Bd : Nat), i = .int .i64 (scP bs j : Nat) ∧ ScInv w A m c bs r Bd j wr) (fun i _ => m - (intOf i).toNat)
  case atStart =>
    obtain ⟨Bd, h0⟩ := h0
    exact ⟨0, Bd, rfl, h0⟩
  case round =>
    obtain ⟨j, Bd, rfl, hI⟩ := hrel
    have hI' := hI
    obtain ⟨v, cs, hgd, h20, hpm, hB0, hB1, hB2, hown, hF, hlo, hBd, hBs, hL, hD, hbw⟩ := hI'
    have x2 := hB2.cell (j := 0) rfl
    obtain ⟨P, hP⟩ : ∃ P, scP bs j = P := ⟨_, rfl⟩
    rw [hP] at h20 hpm
    have HP := hide hP
    rw [hP]
    clear hP
    have hrw := hr.below hbw
    have htw : Tab wr := Rd.below ht hbw
    gi_wp2_with fail
    refine ⟨trivial, (callsIn_wide.2 (fread_any A m c bs (P : Int) wr Hm.out (by omega) hmc hc hrw (by omega) (by omega) htw)).mono ?_⟩
    rintro x w1 ⟨v1, rfl, ho1, hb1⟩
    obtain ⟨A1, c1, rfl, _, hc1, hcm1, hr1, ha1⟩ := own_out ho1
    obtain ⟨E, hE'⟩ : ∃ E, rdE bs (P : Int) = E := ⟨_, rfl⟩
    rw [hE']
    obtain ⟨w2, hw2⟩ : ∃ x, w1.alloc (.cells #[.int .u8 (rdK bs (P : Int)), .int .u64 (rdS bs (P : Int)), .slice A1 (rdB bs (P : Int)).length c1] 25) = x := ⟨_, rfl⟩
    have hb12 : Below w1.heap.size w1 w2 := by rw [← hw2]; exact (Below.refl _ _).alloc (Nat.le_refl _) _
    have hb2 : Below wr.heap.size wr w2 := hb1.trans (hb12.mono hb1.size)
    have hI2 := (hI.up).below hb2
    have hsz2 : w1.heap.size + 1 = w2.heap.size := by rw [← hw2, World.size_alloc]
    have hf0 : w2.cell? ⟨w1.heap.size, 0, none⟩ = some (.int .u8 (rdK bs (P : Int))) := by rw [← hw2]; exact (Blk.new w1 [.int .u8 (rdK bs (P : Int)), .int .u64 (rdS bs (P : Int)), .slice A1 (rdB bs (P : Int)).length c1] 25).cell (j := 0) rfl
    have hf1 : w2.cell? ⟨w1.heap.size, 1, none⟩ = some (.int .u64 (rdS bs (P : Int))) := by rw [← hw2]; exact (Blk.new w1 [.int .u8 (rdK bs (P : Int)), .int .u64 (rdS bs (P : Int)), .slice A1 (rdB bs (P : Int)).length c1] 25).cell (j := 1) rfl
    have hf2 : w2.cell? ⟨w1.heap.size, 2, none⟩ = some (.slice A1 (rdB bs (P : Int)).length c1) := by rw [← hw2]; exact (Blk.new w1 [.int .u8 (rdK bs (P : Int)), .int .u64 (rdS bs (P : Int)), .slice A1 (rdB bs (P : Int)).length c1] 25).cell (j := 2) rfl
    by_cases hE : E = 0
    · have hE0 : rdE bs (P : Int) = 0 := hE'.trans hE
      obtain ⟨n1, n2, n3, n4⟩ := scP_succ (bs := bs) (j := j) (by rw [HP.out]; exact hE0)
      rw [HP.out] at n1 n2 n4
      rw [Hm.out] at n3 n4
      have hgd' : ∀ t, t < j + 1 → rdE bs (scP bs t : Nat) = 0 := fun t ht => by
        rcases Nat.lt_or_ge t j with h | h
        · exact hgd t h
        · obtain rfl : t = j := by omega
          rw [HP.out]; exact hE0
      have hF1 : scF bs (j + 1) = scF bs j ++ [(rdK bs (P : Int), rdS bs (P : Int), rdB bs (P : Int))] := by
        show scF bs j ++ [frOf bs (scP bs j)] = _
        rw [HP.out]; rfl
      have hnx : NextFr w m bs wr.heap.size j w2 (rdK bs (P : Int)) (rdS bs (P : Int)) A1 c1 (rdB bs (P : Int)) (scP bs (j + 1)) :=
        ⟨hF1, rfl, hgd', by omega, n3, hc1, by unfold maxLen at hcm1; omega, hr1.below hb12, fun a ha => by have := ha1 a ha; omega⟩
      obtain ⟨fn, tmps, assign, body, hy, hR⟩ := hY wr.heap.size j w2 _ _ A1 c1 _ (scP bs (j + 1)) hI2 hnx
      clear hE0 hE' hF1 hnx
      subst hE
      rw [n1]
      obtain ⟨K, hK⟩ : ∃ x, rdK bs (P : Int) = x := ⟨_, rfl⟩
      obtain ⟨S, hS⟩ : ∃ x, rdS bs (P : Int) = x := ⟨_, rfl⟩
      obtain ⟨D, hD'⟩ : ∃ x, rdB bs (P : Int) = x := ⟨_, rfl⟩
      obtain ⟨P', hP'⟩ : ∃ x, scP bs (j + 1) = x := ⟨_, rfl⟩
      rw [hK] at hf0 hw2 hy
      rw [hS] at hf1 hw2 hy
      rw [hD'] at hf2 hw2 hy
      rw [hP'] at hy n2 n3
      rw [hK, hS, hD', hP']
      have HP' := hide hP'
      rw [← hw2] at hy hR hf0 hf1 hf2
      clear hK hS hD' hP' n1 hw2
      gi_wp2
      refine hR.mono ?_
      rintro e W3 ⟨rfl, Bd3, hI3⟩
      gi_wp2
      go_roundw
      case rel => exact ⟨j + 1, Bd3, by rw [HP'.out], hI3⟩
      case measure => simp [intOf]; omega
    · have hE0 : rdE bs (P : Int) ≠ 0 := fun h => hE (hE'.symm.trans h)
      have q1 : (E != 0) = true := by simpa using hE
      have hend : Ends bs j := ⟨hgd, by rw [HP.out]; exact hE0⟩
      have Hw2 := hide hw2
      clear hw2 hE' hE0 hf0 hf1 hf2
      gi_wp2
      all_goals
        refine ⟨fun _ h => (by cases h), ?_⟩
        gi_wp2
        rw [Hw2.out]
        refine bodyPost_ret (results_none rfl _ _ _) rfl ?_
        exact ⟨⟨_, rfl⟩, j, _, hend, hI2⟩
end Go.Proofs.YtaenoonadodbnaaDoor
