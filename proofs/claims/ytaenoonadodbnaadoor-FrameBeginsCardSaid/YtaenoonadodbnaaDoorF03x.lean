/- Rows of frames in memory; plinthref03.Scan. -/
import Derived.Test.YtaenoonadodbnaaDoorF03r
import Derived.Test.YtaenoonadodbnaaDoorF03s
namespace Go.Proofs.YtaenoonadodbnaaDoor
open Go.RowKit Go.Px
set_option linter.unusedVariables false
theorem own_lt3 {w : World} {base e size n : Nat} {v : Value} {xs : List Value} (h : w.ownsRow base e size v n xs) : ∀ g, v.ownBlock = some g → base ≤ g ∧ g < w.heap.size := by
  intro g hg
  rcases h.2 with ⟨rfl, _⟩ | ⟨g', cap, cur, rfl, hbg, hgg, _⟩
  · simp [Value.ownBlock] at hg
  · simp [Value.ownBlock] at hg
    subst hg
    exact ⟨hbg, (Array.getElem?_eq_some_iff.1 hgg).1⟩
/-- The cells of a frame at place j of a row of frames; Q: which blocks its body may lie in. -/
def FrAt (w : World) (Q : Nat → Prop) (cs : List Value) (j : Nat) (p : Nat × Nat × List UInt8) : Prop :=
  ∃ A n c, cs[3 * j]? = some (.int .u8 p.1) ∧ cs[3 * j + 1]? = some (.int .u64 p.2.1) ∧ cs[3 * j + 2]? = some (.slice A n c) ∧ p.2.2.length = n ∧ n ≤ c ∧ c ≤ 9223372036854775807 ∧ Rd w A (bys p.2.2) ∧ ∀ a, A = some a → Q a.block
def FrRows (w : World) (Q : Nat → Prop) (cs : List Value) (ps : List (Nat × Nat × List UInt8)) : Prop := cs.length = 3 * ps.length ∧ ∀ j p, ps[j]? = some p → FrAt w Q cs j p
theorem FrRows.nil {w : World} {Q : Nat → Prop} : FrRows w Q [] [] := ⟨rfl, fun j p h => by simp at h⟩
theorem FrRows.keep {w w' : World} {Q Q' : Nat → Prop} {cs : List Value} {ps : List (Nat × Nat × List UInt8)} (h : FrRows w Q cs ps) (hk : ∀ A xs, Rd w A xs → (∀ a, A = some a → Q a.block) → Rd w' A xs) (hQ : ∀ B, Q B → Q' B) : FrRows w' Q' cs ps :=
  ⟨h.1, fun j p hp => by obtain ⟨A, n, c, h1, h2, h3, h4, h5, h6, h7, h8⟩ := h.2 j p hp; exact ⟨A, n, c, h1, h2, h3, h4, h5, h6, hk _ _ h7 h8, fun a ha => hQ _ (h8 a ha)⟩⟩
theorem FrRows.below {w w' : World} {Q : Nat → Prop} {cs : List Value} {ps : List (Nat × Nat × List UInt8)} (h : FrRows w Q cs ps) (hb : Below w.heap.size w w') : FrRows w' Q cs ps := h.keep (fun A xs hr _ => hr.below hb) (fun _ h => h)
theorem FrRows.snoc {w : World} {Q : Nat → Prop} {cs : List Value} {ps : List (Nat × Nat × List UInt8)} (h : FrRows w Q cs ps) {i v : Nat} {A : Option Addr} {n c : Nat} {d : List UInt8} (hn : d.length = n) (hc : n ≤ c) (h63 : c ≤ 9223372036854775807) (hr : Rd w A (bys d)) (hq : ∀ a, A = some a → Q a.block) :
    FrRows w Q (cs ++ [.int .u8 i, .int .u64 v, .slice A n c]) (ps ++ [(i, v, d)]) := by
  have hl := h.1
  refine ⟨by simp [hl]; omega, fun j p hp => ?_⟩
  by_cases hlt : j < ps.length
  · rw [List.getElem?_append_left hlt] at hp
    obtain ⟨A', n', c', h1, h2, h3, h4⟩ := h.2 j p hp
    exact ⟨A', n', c', by rw [List.getElem?_append_left (by omega)]; exact h1, by rw [List.getElem?_append_left (by omega)]; exact h2, by rw [List.getElem?_append_left (by omega)]; exact h3, h4⟩
  · have hj : j = ps.length := by
      have := (List.getElem?_eq_some_iff.1 hp).1
      simp at this; omega
    subst hj
    simp at hp
    subst hp
    refine ⟨A, n, c, ?_, ?_, ?_, hn, hc, h63, hr, hq⟩
    · rw [← hl]; simp
    · rw [← hl, List.getElem?_append_right (by omega), show cs.length + 1 - cs.length = 1 by omega]; rfl
    · rw [← hl, List.getElem?_append_right (by omega), show cs.length + 2 - cs.length = 2 by omega]; rfl
/-- The place behind the first frames, and these. -/
def scP (bs : List UInt8) : Nat → Nat
  | 0 => 0
  | j + 1 => (rdN bs (scP bs j)).toNat
def frOf (bs : List UInt8) (p : Nat) : Nat × Nat × List UInt8 := (rdK bs p, rdS bs p, rdB bs p)
def scF (bs : List UInt8) : Nat → List (Nat × Nat × List UInt8)
  | 0 => []
  | j + 1 => scF bs j ++ [frOf bs (scP bs j)]
theorem scF_length (bs : List UInt8) : ∀ j, (scF bs j).length = j
  | 0 => rfl
  | j + 1 => by unfold scF; simp [scF_length bs j]
theorem rd_step {bs : List UInt8} {p : Nat} (h : rdE bs (p : Int) = 0) : ∃ q : Nat, rdN bs p = q ∧ p + 20 ≤ q ∧ q ≤ bs.length ∧ (rdB bs p).length ≤ bs.length := by
  have h' := h
  unfold rdE at h'
  split at h'
  · rename_i hp
    have hl : lenE (bs.drop p) = 0 := by
      unfold frE at h'
      simp only [Int.toNat_natCast] at h'
      split at h'
      · rename_i hh; exact absurd h' hh
      · rename_i hh; exact Classical.not_not.1 hh
    have hle := (lenE_le hl).1
    rw [List.length_drop] at hle
    refine ⟨p + (bodyN (bs.drop p) + 20), ?_, by omega, by omega, ?_⟩
    · unfold rdN; rw [if_pos h, Int.toNat_natCast]; simp
    · unfold rdB; rw [if_pos h, List.length_take, List.length_drop, List.length_drop]; omega
  · cases h'
theorem scP_succ {bs : List UInt8} {j : Nat} (h : rdE bs (scP bs j : Nat) = 0) : rdN bs (scP bs j : Nat) = (scP bs (j + 1) : Nat) ∧ scP bs j + 20 ≤ scP bs (j + 1) ∧ scP bs (j + 1) ≤ bs.length ∧ (rdB bs (scP bs j : Nat)).length ≤ bs.length := by
  obtain ⟨q, h1, h2, h3, h4⟩ := rd_step h
  have e : scP bs (j + 1) = q := by show (rdN bs (scP bs j)).toNat = q; rw [h1]; rfl
  rw [e]
  exact ⟨h1, h2, h3, h4⟩
/-- Where the frames end. -/
def Ends (bs : List UInt8) (J : Nat) : Prop := (∀ t, t < J → rdE bs (scP bs t : Nat) = 0) ∧ rdE bs (scP bs J : Nat) ≠ 0
theorem Ends.one {bs : List UInt8} {J K : Nat} (h : Ends bs J) (k : Ends bs K) : J = K := by
  rcases Nat.lt_trichotomy J K with hl | hl | hl
  · exact absurd (k.1 J hl) h.2
  · exact hl
  · exact absurd (h.1 K hl) k.2
theorem tFrames : SlT Tryd.prog 35 25 3 40 := slT_mk Tryd.underlying35 (z := .agg #[.int .u8 0, .int .u64 0, .slice none 0 0]) (by kernel_rfl) rfl (by decide)
set_option maxHeartbeats 3200000 in
theorem rscan_any (A : Option Addr) (m c : Nat) (bs : List UInt8) (w : World) (hm : bs.length = m) (hm8 : m ≤ 16384) (hmc : m ≤ c) (hc : c ≤ 9223372036854775807) (hr : Rd w A (bys bs)) :
    Calls Tryd.prog 19 #[.slice A m c] w fun e w' => ∃ J o cs, e = .returned (.tuple #[o, .int .i64 (scP bs J : Nat)]) ∧ Ends bs J ∧ w'.ownsRow w.heap.size 25 3 o J cs ∧ FrRows w' (fun B => w.heap.size ≤ B ∧ B < w'.heap.size ∧ some B ≠ o.ownBlock) cs (scF bs J) ∧ Below w.heap.size w w' := by
  have Hm := hide hm
  clear hm
  go_enter Tryd.func19, Tryd.ntmps19
  go_wp2
  go_loopw [4, 5] (fun o i wr => ∃ (j : Nat) (cs : List Value), (∀ t, t < j → rdE bs (scP bs t : Nat) = 0) ∧ 20 * j ≤ scP bs j ∧ scP bs j ≤ m ∧ i = .int .i64 (scP bs j : Nat) ∧ wr.ownsRow w.heap.size 25 3 o j cs ∧ FrRows wr (fun B => w.heap.size ≤ B ∧ B < wr.heap.size ∧ some B ≠ o.ownBlock) cs (scF bs j) ∧ Below w.heap.size w wr) (fun _ i _ => m - (intOf i).toNat)
  case atStart => exact ⟨0, [], fun t ht => by omega, by omega, by show 0 ≤ m; omega, rfl, World.ownsRow_nil _ _ _ _, FrRows.nil, Below.refl _ _⟩
  case round =>
    obtain ⟨j, cs, hgd, h20, hpm, rfl, hown, hF, hbw⟩ := hrel
    obtain ⟨P, hP⟩ : ∃ P, scP bs j = P := ⟨_, rfl⟩
    rw [hP] at h20 hpm
    have HP := hide hP
    have hszw := hbw.size
    rw [hP]
    clear hP
    go_wp2_with fail
    go_fit (rread_any A m c bs (P : Int) wr Hm.out (by omega) hmc hc (hr.below hbw) (by omega) (by omega))
    rintro x w1 ⟨v, rfl, ho1, hb1⟩
    obtain ⟨A1, c1, rfl, _, hc1, hcm1, hr1, ha1⟩ := own_out ho1
    have hb01 := hbw.trans (hb1.mono hszw)
    have hown1 := own_below hown hb1
    have hlo := own_lt3 hown
    have hsz1 := hb1.size
    obtain ⟨E, hE'⟩ : ∃ E, rdE bs (P : Int) = E := ⟨_, rfl⟩
    have HE := hide hE'
    rw [hE']
    by_cases hE : E = 0
    · have hE0 : rdE bs (P : Int) = 0 := hE'.trans hE
      obtain ⟨n1, n2, n3, n4⟩ := scP_succ (bs := bs) (j := j) (by rw [HP.out]; exact hE0)
      rw [HP.out] at n1 n2 n4
      rw [Hm.out] at n3 n4
      have hgd' : ∀ t, t < j + 1 → rdE bs (scP bs t : Nat) = 0 := fun t ht => by
        rcases Nat.lt_or_ge t j with h | h
        · exact hgd t h
        · obtain rfl : t = j := by omega
          rw [HP.out]; exact hE0
      have hF1 : scF bs (j + 1) = scF bs j ++ [(rdK bs (P : Int), rdS bs (P : Int), rdB bs (P : Int))] := by
        show scF bs j ++ [frOf bs (scP bs j)] = _
        rw [HP.out]; rfl
      have HF1 := hide hF1
      clear hF1 hE0 hE'
      subst hE
      rw [n1]
      obtain ⟨K, hK⟩ : ∃ x, rdK bs (P : Int) = x := ⟨_, rfl⟩
      obtain ⟨S, hS⟩ : ∃ x, rdS bs (P : Int) = x := ⟨_, rfl⟩
      obtain ⟨D, hD⟩ : ∃ x, rdB bs (P : Int) = x := ⟨_, rfl⟩
      rw [hK, hS, hD] at HF1
      rw [hD] at hr1 hc1 ho1 n4
      rw [hK, hS, hD]
      clear hK hS hD n1
      obtain ⟨P', hP'⟩ : ∃ x, scP bs (j + 1) = x := ⟨_, rfl⟩
      rw [hP'] at n2 n3
      rw [hP']
      have HP' := hide hP'
      clear hP' ho1
      obtain ⟨L, hL⟩ : ∃ x, scF bs j = x := ⟨_, rfl⟩
      rw [hL] at hF HF1
      clear hL
      -- the frame in its box, and in the row of one
      obtain ⟨w3, hw3⟩ : ∃ x, (w1.alloc (.cells #[.int .u8 K, .int .u64 S, .slice A1 D.length c1] 25)).alloc (.cells #[.int .u8 K, .int .u64 S, .slice A1 D.length c1] 25) = x := ⟨_, rfl⟩
      have hb13 : Below w1.heap.size w1 w3 := by rw [← hw3]; exact ((Below.refl _ _).alloc (Nat.le_refl _) _).alloc (by simp) _
      have hsz3 : w1.heap.size + 1 + 1 = w3.heap.size := by rw [← hw3]; simp
      have hnew : Rd w3 (some ⟨w1.heap.size + 1, 0, none⟩) [.int .u8 K, .int .u64 S, .slice A1 D.length c1] := by
        rw [← hw3]
        have := Rd.newN (w1.alloc (.cells #[.int .u8 K, .int .u64 S, .slice A1 D.length c1] 25)) [.int .u8 K, .int .u64 S, .slice A1 D.length c1] 25 (0, 0)
        rwa [World.size_alloc] at this
      have hbw3 : Below wr.heap.size wr w3 := hb1.trans (hb13.mono hb1.size)
      have hown3 := own_below hown hbw3
      have hr3 := hr1.below hb13
      have Hw3 := hide hw3
      clear hw3
      go_wp2_with (first | (with_reducible refine stop_append rfl ?_) | (with_reducible refine stop_copy rfl ?_) | (with_reducible refine stop_make rfl ?_))
      rw [Hw3.out]
      refine go_append (v := u4) rfl rfl tFrames rfl hown3 rfl (m := 1) (news := [.int .u8 K, .int .u64 S, .slice A1 D.length c1]) rfl hnew (by intro u hu; simp at hu; rcases hu with rfl | rfl | rfl <;> rfl) (by omega) (by omega) (by omega) ?_
      intro v5 w5 hown5 hg5 hv5
      have hsz5 := hg5.size
      have hne : ∀ B, B < w3.heap.size → some B ≠ Value.ownBlock u4 → some B ≠ v5.ownBlock := fun B hB hB' e => by
        rcases hv5 with e' | e'
        · rw [e'] at e; exact hB' e
        · rw [e'] at e; injection e with e; omega
      have hne3 : ∀ a, A1 = some a → some a.block ≠ Value.ownBlock u4 := fun a ha e => by
        have h1 := hlo _ e.symm
        have h2 := ha1 a ha
        omega
      have hF5 : FrRows w5 (fun B => w.heap.size ≤ B ∧ B < w5.heap.size ∧ some B ≠ v5.ownBlock) (cs ++ [.int .u8 K, .int .u64 S, .slice A1 D.length c1]) (L ++ [(K, S, D)]) :=
        (hF.keep (fun A xs hr hq => (hr.below hbw3).grown hg5 (fun a ha => (hq a ha).2.2)) (fun B hB => ⟨hB.1, by have := hB.2.1; omega, hne B (by have := hB.2.1; omega) hB.2.2⟩)).snoc rfl hc1 (by unfold maxLen at hcm1; omega) (hr3.grown hg5 hne3)
          (fun a ha => ⟨by have := ha1 a ha; omega, by have := ha1 a ha; omega, hne _ (by have := ha1 a ha; omega) (hne3 a ha)⟩)
      have hb5 : Below w.heap.size w w5 := (hbw.trans (hbw3.mono hszw)).grown hg5 (by omega) (fun g hg => (hlo g hg).1)
      go_wp2
      go_roundw
      case rel => exact ⟨j + 1, _, hgd', by rw [HP'.out]; omega, by rw [HP'.out]; exact n3, by rw [HP'.out], hown5, by rw [HF1.out]; exact hF5, hb5⟩
      case measure => simp [intOf]; omega
    · have hE0 : rdE bs (P : Int) ≠ 0 := fun h => hE (hE'.symm.trans h)
      have q1 : (E != 0) = true := by simpa using hE
      have hend : Ends bs j := ⟨hgd, by rw [HP.out]; exact hE0⟩
      have hF1 : FrRows w1 (fun B => w.heap.size ≤ B ∧ B < w1.heap.size ∧ some B ≠ Value.ownBlock u4) cs (scF bs j) := hF.keep (fun A xs hr _ => hr.below hb1) (fun B hB => ⟨hB.1, by have := hB.2.1; omega, hB.2.2⟩)
      have hbX : Below w1.heap.size w1 (w1.alloc (.cells #[.int .u8 (rdK bs (P : Int)), .int .u64 (rdS bs (P : Int)), .slice A1 (rdB bs (P : Int)).length c1] 25)) := (Below.refl _ _).alloc (Nat.le_refl _) _
      have hF2 : FrRows (w1.alloc (.cells #[.int .u8 (rdK bs (P : Int)), .int .u64 (rdS bs (P : Int)), .slice A1 (rdB bs (P : Int)).length c1] 25)) (fun B => w.heap.size ≤ B ∧ B < (w1.alloc (.cells #[.int .u8 (rdK bs (P : Int)), .int .u64 (rdS bs (P : Int)), .slice A1 (rdB bs (P : Int)).length c1] 25)).heap.size ∧ some B ≠ Value.ownBlock u4) cs (scF bs j) := hF1.keep (fun A xs hr _ => hr.below hbX) (fun B hB => ⟨hB.1, by have := hB.2.1; simp; omega, hB.2.2⟩)
      have hown2 := own_below hown1 hbX
      have hb02 := hb01.trans (hbX.mono hb01.size)
      obtain ⟨A4, c4, rfl, _, _, _, _, _⟩ := own_out hown
      clear hE' hE0
      go_wp2
      go_ret2
      exact ⟨j, _, cs, by rw [HP.out]; rfl, hend, hown2, hF2, hb02⟩
end Go.Proofs.YtaenoonadodbnaaDoor
