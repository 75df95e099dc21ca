/- Texts joined (shake.py). -/
import Derived.Deep.RegionWith
import Derived.IntWalk
import Derived.Deep.RegionHeldLaw
import Derived.Deep.RegionLaw
import Derived.Test.YtlcbelmbonaooaaK71
import Derived.Test.YtlcbelmbonaooaaK74
import Derived.Test.YtlcbelmbonaooaaK75
namespace Go.Proofs.Ytlcbelmbonaooaa
set_option maxRecDepth 20000
open Go.RowKit Go.Px
set_option linter.unusedVariables false
theorem tPages : SlT Try.prog 52 119 3 40 := slT_mk Try.underlying52 (z := .agg #[.int .i64 0, .int .i64 0, .slice none 0 0]) (by kernel_rfl) rfl (by decide)
def pgB (vs : List Int) (since : Int) (i : Nat) : Bool := decide (since < vs.getD i 0) && decide (0 < vs.getD i 0)
end Go.Proofs.Ytlcbelmbonaooaa
namespace Go.Proofs.Ytlcbelmbonaooaa
set_option maxRecDepth 20000
open Go.RowKit Go.Px
set_option linter.unusedVariables false
/-- The cells of a page (its place, its version, its data), at place j of a row of pages; Q: which blocks its data may lie in. -/
def PgAt (w : World) (Q : Nat → Prop) (cs : List Value) (j : Nat) (p : Int × Int × List UInt8) : Prop :=
  ∃ A n c, cs[3 * j]? = some (.int .i64 p.1) ∧ cs[3 * j + 1]? = some (.int .i64 p.2.1) ∧ cs[3 * j + 2]? = some (.slice A n c) ∧ p.2.2.length = n ∧ n ≤ c ∧ c ≤ 9223372036854775807 ∧ Rd w A (bys p.2.2) ∧ ∀ a, A = some a → Q a.block
def PgRows (w : World) (Q : Nat → Prop) (cs : List Value) (ps : List (Int × Int × List UInt8)) : Prop := cs.length = 3 * ps.length ∧ ∀ j p, ps[j]? = some p → PgAt w Q cs j p
theorem PgRows.nil {w : World} {Q : Nat → Prop} : PgRows w Q [] [] := ⟨rfl, fun j p h => by simp at h⟩
theorem PgRows.keep {w w' : World} {Q Q' : Nat → Prop} {cs : List Value} {ps : List (Int × Int × List UInt8)} (h : PgRows w Q cs ps) (hk : ∀ A xs, Rd w A xs → (∀ a, A = some a → Q a.block) → Rd w' A xs) (hQ : ∀ B, Q B → Q' B) : PgRows w' Q' cs ps :=
  ⟨h.1, fun j p hp => by obtain ⟨A, n, c, h1, h2, h3, h4, h5, h6, h7, h8⟩ := h.2 j p hp; exact ⟨A, n, c, h1, h2, h3, h4, h5, h6, hk _ _ h7 h8, fun a ha => hQ _ (h8 a ha)⟩⟩
theorem PgRows.below {w w' : World} {Q : Nat → Prop} {cs : List Value} {ps : List (Int × Int × List UInt8)} (h : PgRows w Q cs ps) (hb : Below w.heap.size w w') : PgRows w' Q cs ps := h.keep (fun A xs hr _ => hr.below hb) (fun _ h => h)
theorem PgRows.snoc {w : World} {Q : Nat → Prop} {cs : List Value} {ps : List (Int × Int × List UInt8)} (h : PgRows w Q cs ps) {i v : Int} {A : Option Addr} {n c : Nat} {d : List UInt8} (hn : d.length = n) (hc : n ≤ c) (h63 : c ≤ 9223372036854775807) (hr : Rd w A (bys d)) (hq : ∀ a, A = some a → Q a.block) :
    PgRows w Q (cs ++ [.int .i64 i, .int .i64 v, .slice A n c]) (ps ++ [(i, v, d)]) := by
  have hl := h.1
  refine ⟨by simp [hl]; omega, fun j p hp => ?_⟩
  by_cases hlt : j < ps.length
  · rw [List.getElem?_append_left hlt] at hp
    obtain ⟨A', n', c', h1, h2, h3, h4⟩ := h.2 j p hp
    exact ⟨A', n', c', by rw [List.getElem?_append_left (by omega)]; exact h1, by rw [List.getElem?_append_left (by omega)]; exact h2, by rw [List.getElem?_append_left (by omega)]; exact h3, h4⟩
  · have hj : j = ps.length := by
      have := (List.getElem?_eq_some_iff.1 hp).1
      simp at this; omega
    subst hj
    simp at hp
    subst hp
    refine ⟨A, n, c, ?_, ?_, ?_, hn, hc, h63, hr, hq⟩
    · rw [← hl]; simp
    · rw [← hl, List.getElem?_append_right (by omega), show cs.length + 1 - cs.length = 1 by omega]; rfl
    · rw [← hl, List.getElem?_append_right (by omega), show cs.length + 2 - cs.length = 2 by omega]; rfl
/-- The pages that were changed since a number, of the first blocks. -/
def pgL (z : Nat) (bs : List UInt8) (vs : List Int) (since : Int) : Nat → List (Int × Int × List UInt8)
  | 0 => []
  | k + 1 => if pgB vs since k = true then pgL z bs vs since k ++ [((k : Int), vs.getD k 0, segB bs k 1 z)] else pgL z bs vs since k
end Go.Proofs.Ytlcbelmbonaooaa
namespace Go.Proofs.Ytlcbelmbonaooaa
set_option maxRecDepth 20000
open Go.RowKit Go.Px
set_option linter.unusedVariables false
def mpA (b z : Int) : Int → List (Int × Int × List UInt8) → Bool
  | _, [] => true
  | ah, p :: r => decide (¬ p.1 ≤ ah ∧ ¬ b ≤ p.1 ∧ serB p.2.1 = true ∧ (p.2.2.length : Int) = z) && mpA b z p.1 r
theorem mpA_yes {b z ah : Int} {p : Int × Int × List UInt8} {r : List (Int × Int × List UInt8)} (h : ¬ p.1 ≤ ah ∧ ¬ b ≤ p.1 ∧ serB p.2.1 = true ∧ (p.2.2.length : Int) = z) : mpA b z ah (p :: r) = mpA b z p.1 r := by
  unfold mpA; rw [decide_eq_true h, Bool.true_and]; cases r <;> rfl
theorem mpA_no {b z ah : Int} {p : Int × Int × List UInt8} {r : List (Int × Int × List UInt8)} (h : ¬ (¬ p.1 ≤ ah ∧ ¬ b ≤ p.1 ∧ serB p.2.1 = true ∧ (p.2.2.length : Int) = z)) : mpA b z ah (p :: r) = false := by
  unfold mpA; rw [decide_eq_false h, Bool.false_and]
theorem rd3_0 {w : World} {a : Addr} {cs : List Value} (hat : ∀ j u, cs[j]? = some u → w.cell? (a.add j) = some u) {k : Nat} {u : Value} (h : cs[3 * k]? = some u) : w.cell? (a.add (k * 3)) = some u := by
  rw [Nat.mul_comm]; exact hat _ _ h
theorem rd3_S {w : World} {a : Addr} {cs : List Value} (hat : ∀ j u, cs[j]? = some u → w.cell? (a.add j) = some u) {k i : Nat} {u : Value} (h : cs[3 * k + (i + 1)]? = some u) : w.cell? ⟨(a.add (k * 3)).block, (a.add (k * 3)).off + (i + 1), none⟩ = some u := by
  have := hat _ _ h
  have e : a.add (3 * k + (i + 1)) = ⟨(a.add (k * 3)).block, (a.add (k * 3)).off + (i + 1), none⟩ := by
    unfold Addr.add
    rw [if_neg (by omega)]
    split
    · rename_i h0
      rw [show 3 * k + (i + 1) = i + 1 by omega]
    · show (⟨a.block, a.off + (3 * k + (i + 1)), none⟩ : Addr) = ⟨a.block, a.off + k * 3 + (i + 1), none⟩
      rw [show a.off + (3 * k + (i + 1)) = a.off + k * 3 + (i + 1) by omega]
  rw [← e]; exact this
set_option maxHeartbeats 3200000 in
theorem mayPages_any (b z : Int) (A : Option Addr) (n c : Nat) (cs : List Value) (ps : List (Int × Int × List UInt8)) (Q : Nat → Prop) (w : World) (hn : ps.length = n) (hnc : n ≤ c) (hc : c ≤ 9223372036854775807) (hr : Rd w A cs) (hP : PgRows w Q cs ps) :
    Calls Try.prog 88 #[shp b z, .slice A n c] w fun e w' => e = .returned (.bool (mpA b z (-1) ps)) ∧ Below w.heap.size w w' := by
  obtain ⟨w0, hw0⟩ : ∃ w0, w.alloc (.cells #[.int .i64 b, .int .i64 z] 51) = w0 := ⟨_, rfl⟩
  obtain ⟨g, hg⟩ : ∃ g, w.heap.size = g := ⟨_, rfl⟩
  have hS : Blk w0 g [.int .i64 b, .int .i64 z] 51 := by rw [← hw0, ← hg]; exact Blk.new w [.int .i64 b, .int .i64 z] _
  have hb0 : Below w.heap.size w w0 := by rw [← hw0]; exact (Below.refl _ _).alloc (Nat.le_refl _) _
  have hr0 := hr.below hb0
  have hP0 := hP.below hb0
  have hl := hP.1
  have Hw0 := hide hw0
  go_enter Try.func88, Try.ntmps88
  go_wp2
  clear hw0
  go_loopw [5, 10] (fun a i wr => ∃ (k : Nat) (ah : Int), k ≤ n ∧ i = .int .i64 k ∧ a = .int .i64 ah ∧ mpA b z (-1) ps = mpA b z ah (ps.drop k) ∧ Below w0.heap.size w0 wr) (fun _ i _ => n - (intOf i).toNat)
  case atStart => exact ⟨0, -1, by omega, rfl, rfl, rfl, Below.refl _ _⟩
  case round =>
    obtain ⟨k, ah, hk, rfl, rfl, hm, hB⟩ := hrel
    have hbx : Below w.heap.size w wr := hb0.trans (hB.mono hb0.size)
    have hbx' : Below g w wr := by rw [← hg]; exact hbx
    by_cases hlt : k < n
    · obtain ⟨p, hp⟩ : ∃ p, ps[k]? = some p := ⟨_, List.getElem?_eq_getElem (by omega)⟩
      obtain ⟨A', m, c', h1, h2, h3, h4, h5, h6, h7, h8⟩ := (hP0.below hB).2 k p hp
      obtain ⟨a, rfl, hat⟩ := (hr0.below hB).some_of (xs := cs) (by omega)
      have y0 := rd3_0 hat h1
      have y1 := rd3_S (i := 0) hat h2
      have y2 := rd3_S (i := 1) hat h3
      have hd : ps.drop k = p :: ps.drop (k + 1) := by
        rw [List.drop_eq_getElem_cons (by omega)]
        rw [List.getElem?_eq_getElem (by omega)] at hp
        injection hp with hp
        rw [hp]
      obtain ⟨p1, p2, pd⟩ := p
      simp only at h1 h2 h4 h7 y0 y1
      rw [hd] at hm
      have x0 := ((hS.below hB).alloc (.cells #[.int .i64 p1, .int .i64 p2, .slice A' m c'] 119)).cell (j := 0) rfl
      have x1 := ((hS.below hB).alloc (.cells #[.int .i64 p1, .int .i64 p2, .slice A' m c'] 119)).cell (j := 1) rfl
      have hsz := hB.size
      have hgl := hS.lt
      by_cases c1 : p1 ≤ ah
      · have hf := hide (hm.trans (mpA_no (fun hh => hh.1 c1)))
        clear hm hd
        go_wp2
        go_ret
        exact ⟨by rw [hf.out]; rfl, by first | exact hbx.alloc (by omega) _ | exact hbx'.alloc (by omega) _⟩
      · by_cases c2 : b ≤ p1
        · have hf := hide (hm.trans (mpA_no (fun hh => hh.2.1 c2)))
          clear hm hd
          go_wp2
          go_ret
          exact ⟨by rw [hf.out]; rfl, by first | exact hbx.alloc (by omega) _ | exact hbx'.alloc (by omega) _⟩
        · go_wp2_with fail
          go_fit (serial_any p2 _)
          cases c3 : serB p2 with
          | false =>
            have hf := hide (hm.trans (mpA_no (fun hh => by have := hh.2.2.1; simp only at this; rw [c3] at this; cases this)))
            clear hm hd c3
            rintro x w1 ⟨rfl, rfl⟩
            go_wp2
            go_ret
            exact ⟨by rw [hf.out]; rfl, by first | exact hbx.alloc (by omega) _ | exact hbx'.alloc (by omega) _⟩
          | true =>
            by_cases c4 : (m : Int) = z
            · have hf := hide (hm.trans (mpA_yes ⟨by show ¬ p1 ≤ ah; omega, by show ¬ b ≤ p1; omega, c3, by show (pd.length : Int) = z; rw [h4]; exact c4⟩))
              clear hm hd c3
              rintro x w1 ⟨rfl, rfl⟩
              go_wp2
              go_roundw
              case rel => exact ⟨k + 1, p1, by omega, by go_num, rfl, hf.out, hB.alloc hB.size _⟩
              case measure => simp [intOf]; omega
            · have hf := hide (hm.trans (mpA_no (fun hh => c4 (by have := hh.2.2.2; simp only at this; rw [h4] at this; exact this))))
              clear hm hd c3
              rintro x w1 ⟨rfl, rfl⟩
              go_wp2
              go_ret
              exact ⟨by rw [hf.out]; rfl, by first | exact hbx.alloc (by omega) _ | exact hbx'.alloc (by omega) _⟩
    · obtain rfl : k = n := by omega
      have hf := hide (hm.trans (by rw [List.drop_eq_nil_of_le (by omega)]; rfl : mpA b z ah (ps.drop k) = true))
      clear hm
      go_wp2
      go_ret
      exact ⟨by rw [hf.out]; rfl, by first | exact hbx | exact hbx'⟩
end Go.Proofs.Ytlcbelmbonaooaa
namespace Go.Proofs.Ytlcbelmbonaooaa
set_option maxRecDepth 20000
open Go.RowKit Go.Px
set_option linter.unusedVariables false
def layB (z : Nat) (bs : List UInt8) (ps : List (Int × Int × List UInt8)) : List UInt8 := ps.foldl (fun x p => splB x (p.1.toNat * z) p.2.2) bs
def layV (vs : List Int) (ps : List (Int × Int × List UInt8)) : List Int := ps.foldl (fun x p => x.set p.1.toNat p.2.1) vs
def layL (last : Int) (ps : List (Int × Int × List UInt8)) : Int := ps.foldl (fun x p => max x p.2.1) last
theorem Upd.drew {v r s : Nat} {w w' : World} (h : Upd v r s w w') : Upd v r s w w'.drew := h.trans (Upd.of_below (Below.refl _ _).drew)
/-- Pages that may be laid on a volume of b blocks of z bytes. -/
def Good (b z : Nat) (ps : List (Int × Int × List UInt8)) : Prop := ∀ (j : Nat) (p : Int × Int × List UInt8), ps[j]? = some p → ∃ P : Nat, p.1 = (P : Int) ∧ P < b ∧ p.2.2.length = z ∧ serB p.2.1 = true
theorem good_of_mpA {b z : Nat} : ∀ {ps : List (Int × Int × List UInt8)} {ah : Int}, -1 ≤ ah → mpA b z ah ps = true → Good b z ps
  | [], _, _, _ => fun j p h => by simp at h
  | p :: r, ah, ha, h => by
    by_cases hp : ¬ p.1 ≤ ah ∧ ¬ (b : Int) ≤ p.1 ∧ serB p.2.1 = true ∧ (p.2.2.length : Int) = z
    · rw [mpA_yes hp] at h
      obtain ⟨h1, h2, h3, h4⟩ := hp
      intro j q hq
      cases j with
      | zero =>
        simp at hq
        subst hq
        exact ⟨p.1.toNat, by omega, by omega, by omega, h3⟩
      | succ j => exact good_of_mpA (ah := p.1) (by omega) h j q (by simpa using hq)
    · rw [mpA_no hp] at h; cases h
end Go.Proofs.Ytlcbelmbonaooaa
namespace Go.Proofs.Ytlcbelmbonaooaa
set_option maxRecDepth 20000
open Go.RowKit Go.Px
set_option linter.unusedVariables false
theorem PgRows.drewN {w : World} {Q : Nat → Prop} {cs : List Value} {ps : List (Int × Int × List UInt8)} (h : PgRows w Q cs ps) (q : Nat) : PgRows (w.drewN q) Q cs ps := h.keep (fun A xs hr _ => hr.drewN q) (fun _ h => h)
set_option maxHeartbeats 3200000 in
theorem samePages_eq (A : Option Addr) (n c : Nat) (cs : List Value) (B : Option Addr) (d : Nat) (ds : List Value) (ps : List (Int × Int × List UInt8)) (Q Q' : Nat → Prop) (w : World) (hn : ps.length = n) (hnc : n ≤ c) (hc : c ≤ 9223372036854775807) (hr : Rd w A cs) (hr' : Rd w B ds) (hP : PgRows w Q cs ps) (hP' : PgRows w Q' ds ps) :
    Calls Try.prog 83 #[.slice A n c, .slice B n d] w fun e w' => e = .returned (.bool true) ∧ ∃ q, w' = w.drewN q := by
  have hl := hP.1
  have hl' := hP'.1
  have Hn := hide hn
  go_enter Try.func83, Try.ntmps83
  go_wp2
  go_loopw [5] (fun i wr => ∃ (k q : Nat), k ≤ n ∧ i = .int .i64 k ∧ wr = w.drewN q) (fun i _ => n - (intOf i).toNat)
  case atStart => exact ⟨0, 0, by omega, rfl, rfl⟩
  case round =>
    obtain ⟨k, q, hk, rfl, rfl⟩ := hrel
    by_cases hlt : k < n
    · obtain ⟨p, hp⟩ : ∃ p, ps[k]? = some p := ⟨_, List.getElem?_eq_getElem (by omega)⟩
      obtain ⟨A', m, c', h1, h2, h3, h4, h5, h6, h7, h8⟩ := hP.2 k p hp
      obtain ⟨B', m', d', i1, i2, i3, i4, i5, i6, i7, i8⟩ := hP'.2 k p hp
      obtain ⟨a, rfl, hat⟩ := hr.some_of (xs := cs) (by omega)
      obtain ⟨a', rfl, hat'⟩ := hr'.some_of (xs := ds) (by omega)
      obtain ⟨p1, p2, pd⟩ := p
      simp only at h1 h2 h4 h7 i1 i2 i4 i7
      have y0 := rd3_0 hat h1
      have y1 := rd3_S (i := 0) hat h2
      have y2 := rd3_S (i := 1) hat h3
      have z0 := rd3_0 hat' i1
      have z1 := rd3_S (i := 0) hat' i2
      have z2 := rd3_S (i := 1) hat' i3
      have cv1 : ∀ t, (convert 26 9 (.slice A' m c')).run Try.prog (w.drewN t) = .ok (.string (strOf pd)) (w.drewN t) := fun t => convB c' h4 (h7.drewN t)
      have cv2 : ∀ t, (convert 26 9 (.slice B' m' d')).run Try.prog (w.drewN t) = .ok (.string (strOf pd)) (w.drewN t) := fun t => convB d' i4 (i7.drewN t)
      go_wp2
      go_quiet (fail)
      all_goals
        go_wp2
        go_roundw
        case rel => exact ⟨k + 1, q + nq, by omega, by go_num, rfl⟩
        case measure => simp [intOf]; omega
    · obtain rfl : k = n := by omega
      go_wp2
      go_ret
      exact ⟨rfl, q, rfl⟩
end Go.Proofs.Ytlcbelmbonaooaa
namespace Go.Proofs.Ytlcbelmbonaooaa
set_option maxRecDepth 20000
open Go.RowKit Go.Px
set_option linter.unusedVariables false
theorem splB_getD {bs xs : List UInt8} {off : Nat} (h : off + xs.length ≤ bs.length) (j : Nat) : (splB bs off xs).getD j 0 = if off ≤ j ∧ j < off + xs.length then xs.getD (j - off) 0 else bs.getD j 0 := by
  unfold splB
  simp only [List.getD_eq_getElem?_getD]
  have h1 : (bs.take off).length = off := by rw [List.length_take]; omega
  by_cases c1 : j < off
  · rw [if_neg (by omega), List.append_assoc, List.getElem?_append_left (by omega), List.getElem?_take, if_pos c1]
  · by_cases c2 : j < off + xs.length
    · rw [if_pos ⟨by omega, c2⟩, List.getElem?_append_left (by simp [h1]; omega), List.getElem?_append_right (by omega), h1]
    · rw [if_neg (by omega), List.getElem?_append_right (by simp [h1]; omega), List.getElem?_drop]
      congr 2
      simp [h1]; omega
theorem stampL_getD (vs : List Int) (P : Nat) (num : Int) : ∀ M, P + M ≤ vs.length → ∀ i, (stampL vs P num M).getD i 0 = if P ≤ i ∧ i < P + M then num else vs.getD i 0
  | 0, _, i => by unfold stampL; rw [if_neg (by omega)]
  | M + 1, h, i => by
    have ih := stampL_getD vs P num M (by omega) i
    have hl := stampL_length vs P num M
    unfold stampL
    rw [List.getD_eq_getElem?_getD, List.getElem?_set]
    by_cases c : P + M = i
    · rw [if_pos c, if_pos (by omega), if_pos ⟨by omega, by omega⟩]; rfl
    · rw [if_neg c, ← List.getD_eq_getElem?_getD, ih]
      by_cases c1 : P ≤ i ∧ i < P + M
      · rw [if_pos c1, if_pos ⟨c1.1, by omega⟩]
      · rw [if_neg c1, if_neg (by omega)]
/-- What a request makes of a volume: nothing, or a run of blocks written and stamped. -/
theorem do_changes (b z : Nat) (bs : List UInt8) (vs : List Int) (last : Int) (k : Nat) (p n : Int) (ds os : List UInt8) (num : Int) :
    (doBE b z bs last k p n ds os num = bs ∧ doVE b z bs vs last k p n ds os num = vs) ∨
    ∃ P M xs, P + M ≤ b ∧ xs.length = M * z ∧ doBE b z bs last k p n ds os num = splB bs (P * z) xs ∧ doVE b z bs vs last k p n ds os num = stampL vs P num M ∧ serB num = true := by
  unfold doBE doVE
  by_cases hE : doE b z last k p n ds.length os.length num = 0
  · rw [if_pos hE, if_pos hE]
    unfold doB doV
    by_cases hW : doW b z bs k p n ds.length os = true
    · rw [if_pos hW, if_pos hW]
      have hn : serB num = true ∧ ¬ num < last := by
        unfold doE at hE
        split at hE
        · assumption
        · cases hE
      have hf : ftE b z k p n ds.length os.length = 0 := by
        unfold doE at hE
        rw [if_pos hn] at hE
        exact hE
      unfold doW at hW
      simp only [Bool.and_eq_true, decide_eq_true_eq, Bool.or_eq_true] at hW
      obtain ⟨hc, hk⟩ := hW
      obtain ⟨p1, n1, hg⟩ := fit_good hf hc
      refine .inr ⟨p.toNat, doN k n, doP z k n ds, ?_, ?_, rfl, rfl, hn.1⟩
      · unfold doN
        rcases hg with rfl | ⟨rfl, g1, g2, g3⟩ | ⟨hkk, g1, g2, g3, g4⟩
        · rcases hk with (h | h) | ⟨h, _⟩ <;> cases h
        · rw [if_pos rfl]; omega
        · rw [if_neg (by omega)]; omega
      · unfold doN doP
        rcases hg with rfl | ⟨rfl, g1, g2, g3⟩ | ⟨hkk, g1, g2, g3, g4⟩
        · rcases hk with (h | h) | ⟨h, _⟩ <;> cases h
        · show ds.length = 1 * z; omega
        · by_cases h3 : k = 3
          · subst h3; show (List.replicate (n.toNat * z) (0 : UInt8)).length = n.toNat * z; rw [List.length_replicate]
          · have h2 : k = 2 := by
              rcases hk with (h | h) | ⟨h, _⟩
              · exact h
              · exact absurd h h3
              · omega
            have := g4 h2
            rw [if_neg h3, if_neg (by omega)]
            obtain ⟨M, rfl⟩ := Int.eq_ofNat_of_zero_le n1
            have : ((ds.length : Nat) : Int) = ((M * z : Nat) : Int) := by rw [this]; simp
            show ds.length = M * z
            exact Int.ofNat_inj.1 this
    · rw [if_neg hW, if_neg hW]; exact .inl ⟨rfl, rfl⟩
  · rw [if_neg hE, if_neg hE]; exact .inl ⟨rfl, rfl⟩
theorem blk_out {i P M r z : Nat} (hr : r < z) : (P * z ≤ i * z + r ∧ i * z + r < P * z + M * z) ↔ P ≤ i ∧ i < P + M := by
  constructor
  · rintro ⟨h1, h2⟩
    constructor
    · rcases Nat.lt_or_ge i P with h | h
      · have := Nat.mul_le_mul_right z h
        rw [Nat.succ_mul] at this
        omega
      · exact h
    · rcases Nat.lt_or_ge i (P + M) with h | h
      · exact h
      · have := Nat.mul_le_mul_right z h
        rw [Nat.add_mul] at this
        omega
  · rintro ⟨h1, h2⟩
    have a1 := Nat.mul_le_mul_right z h1
    have a2 := Nat.mul_le_mul_right z h2
    rw [Nat.succ_mul, Nat.add_mul] at a2
    omega
/-- Since a number n: each block is as it was, or bears a later version. -/
def Since (b z : Nat) (n : Int) (bs : List UInt8) (vs : List Int) (bs' : List UInt8) (vs' : List Int) : Prop :=
  ∀ i, i < b → (vs'.getD i 0 = vs.getD i 0 ∧ ∀ r, r < z → bs'.getD (i * z + r) 0 = bs.getD (i * z + r) 0) ∨ n < vs'.getD i 0
theorem Since.refl (b z : Nat) (n : Int) (bs : List UInt8) (vs : List Int) : Since b z n bs vs bs vs := fun i hi => .inl ⟨rfl, fun r hr => rfl⟩
theorem Since.step {b z N : Nat} {n : Int} {bs0 : List UInt8} {vs0 : List Int} {bs : List UInt8} {vs : List Int} (h : Since b z n bs0 vs0 bs vs) (hb : bs.length = N) (hv : vs.length = b) (hN : b * z = N) (last : Int) (k : Nat) (p m : Int) (ds os : List UInt8) {num : Int} (hn : n < num) :
    Since b z n bs0 vs0 (doBE b z bs last k p m ds os num) (doVE b z bs vs last k p m ds os num) := by
  rcases do_changes b z bs vs last k p m ds os num with ⟨e1, e2⟩ | ⟨P, M, xs, hPM, hx, e1, e2, _⟩
  · rw [e1, e2]; exact h
  · rw [e1, e2]
    intro i hi
    rw [stampL_getD vs P num M (by omega)]
    by_cases c : P ≤ i ∧ i < P + M
    · rw [if_pos c]; exact .inr hn
    · rw [if_neg c]
      rcases h i hi with ⟨h1, h2⟩ | h1
      · refine .inl ⟨h1, fun r hr => ?_⟩
        have hfit : P * z + xs.length ≤ bs.length := by
          rw [hx, hb, ← hN, ← Nat.add_mul]; exact Nat.mul_le_mul_right z hPM
        rw [splB_getD hfit, hx, if_neg (by rw [blk_out hr]; exact c)]
        exact h2 r hr
      · exact .inr h1
end Go.Proofs.Ytlcbelmbonaooaa
namespace Go.Proofs.Ytlcbelmbonaooaa
set_option maxRecDepth 20000
open Go.RowKit Go.Px
set_option linter.unusedVariables false
section
variable {w w' : World} {lo rv gb gv cb cv b z N : Nat} {rows sv : List Value} {bs : List UInt8} {vs : List Int} {last : Int}
end
def RowsNew (b z B : Nat) (rows rows' : List Value) : Prop := ∀ i A c, i < b → rows'[i]? = some (.slice A z c) → rows[i]? = some (.slice A z c) ∨ ∀ a, A = some a → B ≤ a.block
theorem RowsNew.refl (b z B : Nat) (rows : List Value) : RowsNew b z B rows rows := fun i A c hi h => .inl h
theorem RowsNew.mono {b z B B' : Nat} {rows rows' : List Value} (h : RowsNew b z B rows rows') (hB : B' ≤ B) : RowsNew b z B' rows rows' := fun i A c hi h' => (h i A c hi h').imp id (fun h2 a ha => Nat.le_trans hB (h2 a ha))
theorem RowsNew.set {b z B : Nat} {rows rows' : List Value} (h : RowsNew b z B rows rows') {q : Nat} {A : Option Addr} {c : Nat} (hA : ∀ a, A = some a → B ≤ a.block) : RowsNew b z B rows (rows'.set q (.slice A z c)) := by
  intro i A' c' hi h'
  by_cases e : q = i
  · subst e
    by_cases hl : q < rows'.length
    · rw [List.getElem?_set_self hl] at h'
      injection h' with h'
      injection h' with e1 e2 e3
      subst e1
      exact .inr hA
    · rw [List.set_eq_of_length_le (by omega)] at h'
      exact h q A' c' hi h'
  · rw [List.getElem?_set_ne e] at h'
    exact h i A' c' hi h'
end Go.Proofs.Ytlcbelmbonaooaa
namespace Go.Proofs.Ytlcbelmbonaooaa
set_option maxRecDepth 20000
open Go.RowKit Go.Px
set_option linter.unusedVariables false
theorem Upd.drewN {v r s : Nat} {w w' : World} (h : Upd v r s w w') (q : Nat) : Upd v r s w (w'.drewN q) := ⟨h.os, h.tape, h.output, h.size, h.blk⟩
end Go.Proofs.Ytlcbelmbonaooaa
namespace Go.Proofs.Ytlcbelmbonaooaa
set_option maxRecDepth 20000
open Go.RowKit Go.Px
set_option linter.unusedVariables false
set_option maxHeartbeats 6400000 in
theorem rlaid_any (b z : Int) (A : Option Addr) (n c : Nat) (cs : List Value) (ps : List (Int × Int × List UInt8)) (Q : Nat → Prop) (w : World) (hn : ps.length = n) (hnc : n ≤ c) (hc : c ≤ 9223372036854775807) (hr : Rd w A cs) (hP : PgRows w Q cs ps) :
    Calls Try.prog 95 #[shp b z, .slice A n c] w fun e w' => e = .returned (.bool (mpA b z (-1) ps)) ∧ Below w.heap.size w w' := by
  obtain ⟨w0, hw0⟩ : ∃ w0, w.alloc (.cells #[.int .i64 b, .int .i64 z] 51) = w0 := ⟨_, rfl⟩
  obtain ⟨g, hg⟩ : ∃ g, w.heap.size = g := ⟨_, rfl⟩
  have hS : Blk w0 g [.int .i64 b, .int .i64 z] 51 := by rw [← hw0, ← hg]; exact Blk.new w [.int .i64 b, .int .i64 z] _
  have hb0 : Below w.heap.size w w0 := by rw [← hw0]; exact (Below.refl _ _).alloc (Nat.le_refl _) _
  have hr0 := hr.below hb0
  have hP0 := hP.below hb0
  have hl := hP.1
  have Hw0 := hide hw0
  go_enter Try.func95, Try.ntmps95
  go_wp2
  clear hw0
  go_loopw [5] (fun i wr => ∃ (k : Nat) (ah : Int), k ≤ n ∧ i = .int .i64 k ∧ mpA b z (-1) ps = mpA b z ah (ps.drop k) ∧ ((k = 0 ∧ ah = -1) ∨ (1 ≤ k ∧ 0 ≤ ah ∧ ∃ p, ps[k - 1]? = some p ∧ p.1 = ah)) ∧ Below w0.heap.size w0 wr) (fun i _ => n - (intOf i).toNat)
  case atStart => exact ⟨0, -1, by omega, rfl, rfl, .inl ⟨rfl, rfl⟩, Below.refl _ _⟩
  case round =>
    obtain ⟨k, ah, hk, rfl, hm, hah, hB⟩ := hrel
    have hbx : Below w.heap.size w wr := hb0.trans (hB.mono hb0.size)
    by_cases hlt : k < n
    · obtain ⟨p, hp⟩ : ∃ p, ps[k]? = some p := ⟨_, List.getElem?_eq_getElem (by omega)⟩
      obtain ⟨A', m, c', h1, h2, h3, h4, h5, h6, h7, h8⟩ := (hP0.below hB).2 k p hp
      obtain ⟨a, rfl, hat⟩ := (hr0.below hB).some_of (xs := cs) (by omega)
      have y0 := rd3_0 hat h1
      have y1 := rd3_S (i := 0) hat h2
      have y2 := rd3_S (i := 1) hat h3
      have hd : ps.drop k = p :: ps.drop (k + 1) := by
        rw [List.drop_eq_getElem_cons (by omega)]
        rw [List.getElem?_eq_getElem (by omega)] at hp
        injection hp with hp
        rw [hp]
      obtain ⟨p1, p2, pd⟩ := p
      simp only at h1 h2 h4 h7 y0 y1
      rw [hd] at hm
      obtain ⟨g1, hg1⟩ : ∃ g, wr.heap.size = g := ⟨_, rfl⟩
      obtain ⟨w1, hw1⟩ : ∃ x, wr.alloc (.cells #[.int .i64 p1, .int .i64 p2, .slice A' m c'] 119) = x := ⟨_, rfl⟩
      have hB1 : Blk w1 g1 [.int .i64 p1, .int .i64 p2, .slice A' m c'] 119 := by rw [← hw1, ← hg1]; exact Blk.new wr [.int .i64 p1, .int .i64 p2, .slice A' m c'] _
      have hb01 : Below wr.heap.size wr w1 := by rw [← hw1]; exact (Below.refl _ _).alloc (Nat.le_refl _) _
      have hS1 := (hS.below hB).below hb01
      have hBx : Below w0.heap.size w0 w1 := hB.trans (hb01.mono hB.size)
      have hbx1 : Below w.heap.size w w1 := hb0.trans (hBx.mono hb0.size)
      have Hw1 := hide hw1
      clear hw1
      have k0 := hB1.cell (j := 0) rfl
      have k1 := hB1.cell (j := 1) rfl
      have k2 := hB1.cell (j := 2) rfl
      have x0 := hS1.cell (j := 0) rfl
      have x1 := hS1.cell (j := 1) rfl
      have hat1 : ∀ j u, cs[j]? = some u → w1.cell? (a.add j) = some u := fun j u hu => cell_below hb01 (hat j u hu)
      by_cases c1 : p1 < 0
      · have hf := hide (hm.trans (mpA_no (fun hh => hh.1 (by show p1 ≤ ah; rcases hah with ⟨_, h⟩ | ⟨_, h, _⟩ <;> omega))))
        clear hm hd
        go_wp2_with fail
        rw [Hw1.out]
        go_quiet (fail)
        go_wp2
        go_ret
        exact ⟨by rw [hf.out]; rfl, below_drewN hbx1 _⟩
      · by_cases c2 : b ≤ p1
        · have hf := hide (hm.trans (mpA_no (fun hh => hh.2.1 c2)))
          clear hm hd
          have c1' : decide (p1 < 0) = false := decide_eq_false c1
          clear c1
          go_wp2_with fail
          rw [Hw1.out]
          go_quiet (fail)
          go_wp2
          go_ret
          exact ⟨by rw [hf.out]; rfl, below_drewN hbx1 _⟩
        · rcases hah with ⟨hk0, rfl⟩ | ⟨hk1, hah0, pp, hpp, rfl⟩
          · have hkd : decide (0 < k) = false := decide_eq_false (by omega)
            have Hk0 := hide hk0
            clear hk0
            by_cases c4 : p2 < 1
            · have hf := hide (hm.trans (mpA_no (fun hh => by have := serB_out hh.2.2.1; simp only at this; omega)))
              have d1 : decide (p1 < 0) = false := decide_eq_false (by omega)
              have d2 : decide (b ≤ p1) = false := decide_eq_false (by omega)
              clear c1 c2
              clear hm hd
              go_wp2_with fail
              rw [Hw1.out]
              go_quiet (fail)
              go_wp2
              go_ret
              exact ⟨by rw [hf.out]; rfl, below_drewN hbx1 _⟩
            · by_cases c5 : 4611686018427387904 < p2
              · have hf := hide (hm.trans (mpA_no (fun hh => by have := serB_out hh.2.2.1; simp only at this; omega)))
                have d1 : decide (p1 < 0) = false := decide_eq_false (by omega)
                have d2 : decide (b ≤ p1) = false := decide_eq_false (by omega)
                have d4 : decide (p2 < 1) = false := decide_eq_false (by omega)
                clear c1 c2 c4
                clear hm hd
                go_wp2_with fail
                rw [Hw1.out]
                go_quiet (fail)
                go_wp2
                go_ret
                exact ⟨by rw [hf.out]; rfl, below_drewN hbx1 _⟩
              · by_cases c6 : (m : Int) = z
                · have hf := hide (hm.trans (mpA_yes ⟨by show ¬ p1 ≤ _; omega, c2, by unfold serB; exact decide_eq_true ⟨by show 1 ≤ p2; omega, by show p2 ≤ 4611686018427387904; omega⟩, by show (pd.length : Int) = z; rw [h4]; exact c6⟩))
                  have d1 : decide (p1 < 0) = false := decide_eq_false (by omega)
                  have d2 : decide (b ≤ p1) = false := decide_eq_false (by omega)
                  have d4 : decide (p2 < 1) = false := decide_eq_false (by omega)
                  have d5 : decide ((4611686018427387904 : Int) < p2) = false := decide_eq_false (by omega)
                  have d6 : ((m : Int) != z) = false := by simpa using c6
                  have q0 : 0 ≤ p1 := by omega
                  clear c1 c2 c4 c5 c6
                  clear hm hd
                  go_wp2_with fail
                  rw [Hw1.out]
                  go_quiet (fail)
                  go_wp2
                  go_roundw
                  case rel => exact ⟨k + 1, p1, by omega, by go_num, hf.out, .inr ⟨by omega, by omega, _, hp, rfl⟩, below_drewN hBx _⟩
                  case measure => simp [intOf]; omega
                · have hf := hide (hm.trans (mpA_no (fun hh => by have := hh.2.2.2; simp only at this; rw [h4] at this; exact c6 this)))
                  have d1 : decide (p1 < 0) = false := decide_eq_false (by omega)
                  have d2 : decide (b ≤ p1) = false := decide_eq_false (by omega)
                  have d4 : decide (p2 < 1) = false := decide_eq_false (by omega)
                  have d5 : decide ((4611686018427387904 : Int) < p2) = false := decide_eq_false (by omega)
                  have d6 : ((m : Int) != z) = true := by simpa using c6
                  clear c1 c2 c4 c5 c6
                  clear hm hd
                  go_wp2_with fail
                  rw [Hw1.out]
                  go_quiet (fail)
                  go_wp2
                  go_ret
                  exact ⟨by rw [hf.out]; rfl, below_drewN hbx1 _⟩
          · obtain ⟨A2, m2, c2', i1, i2, i3, i4, i5, i6, i7, i8⟩ := (hP0.below hB).2 (k - 1) pp hpp
            have yp := rd3_0 hat1 i1
            have hkI : (k : Int) - 1 = ((k - 1 : Nat) : Int) := by omega
            have hkp : 0 < k := by omega
            have hk2 : ((k - 1 : Nat) : Int) < (n : Int) := by omega
            by_cases c3 : p1 ≤ pp.1
            · have hf := hide (hm.trans (mpA_no (fun hh => hh.1 c3)))
              have d1 : decide (p1 < 0) = false := decide_eq_false (by omega)
              have d2 : decide (b ≤ p1) = false := decide_eq_false (by omega)
              clear c1 c2
              clear hm hd
              go_wp2_with fail
              rw [Hw1.out]
              go_quiet (fail)
              go_wp2
              go_ret
              exact ⟨by rw [hf.out]; rfl, below_drewN hbx1 _⟩
            · by_cases c4 : p2 < 1
              · have hf := hide (hm.trans (mpA_no (fun hh => by have := serB_out hh.2.2.1; simp only at this; omega)))
                have d1 : decide (p1 < 0) = false := decide_eq_false (by omega)
                have d2 : decide (b ≤ p1) = false := decide_eq_false (by omega)
                have d3 : decide (p1 ≤ pp.1) = false := decide_eq_false (by omega)
                clear c1 c2
                clear hm hd
                go_wp2_with fail
                rw [Hw1.out]
                go_quiet (fail)
                go_wp2
                go_ret
                exact ⟨by rw [hf.out]; rfl, below_drewN hbx1 _⟩
              · by_cases c5 : 4611686018427387904 < p2
                · have hf := hide (hm.trans (mpA_no (fun hh => by have := serB_out hh.2.2.1; simp only at this; omega)))
                  have d1 : decide (p1 < 0) = false := decide_eq_false (by omega)
                  have d2 : decide (b ≤ p1) = false := decide_eq_false (by omega)
                  have d3 : decide (p1 ≤ pp.1) = false := decide_eq_false (by omega)
                  have d4 : decide (p2 < 1) = false := decide_eq_false (by omega)
                  clear c1 c2 c4
                  clear hm hd
                  go_wp2_with fail
                  rw [Hw1.out]
                  go_quiet (fail)
                  go_wp2
                  go_ret
                  exact ⟨by rw [hf.out]; rfl, below_drewN hbx1 _⟩
                · by_cases c6 : (m : Int) = z
                  · have hf := hide (hm.trans (mpA_yes ⟨by show ¬ p1 ≤ _; omega, c2, by unfold serB; exact decide_eq_true ⟨by show 1 ≤ p2; omega, by show p2 ≤ 4611686018427387904; omega⟩, by show (pd.length : Int) = z; rw [h4]; exact c6⟩))
                    have d1 : decide (p1 < 0) = false := decide_eq_false (by omega)
                    have d2 : decide (b ≤ p1) = false := decide_eq_false (by omega)
                    have d3 : decide (p1 ≤ pp.1) = false := decide_eq_false (by omega)
                    have d4 : decide (p2 < 1) = false := decide_eq_false (by omega)
                    have d5 : decide ((4611686018427387904 : Int) < p2) = false := decide_eq_false (by omega)
                    have d6 : ((m : Int) != z) = false := by simpa using c6
                    have q0 : 0 ≤ p1 := by omega
                    clear c1 c2 c4 c5 c6
                    clear hm hd
                    go_wp2_with fail
                    rw [Hw1.out]
                    go_quiet (fail)
                    go_wp2
                    go_roundw
                    case rel => exact ⟨k + 1, p1, by omega, by go_num, hf.out, .inr ⟨by omega, by omega, _, hp, rfl⟩, below_drewN hBx _⟩
                    case measure => simp [intOf]; omega
                  · have hf := hide (hm.trans (mpA_no (fun hh => by have := hh.2.2.2; simp only at this; rw [h4] at this; exact c6 this)))
                    have d1 : decide (p1 < 0) = false := decide_eq_false (by omega)
                    have d2 : decide (b ≤ p1) = false := decide_eq_false (by omega)
                    have d3 : decide (p1 ≤ pp.1) = false := decide_eq_false (by omega)
                    have d4 : decide (p2 < 1) = false := decide_eq_false (by omega)
                    have d5 : decide ((4611686018427387904 : Int) < p2) = false := decide_eq_false (by omega)
                    have d6 : ((m : Int) != z) = true := by simpa using c6
                    clear c1 c2 c4 c5 c6
                    clear hm hd
                    go_wp2_with fail
                    rw [Hw1.out]
                    go_quiet (fail)
                    go_wp2
                    go_ret
                    exact ⟨by rw [hf.out]; rfl, below_drewN hbx1 _⟩
    · obtain rfl : k = n := by omega
      have hf := hide (hm.trans (by rw [List.drop_eq_nil_of_le (by omega)]; rfl : mpA b z ah (ps.drop k) = true))
      clear hm
      go_wp2
      go_ret
      exact ⟨by rw [hf.out]; rfl, hbx⟩
end Go.Proofs.Ytlcbelmbonaooaa
namespace Go.Proofs.Ytlcbelmbonaooaa
set_option maxRecDepth 20000
open Go.RowKit Go.Px Go.ChangeShapes Go.WideShapes Go.ChangeAt Go.Joins Go.Deep
set_option linter.unusedVariables false
variable {H : Type} {enc : TypeId × Value → H}
/-- A step in memory: a request, a number, pages. -/
def StpAt (w : World) (a : Addr) : Prop := ∃ (k : Nat) (p n : Int) (D : Option Addr) (d dc : Nat) (ds : List UInt8) (O : Option Addr) (o oc : Nat) (os : List UInt8) (num : Int) (A : Option Addr) (m mc : Nat) (cs : List Value) (ps : List (Int × Int × List UInt8)), k < 256 ∧
  w.cell? a = some (.int .u8 k) ∧ w.cell? ⟨a.block, a.off + 1, none⟩ = some (.int .i64 p) ∧ w.cell? ⟨a.block, a.off + 2, none⟩ = some (.int .i64 n) ∧ w.cell? ⟨a.block, a.off + 3, none⟩ = some (.slice D d dc) ∧ w.cell? ⟨a.block, a.off + 4, none⟩ = some (.slice O o oc) ∧
  w.cell? ⟨a.block, a.off + 5, none⟩ = some (.int .i64 num) ∧ w.cell? ⟨a.block, a.off + 6, none⟩ = some (.slice A m mc) ∧
  ds.length = d ∧ d ≤ dc ∧ dc ≤ 9223372036854775807 ∧ os.length = o ∧ Rd w D (bys ds) ∧ Rd w O (bys os) ∧ ps.length = m ∧ m ≤ mc ∧ mc ≤ 9223372036854775807 ∧ Rd w A cs ∧ PgRows w (fun _ => True) cs ps
theorem StpAt.below {w w' : World} {a : Addr} (h : StpAt w a) (hb : Below w.heap.size w w') : StpAt w' a := by
  obtain ⟨k, p, n, D, d, dc, ds, O, o, oc, os, num, A, m, mc, cs, ps, h0, h1, h2, h3, h4, h5, h6, h7, h8, h9, i1, i2, i3, i4, i5, i6, i7, i8, i9⟩ := h
  exact ⟨k, p, n, D, d, dc, ds, O, o, oc, os, num, A, m, mc, cs, ps, h0, cell_below hb h1, cell_below hb h2, cell_below hb h3, cell_below hb h4, cell_below hb h5, cell_below hb h6, cell_below hb h7, h8, h9, i1, i2, i3.below hb, i4.below hb, i5, i6, i7, i8.below hb, i9.below hb⟩
/-- A row of n steps (of seven cells each). -/
def Stps2 (w : World) (A : Option Addr) (n : Nat) : Prop := ∀ i, i < n → ∃ a, A = some a ∧ StpAt w (a.add (i * 7))
theorem Stps2.below {w w' : World} {A : Option Addr} {n : Nat} (h : Stps2 w A n) (hb : Below w.heap.size w w') : Stps2 w' A n := fun i hi => by
  obtain ⟨a, rfl, h1⟩ := h i hi
  exact ⟨a, rfl, h1.below hb⟩
end Go.Proofs.Ytlcbelmbonaooaa
namespace Go.Proofs.Ytlcbelmbonaooaa
set_option maxRecDepth 20000
open Go.RowKit Go.Px
set_option linter.unusedVariables false
structure BothAt (B lo v r s rv gb gv : Nat) : Prop where
  h1 : B ≤ v ∧ B ≤ r ∧ B ≤ s
  h2 : v < lo ∧ r < lo ∧ s < lo
  h3 : lo ≤ rv ∧ lo ≤ gb ∧ lo ≤ gv
  h4 : B ≤ lo
end Go.Proofs.Ytlcbelmbonaooaa
namespace Go.Proofs.Ytlcbelmbonaooaa
set_option maxRecDepth 20000
open Go.RowKit Go.Px
set_option linter.unusedVariables false
/-- The rows that New has made so far: each in a block of its own, all zeros. -/
def ZRows (w : World) (B k z : Nat) (Bv Vv : Value) (bc : List Value) : Prop := bc.length = k ∧ ∀ i, i < k → ∃ A c, bc[i]? = some (.slice A z c) ∧ z ≤ c ∧ c ≤ 9223372036854775807 ∧ Rd w A (List.replicate z (.int .u8 0)) ∧ ∀ a, A = some a → B ≤ a.block ∧ a.block < w.heap.size ∧ Bv.ownBlock ≠ some a.block ∧ Vv.ownBlock ≠ some a.block
section
variable {w w' : World} {B k z : Nat} {Bv Vv : Value} {bc : List Value}
theorem ZRows.nil (w : World) (B z : Nat) (Bv Vv : Value) : ZRows w B 0 z Bv Vv [] := ⟨rfl, fun i hi => by omega⟩
theorem ZRows.below (h : ZRows w B k z Bv Vv bc) (hb : Below w.heap.size w w') : ZRows w' B k z Bv Vv bc :=
  ⟨h.1, fun i hi => by obtain ⟨A, c, h1, h2, h3, h4, h5⟩ := h.2 i hi; exact ⟨A, c, h1, h2, h3, h4.below hb, fun a ha => ⟨(h5 a ha).1, by have := (h5 a ha).2.1; have := hb.size; omega, (h5 a ha).2.2⟩⟩⟩
theorem ZRows.set (h : ZRows w B k z Bv Vv bc) {g : Nat} (hg : g < B) (j : Nat) (u : Value) : ZRows (w.setCell ⟨g, j, none⟩ u) B k z Bv Vv bc :=
  ⟨h.1, fun i hi => by obtain ⟨A, c, h1, h2, h3, h4, h5⟩ := h.2 i hi; exact ⟨A, c, h1, h2, h3, h4.upset (fun a ha => (h5 a ha).1) hg, fun a ha => ⟨(h5 a ha).1, by have := (h5 a ha).2.1; simpa using this, (h5 a ha).2.2⟩⟩⟩
theorem ZRows.push {X w5 : World} {Bv' : Value} (h : ZRows w B k z Bv Vv bc) (hX : Below w.heap.size w X) (hg : X.grownBy w5 Bv.ownBlock) (hb : ∀ g, Bv.ownBlock = some g → g < w.heap.size) (hv : ∀ g, Vv.ownBlock = some g → g < w.heap.size) (hB : B ≤ w.heap.size)
    (hz : Rd X (some ⟨w.heap.size, 0, none⟩) (List.replicate z (.int .u8 0))) (hsz : w.heap.size + 1 ≤ X.heap.size) (h5 : Bv'.ownBlock = Bv.ownBlock ∨ Bv'.ownBlock = some X.heap.size) (hz4 : z ≤ 4096) : ZRows w5 B (k + 1) z Bv' Vv (bc ++ [.slice (some ⟨w.heap.size, 0, none⟩) z z]) := by
  have hs5 := hg.size
  refine ⟨by simp [h.1], fun i hi => ?_⟩
  by_cases hlt : i < k
  · obtain ⟨A, c, h1, h2, h3, h4, h6⟩ := h.2 i hlt
    refine ⟨A, c, by rw [List.getElem?_append_left (by rw [h.1]; exact hlt)]; exact h1, h2, h3, (h4.below hX).grown hg (fun a ha => (h6 a ha).2.2.1.symm), fun a ha => ?_⟩
    obtain ⟨q1, q2, q3, q4⟩ := h6 a ha
    refine ⟨q1, by omega, ?_, q4⟩
    rcases h5 with h5 | h5
    · rw [h5]; exact q3
    · rw [h5]; intro e; injection e with e; omega
  · obtain rfl : i = k := by omega
    refine ⟨_, z, by rw [← h.1]; simp, Nat.le_refl _, by omega, hz.grown hg (fun a ha e => ?_), fun a ha => ?_⟩
    · injection ha with ha; subst ha
      have := hb _ e.symm
      simp at this
    · injection ha with ha; subst ha
      refine ⟨hB, by show w.heap.size < _; omega, ?_, ?_⟩
      · rcases h5 with h5 | h5
        · rw [h5]; intro e; have := hb _ e; simp at this
        · rw [h5]; intro e; injection e with e; have e2 : X.heap.size = w.heap.size := e; omega
      · intro e; have := hv _ e; simp at this
end
end Go.Proofs.Ytlcbelmbonaooaa
