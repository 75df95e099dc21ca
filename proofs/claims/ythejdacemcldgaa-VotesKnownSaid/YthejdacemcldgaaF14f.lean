/- Stage 14: the document's Ack. -/
import Derived.Test.YthejdacemcldgaaF14e
namespace Go.Proofs.Ythejdacemcldgaa
set_option maxRecDepth 20000
open Go.RowKit Go.Px
set_option linter.unusedVariables false
/-- Of each node once, in order, the greatest number. -/
def AckOf (L out : List (Int × Int)) : Prop := Asc (out.map Prod.fst) ∧ (∀ x, x ∈ out.map Prod.fst ↔ x ∈ L.map Prod.fst) ∧ ∀ p ∈ out, p.2 = (numA L p.1).1
theorem AckOf.self {L out : List (Int × Int)} (h : AckOf L out) : out = (out.map Prod.fst).map fun x => (x, (numA L x).1) := by
  rw [List.map_map]
  conv => lhs; rw [← List.map_id out]
  apply List.map_congr_left
  intro p hp
  have := h.2.2 p hp
  simp only [id, Function.comp]
  rw [← this]
theorem AckOf.uniq {L a b : List (Int × Int)} (ha : AckOf L a) (hb : AckOf L b) : a = b := by
  rw [ha.self, hb.self, asc_ext ha.1 hb.1 (fun x => by rw [ha.2.1, hb.2.1])]
def SetOf (l o : List Int) : Prop := Asc o ∧ ∀ x, x ∈ o ↔ x ∈ l
theorem SetOf.next {L : List (Int × Int)} {o o' : List Int} {i : Nat} (h : SetOf ((L.take i).map Prod.fst) o) (hi : i < L.length) (ha : AddOf o L[i].1 o') : SetOf ((L.take (i + 1)).map Prod.fst) o' := by
  refine ⟨ha.1, fun x => ?_⟩
  rw [ha.2, h.2, List.take_succ_eq_append_getElem hi, List.map_append, List.mem_append]
  simp
theorem SetOf.ack {L : List (Int × Int)} {o : List Int} (h : SetOf (L.map Prod.fst) o) : AckOf L (o.map fun x => (x, (numA L x).1)) := by
  have e : (o.map fun x => (x, (numA L x).1)).map Prod.fst = o := by rw [List.map_map]; exact List.map_id' o
  refine ⟨by rw [e]; exact h.1, fun x => by rw [e]; exact h.2 x, fun p hp => ?_⟩
  obtain ⟨x, hx, rfl⟩ := List.mem_map.1 hp
  rfl
theorem acs_one (l : List (Int × Int)) : ∀ u ∈ acs l, u.oneCell' = true := by
  induction l with
  | nil => intro u hu; cases hu
  | cons p l ih =>
    intro u hu
    simp only [acs, List.mem_cons] at hu
    rcases hu with rfl | rfl | hu
    · rfl
    · rfl
    · exact ih u hu
set_option maxRecDepth 20000 in
set_option maxHeartbeats 3200000 in
theorem rack_any (A : Option Addr) (n c : Nat) (l : List (Int × Int)) (v m : Int) (w : World) (hn : l.length = n) (h63 : n ≤ 10000) (hr : Rd w A (acs l)) :
    Calls Try.prog 14 #[.slice A n c, .int .i64 v, .int .i64 m] w fun e w' => ∃ (o : List (Int × Int)) (B : Option Addr) (d : Nat), e = .returned (.slice B o.length d) ∧ Rd w' B (acs o) ∧ AckOf (l ++ [(v, m)]) o ∧ o.length ≤ n + 1 ∧ o.length ≤ d ∧ d ≤ maxLen ∧ Below w.heap.size w w' := by
  have Hn := hide hn
  clear hn
  obtain ⟨L, hL⟩ : ∃ y, l ++ [(v, m)] = y := ⟨_, rfl⟩
  rw [hL]
  have HL := hide hL
  clear hL
  go_enter Try.func14, Try.ntmps14
  go_wp2_with (first | (with_reducible refine stop_append rfl ?_) | (with_reducible refine stop_copy rfl ?_) | (with_reducible refine stop_make rfl ?_))
  refine (Grow.empty w _ _).append rfl rfl tAcks rfl rfl (m := n) (by rw [acs_length, Hn.out, Nat.mul_comm]) (hr.alloc _) (acs_one _) (by omega) (by omega) ?_
  intro v1 w1 hG1 _
  rw [Nat.zero_add, List.nil_append] at hG1
  go_wp2_with (first | (with_reducible refine stop_append rfl ?_) | (with_reducible refine stop_copy rfl ?_) | (with_reducible refine stop_make rfl ?_))
  refine (hG1.alloc _).append rfl rfl tAcks rfl rfl (m := 1) (news := [.int .i64 v, .int .i64 m]) rfl (Rd.newN w1 [.int .i64 v, .int .i64 m] _ (0, 0)) (acs_one [(v, m)]) (by omega) (by omega) ?_
  intro v2 w2 hG2 _
  have hb2 := hG2.emptyAll
  have hL := HL.out
  have hO2 := hG2.owns
  rw [show acs l ++ [.int .i64 v, .int .i64 m] = acs L from by rw [← hL, acs_append]; rfl] at hO2
  have hLl : L.length = n + 1 := by rw [← hL, List.length_append, Hn.out]; rfl
  obtain ⟨A2, c2, rfl, -, hc2, hcm2, hr2, -⟩ := own_out hO2
  have HLl := hide hLl
  clear hG1 hG2 hO2 hL hLl
  go_wp2_with fail
  go_loopw [8, 9] (fun s8 s9 W => ∃ (i : Nat) (o : List Int) (q : Nat) (B : Option Addr) (d : Nat), s9 = .int .i64 (i : Int) ∧ s8 = .slice B q d ∧ Hid (o.length = q) ∧ Rd W B (ints o) ∧ Hid (SetOf ((L.take i).map Prod.fst) o) ∧ q ≤ i ∧ i ≤ n + 1 ∧ Below w2.heap.size w2 W) (fun _ s _ => n + 1 - (intOf s).toNat)
  case atStart => exact ⟨0, [], 0, none, 0, rfl, rfl, hide rfl, Rd.nil, hide ⟨List.Pairwise.nil, fun x => by simp⟩, Nat.le_refl _, Nat.zero_le _, Below.refl _ _⟩
  case round =>
    obtain ⟨i, o, q, B, d, rfl, rfl, Hq, hro, HS, hqi, hi1, hbw⟩ := hrel
    by_cases hlt : i < n + 1
    · have hil : i < L.length := by rw [HLl.out]; exact hlt
      have q1 : decide ((i : Int) < (n : Int) + 1) = true := decide_eq_true (by omega)
      obtain ⟨x, hx⟩ : ∃ x, L[i] = x := ⟨_, rfl⟩
      obtain ⟨p, z⟩ := x
      have g0 := acs_get0 hil
      rw [hx] at g0
      obtain ⟨a, ha, hat⟩ := (hr2.below hbw).some_of (xs := acs L) (by rw [acs_length]; omega)
      subst ha
      have c0 := rd2_0 hat g0
      have HA := hide (radd_any B q d o p wr Hq.out (by omega) hro)
      have HN := hide (fun o' (h : AddOf o p o') => SetOf.next (o' := o') HS.out hil (by rw [hx]; exact h))
      clear hx g0 hat hil HS hro
      go_wp2_with fail
      go_fit HA.out
      rintro e w3 ⟨o', U, rfl, hO3, hA3, hl3, hb3⟩
      obtain ⟨A3, c3, rfl, -, -, -, hr3, -⟩ := own_out hO3
      have HS3 := hide (HN.out o' hA3)
      have hb23 := hbw.trans (hb3.mono hbw.size)
      clear hO3 hA3 HN HA
      go_wp2
      go_roundw
      case rel => exact ⟨i + 1, o', o'.length, A3, c3, by go_num, rfl, hide rfl, hr3, HS3, by omega, by omega, hb23⟩
      case measure => simp [intOf]; omega
    · have q1 : decide ((i : Int) < (n : Int) + 1) = false := decide_eq_false (by omega)
      have hSA : SetOf (L.map Prod.fst) o := by
        have h0 := HS.out
        rwa [List.take_of_length_le (by rw [HLl.out]; omega)] at h0
      have HAK := hide hSA.ack
      clear HS hSA
      obtain ⟨W0, rfl⟩ : ∃ y, y = wr := ⟨wr, rfl⟩
      obtain ⟨f, hf⟩ : ∃ y, (fun x => (x, (numA L x).1)) = y := ⟨_, rfl⟩
      rw [hf] at HAK
      have Hf := hide hf
      clear hf
      go_wp2_with fail
      go_loopw [10, 11] (fun s10 s11 W => ∃ (j : Nat), s11 = .int .i64 (j : Int) ∧ j ≤ q ∧ Grow W0 (.slice none 0 0) W0.heap.size 44 2 W s10 j (acs ((o.take j).map f))) (fun _ s _ => q - (intOf s).toNat)
      case atStart => exact ⟨0, rfl, Nat.zero_le _, Grow.nil _ _ _⟩
      case round =>
        obtain ⟨j, rfl, hjq, hG⟩ := hrel
        by_cases hjl : j < q
        · have hjo : j < o.length := by rw [Hq.out]; exact hjl
          obtain ⟨a, rfl, hcj⟩ := (hro.below hG.all) j _ (ints_get hjo)
          obtain ⟨x, hx⟩ : ∃ x, o[j] = x := ⟨_, rfl⟩
          rw [hx] at hcj
          have HN := hide (rnum_any A2 (n + 1) c2 L x wr HLl.out (by omega) (hr2.below (hbw.trans (hG.all.mono hbw.size))))
          have HB := hide (show acs ((o.take (j + 1)).map f) = acs ((o.take j).map f) ++ [.int .i64 x, .int .i64 (numA L x).1] by
            rw [List.take_succ_eq_append_getElem hjo, hx, List.map_append, acs_append, ← Hf.out]; rfl)
          clear hx hjo
          go_wp2_with fail
          go_fit HN.out
          rintro e w3 ⟨rfl, rfl⟩
          obtain ⟨y, hy⟩ : ∃ y, (numA L x).1 = y := ⟨_, rfl⟩
          rw [hy] at HB ⊢
          clear hy
          go_wp2_with (first | (with_reducible refine stop_append rfl ?_) | (with_reducible refine stop_copy rfl ?_) | (with_reducible refine stop_make rfl ?_))
          refine (hG.alloc _).append rfl rfl tAcks rfl rfl (m := 1) (news := [.int .i64 x, .int .i64 y]) rfl (Rd.newN wr [.int .i64 x, .int .i64 y] _ (0, 0)) (acs_one [(x, y)]) (by omega) (by omega) ?_
          intro u' W4 hG4 _
          rw [← HB.out] at hG4
          clear HB hG
          go_wp2
          go_roundw
          case rel => exact ⟨j + 1, by go_num, by omega, hG4⟩
          case measure => simp [intOf]; omega
        · have hj : j = q := by omega
          subst hj
          obtain ⟨A4, c4, rfl, -, hc4, hcm4, hr4, -⟩ := own_out hG.owns
          have hbf := hbw.trans (hG.all.mono hbw.size)
          have hbz := hb2.trans (hbf.mono hb2.size)
          rw [List.take_of_length_le (by rw [Hq.out]; exact Nat.le_refl _)] at hr4
          clear hG
          go_wp2
          go_ret
          refine ⟨o.map f, A4, c4, by rw [List.length_map, Hq.out]; rfl, hr4, HAK.out, by rw [List.length_map, Hq.out]; omega, by rw [List.length_map, Hq.out]; exact hc4, hcm4, hbz⟩
end Go.Proofs.Ythejdacemcldgaa
