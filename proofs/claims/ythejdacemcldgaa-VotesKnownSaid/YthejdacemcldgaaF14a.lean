/- Stage 14: rows of acknowledgements; a node's number, twice; rows that are alike. -/
import Derived.Test.YthejdacemcldgaaF13d
import Derived.Test.YthejdacemcldgaaQui
import Derived.Deep.QuietTactic
import Derived.BigQuiet
import Derived.Deep.DeepFit
namespace Go.Proofs.Ythejdacemcldgaa
set_option maxRecDepth 20000
open Go.RowKit Go.Px
set_option linter.unusedVariables false
def acs : List (Int × Int) → List Value
  | [] => []
  | p :: l => .int .i64 p.1 :: .int .i64 p.2 :: acs l
theorem acs_length : ∀ l : List (Int × Int), (acs l).length = 2 * l.length
  | [] => rfl
  | p :: l => by simp only [acs, List.length_cons, acs_length l]; omega
theorem acs_get0 : ∀ {l : List (Int × Int)} {k : Nat} (h : k < l.length), (acs l)[2 * k]? = some (.int .i64 l[k].1)
  | p :: l, 0, _ => rfl
  | p :: l, k + 1, h => by
    rw [show 2 * (k + 1) = 2 * k + 1 + 1 by omega]
    simp only [acs, List.getElem?_cons_succ, List.getElem_cons_succ]
    exact acs_get0 (l := l) (by simpa using h)
theorem acs_get1 : ∀ {l : List (Int × Int)} {k : Nat} (h : k < l.length), (acs l)[2 * k + 1]? = some (.int .i64 l[k].2)
  | p :: l, 0, _ => rfl
  | p :: l, k + 1, h => by
    rw [show 2 * (k + 1) + 1 = 2 * k + 1 + 1 + 1 by omega]
    simp only [acs, List.getElem?_cons_succ, List.getElem_cons_succ]
    exact acs_get1 (l := l) (by simpa using h)
theorem acs_append (a b : List (Int × Int)) : acs (a ++ b) = acs a ++ acs b := by
  induction a with
  | nil => rfl
  | cons p a ih => simp only [List.cons_append, acs, ih]
theorem acs_take : ∀ (l : List (Int × Int)) (k : Nat), acs (l.take k) = (acs l).take (2 * k)
  | [], k => by simp [acs]
  | p :: l, 0 => rfl
  | p :: l, k + 1 => by
    rw [show 2 * (k + 1) = 2 * k + 1 + 1 by omega]
    simp only [List.take_succ_cons, acs, acs_take l k]
theorem rd2_0 {w : World} {a : Addr} {cs : List Value} (hat : ∀ j u, cs[j]? = some u → w.cell? (a.add j) = some u) {k : Nat} {u : Value} (h : cs[2 * k]? = some u) : w.cell? (a.add (k * 2)) = some u := by
  rw [Nat.mul_comm]; exact hat _ _ h
theorem rd2_1 {w : World} {a : Addr} {cs : List Value} (hat : ∀ j u, cs[j]? = some u → w.cell? (a.add j) = some u) {k : Nat} {u : Value} (h : cs[2 * k + 1]? = some u) : w.cell? ⟨(a.add (k * 2)).block, (a.add (k * 2)).off + 1, none⟩ = some u := by
  have := hat _ _ h
  have e : a.add (2 * k + 1) = ⟨(a.add (k * 2)).block, (a.add (k * 2)).off + 1, none⟩ := by
    unfold Addr.add
    rw [if_neg (by omega)]
    split
    · rename_i h0
      have hk : k = 0 := by omega
      subst hk
      simp
    · simp; omega
  rw [e] at this
  exact this
/-- The number that a node has told, and whether it has told one. -/
def nstep (v : Int) (s : Int × Bool) (a : Int × Int) : Int × Bool := if a.1 = v ∧ (s.2 = false ∨ s.1 < a.2) then (a.2, true) else s
def numA (l : List (Int × Int)) (v : Int) : Int × Bool := l.foldl (nstep v) (0, false)
theorem numA_step {l : List (Int × Int)} {k : Nat} (h : k < l.length) (v : Int) : numA (l.take (k + 1)) v = nstep v (numA (l.take k) v) l[k] := by
  unfold numA
  rw [List.take_succ_eq_append_getElem h, List.foldl_append]; rfl
set_option maxHeartbeats 1600000 in
theorem num_any (A : Option Addr) (n c : Nat) (l : List (Int × Int)) (v : Int) (w : World) (hn : l.length = n) (h63 : n ≤ 9223372036854775807) (hr : Rd w A (acs l)) :
    Calls Try.prog 7 #[.slice A n c, .int .i64 v] w fun e w' => e = .returned (.tuple #[.int .i64 (numA l v).1, .bool (numA l v).2]) ∧ Below w.heap.size w w' := by
  have Hn := hide hn
  clear hn
  go_enter Try.func7, Try.ntmps7
  go_wp2
  go_loopw [6, 7, 12] (fun s6 s7 s12 W => ∃ (k : Nat) (m : Int) (b : Bool), k ≤ n ∧ s12 = .int .i64 (k : Int) ∧ s6 = .int .i64 m ∧ s7 = .bool b ∧ Hid (numA (l.take k) v = (m, b)) ∧ Below w.heap.size w W) (fun _ _ s _ => n - (intOf s).toNat)
  case atStart => exact ⟨0, 0, false, by omega, rfl, rfl, rfl, hide rfl, Below.refl _ _⟩
  case round =>
    obtain ⟨k, m, b, hk, rfl, rfl, rfl, HN, hbw⟩ := hrel
    by_cases hlt : k < n
    · have hkl : k < l.length := by rw [Hn.out]; exact hlt
      obtain ⟨x, hx⟩ : ∃ x, l[k] = x := ⟨_, rfl⟩
      obtain ⟨p, q⟩ := x
      have g0 := acs_get0 hkl
      have g1 := acs_get1 hkl
      have HS := hide (show numA (l.take (k + 1)) v = nstep v (m, b) (p, q) by rw [numA_step hkl, HN.out, hx])
      rw [hx] at g0 g1
      obtain ⟨a, ha, hat⟩ := (hr.below hbw).some_of (xs := acs l) (by rw [acs_length]; omega)
      subst ha
      have c0 := rd2_0 hat g0
      have c1 := rd2_1 hat g1
      have z0 := (Blk.new wr [.int .i64 p, .int .i64 q] 44).cell (j := 0) rfl
      have z1 := (Blk.new wr [.int .i64 p, .int .i64 q] 44).cell (j := 1) rfl
      have hbn : Below w.heap.size w (wr.alloc (.cells #[.int .i64 p, .int .i64 q] 44)) := hbw.alloc hbw.size _
      clear hx g0 g1 hat hkl
      by_cases hp : p = v
      · have q1 : (p == v) = true := by simp [hp]
        cases b with
        | false =>
          have HB := hide (show numA (l.take (k + 1)) v = (q, true) by rw [HS.out]; simp [nstep, hp])
          clear hp HS HN
          go_wp2
          go_roundw
          case rel => exact ⟨k + 1, _, _, by omega, by go_num, rfl, rfl, HB, hbn⟩
          case measure => simp [intOf]; omega
        | true =>
          by_cases hm : m < q
          · have q2 : decide (m < q) = true := decide_eq_true hm
            have HB := hide (show numA (l.take (k + 1)) v = (q, true) by rw [HS.out]; simp [nstep, hp, hm])
            clear hp HS HN hm
            go_wp2
            go_roundw
            case rel => exact ⟨k + 1, _, _, by omega, by go_num, rfl, rfl, HB, hbn⟩
            case measure => simp [intOf]; omega
          · have q2 : decide (m < q) = false := decide_eq_false hm
            have HB := hide (show numA (l.take (k + 1)) v = (m, true) by rw [HS.out]; simp [nstep, hm])
            clear hp HS HN hm
            go_wp2
            go_roundw
            case rel => exact ⟨k + 1, _, _, by omega, by go_num, rfl, rfl, HB, hbn⟩
            case measure => simp [intOf]; omega
      · have q1 : (p == v) = false := beq_false_of_ne hp
        have HB := hide (show numA (l.take (k + 1)) v = (m, b) by rw [HS.out]; simp [nstep, hp])
        clear hp HS HN
        go_wp2
        go_roundw
        case rel => exact ⟨k + 1, _, _, by omega, by go_num, rfl, rfl, HB, hbn⟩
        case measure => simp [intOf]; omega
    · have HB := hide (show numA l v = (m, b) by rw [← HN.out, List.take_of_length_le (by rw [Hn.out]; omega)])
      clear HN
      go_wp2
      go_ret2
      exact ⟨by rw [HB.out]; rfl, hbw⟩
set_option maxHeartbeats 1600000 in
theorem rnum_any (A : Option Addr) (n c : Nat) (l : List (Int × Int)) (v : Int) (w : World) (hn : l.length = n) (h63 : n ≤ 9223372036854775807) (hr : Rd w A (acs l)) :
    Calls Try.prog 8 #[.slice A n c, .int .i64 v] w fun e w' => e = .returned (.tuple #[.int .i64 (numA l v).1, .bool (numA l v).2]) ∧ w = w' := by
  have Hn := hide hn
  clear hn
  go_enter Try.func8, Try.ntmps8
  go_wp2
  go_loop [6, 7, 8] (fun s6 s7 s8 => ∃ (k : Nat) (m : Int) (b : Bool), k ≤ n ∧ s8 = .int .i64 (k : Int) ∧ s6 = .int .i64 m ∧ s7 = .bool b ∧ Hid (numA (l.take k) v = (m, b))) (fun _ _ s => n - (intOf s).toNat)
  case atStart => exact ⟨0, 0, false, by omega, rfl, rfl, rfl, hide rfl⟩
  case round =>
    obtain ⟨k, m, b, hk, rfl, rfl, rfl, HN⟩ := hrel
    by_cases hlt : k < n
    · have hkl : k < l.length := by rw [Hn.out]; exact hlt
      obtain ⟨x, hx⟩ : ∃ x, l[k] = x := ⟨_, rfl⟩
      obtain ⟨p, q⟩ := x
      have g0 := acs_get0 hkl
      have g1 := acs_get1 hkl
      have HS := hide (show numA (l.take (k + 1)) v = nstep v (m, b) (p, q) by rw [numA_step hkl, HN.out, hx])
      rw [hx] at g0 g1
      obtain ⟨a, ha, hat⟩ := hr.some_of (xs := acs l) (by rw [acs_length]; omega)
      subst ha
      have c0 := rd2_0 hat g0
      have c1 := rd2_1 hat g1
      clear hx g0 g1 hat hkl
      by_cases hp : p = v
      · have q1 : (p == v) = true := by simp [hp]
        cases b with
        | false =>
          have HB := hide (show numA (l.take (k + 1)) v = (q, true) by rw [HS.out]; simp [nstep, hp])
          clear hp HS HN
          go_wp2
          go_round
          case rel => exact ⟨k + 1, _, _, by omega, by go_num, rfl, rfl, HB⟩
          case measure => simp [intOf]; omega
        | true =>
          by_cases hm : m < q
          · have q2 : decide (m < q) = true := decide_eq_true hm
            have HB := hide (show numA (l.take (k + 1)) v = (q, true) by rw [HS.out]; simp [nstep, hp, hm])
            clear hp HS HN hm
            go_wp2
            go_round
            case rel => exact ⟨k + 1, _, _, by omega, by go_num, rfl, rfl, HB⟩
            case measure => simp [intOf]; omega
          · have q2 : decide (m < q) = false := decide_eq_false hm
            have HB := hide (show numA (l.take (k + 1)) v = (m, true) by rw [HS.out]; simp [nstep, hm])
            clear hp HS HN hm
            go_wp2
            go_round
            case rel => exact ⟨k + 1, _, _, by omega, by go_num, rfl, rfl, HB⟩
            case measure => simp [intOf]; omega
      · have q1 : (p == v) = false := beq_false_of_ne hp
        have HB := hide (show numA (l.take (k + 1)) v = (m, b) by rw [HS.out]; simp [nstep, hp])
        clear hp HS HN
        go_wp2
        go_round
        case rel => exact ⟨k + 1, _, _, by omega, by go_num, rfl, rfl, HB⟩
        case measure => simp [intOf]; omega
    · have HB := hide (show numA l v = (m, b) by rw [← HN.out, List.take_of_length_le (by rw [Hn.out]; omega)])
      clear HN
      go_wp2
      go_ret2
      exact ⟨by rw [HB.out]; rfl, rfl⟩
set_option maxHeartbeats 1600000 in
theorem samenodes_eq (A : Option Addr) (n c : Nat) (B : Option Addr) (d : Nat) (l : List Int) (w : World) (hn : l.length = n) (h63 : n ≤ 9223372036854775807) (hr : Rd w A (ints l)) (hs : Rd w B (ints l)) :
    Calls Try.prog 9 #[.slice A n c, .slice B n d] w fun e w' => e = .returned (.bool true) ∧ Below w.heap.size w w' := by
  have Hn := hide hn
  clear hn
  go_enter Try.func9, Try.ntmps9
  go_wp2
  go_loopw [5] (fun i wr => ∃ k : Nat, k ≤ n ∧ i = .int .i64 k ∧ Below w.heap.size w wr) (fun i _ => n - (intOf i).toNat)
  case atStart => exact ⟨0, by omega, rfl, Below.refl _ _⟩
  case round =>
    obtain ⟨k, hk, rfl, hbw⟩ := hrel
    by_cases hlt : k < n
    · have hkl : k < l.length := by rw [Hn.out]; exact hlt
      obtain ⟨a, ha, hc⟩ := hr.below hbw k _ (ints_get hkl)
      obtain ⟨b, hb, hd⟩ := hs.below hbw k _ (ints_get hkl)
      obtain ⟨x, hx⟩ : ∃ x, l[k] = x := ⟨_, rfl⟩
      rw [hx] at hc hd
      subst ha hb
      clear hx hkl
      go_wp2
      go_quiet (fail)
      all_goals
        go_wp2
        go_roundw
        case rel => exact ⟨k + 1, by omega, by go_num, below_drewN hbw _⟩
        case measure => simp [intOf]; omega
    · go_wp2
      go_ret
      exact ⟨rfl, hbw⟩
set_option maxHeartbeats 1600000 in
theorem sameacks_eq (A : Option Addr) (n c : Nat) (B : Option Addr) (d : Nat) (l : List (Int × Int)) (w : World) (hn : l.length = n) (h63 : n ≤ 9223372036854775807) (hr : Rd w A (acs l)) (hs : Rd w B (acs l)) :
    Calls Try.prog 12 #[.slice A n c, .slice B n d] w fun e w' => e = .returned (.bool true) ∧ Below w.heap.size w w' := by
  have Hn := hide hn
  clear hn
  go_enter Try.func12, Try.ntmps12
  go_wp2
  go_loopw [5] (fun i wr => ∃ k : Nat, k ≤ n ∧ i = .int .i64 k ∧ Below w.heap.size w wr) (fun i _ => n - (intOf i).toNat)
  case atStart => exact ⟨0, by omega, rfl, Below.refl _ _⟩
  case round =>
    obtain ⟨k, hk, rfl, hbw⟩ := hrel
    by_cases hlt : k < n
    · have hkl : k < l.length := by rw [Hn.out]; exact hlt
      obtain ⟨x, hx⟩ : ∃ x, l[k] = x := ⟨_, rfl⟩
      obtain ⟨p, q⟩ := x
      have g0 := acs_get0 hkl
      have g1 := acs_get1 hkl
      rw [hx] at g0 g1
      obtain ⟨a, ha, hat⟩ := (hr.below hbw).some_of (xs := acs l) (by rw [acs_length]; omega)
      obtain ⟨b, hb, hbt⟩ := (hs.below hbw).some_of (xs := acs l) (by rw [acs_length]; omega)
      subst ha hb
      have c0 := rd2_0 hat g0
      have c1 := rd2_1 hat g1
      have d0 := rd2_0 hbt g0
      have d1 := rd2_1 hbt g1
      clear hx hkl g0 g1 hat hbt
      go_wp2
      go_quiet (fail)
      all_goals
        go_wp2
        go_roundw
        case rel => exact ⟨k + 1, by omega, by go_num, below_drewN hbw _⟩
        case measure => simp [intOf]; omega
    · go_wp2
      go_ret
      exact ⟨rfl, hbw⟩
/-- Not more than are looked at. -/
def cut60 (n : Nat) : Nat := if n ≤ 60 then n else 60
theorem cut60_le (n : Nat) : cut60 n ≤ n ∧ cut60 n ≤ 60 := by unfold cut60; split <;> omega
theorem cut60_len {α : Type} (l : List α) : (l.take 60).length = cut60 l.length := by unfold cut60; rw [List.length_take]; split <;> omega
theorem acks_cut {w : World} {A : Option Addr} {l : List (Int × Int)} (h : Rd w A (acs l)) : Rd w A (acs (l.take 60)) := by rw [acs_take]; exact h.take _
theorem few14_any (A : Option Addr) (n c : Nat) (w : World) (hnc : n ≤ c) (hc : c ≤ 9223372036854775807) : Calls Try.prog 6 #[.slice A n c] w fun e w' => e = .returned (.slice A (cut60 n) c) ∧ w = w' := by
  by_cases h : n ≤ 60
  · have HL := hide (show cut60 n = n by unfold cut60; rw [if_pos h])
    have q1 : decide ((60 : Int) < (n : Int)) = false := decide_eq_false (by omega)
    go_enter Try.func6, Try.ntmps6
    go_wp2
    go_ret
    exact ⟨by rw [HL.out]; rfl, rfl⟩
  · have HL := hide (show cut60 n = 60 by unfold cut60; rw [if_neg h])
    have q1 : decide ((60 : Int) < (n : Int)) = true := decide_eq_true (by omega)
    have h2 : 60 ≤ c := by omega
    go_enter Try.func6, Try.ntmps6
    go_wp2
    go_ret
    exact ⟨by rw [HL.out]; rfl, rfl⟩
theorem nodes_cut {w : World} {A : Option Addr} {l : List Int} (h : Rd w A (ints l)) : Rd w A (ints (l.take 60)) := by
  rw [show ints (l.take 60) = (ints l).take 60 from by simp [ints]]; exact h.take _
set_option maxHeartbeats 1600000 in
theorem cut14_any (e : Int) (A : Option Addr) (n c : Nat) (w : World) (hnc : n ≤ c) (hc : c ≤ 9223372036854775807) : Calls Try.prog 16 #[grp e A n c] w fun x w' => x = .returned (grp e A (cut60 n) c) ∧ Below w.heap.size w w' := by
  have hB2 : ∀ m, Blk ((w.alloc (.cells #[.int .i64 e, .slice A m c] 34)).alloc (.cells #[.int .i64 e, .slice A m c] 34)) (w.heap.size + 1) [.int .i64 e, .slice A m c] 34 := fun m => by
    have := Blk.new (w.alloc (.cells #[.int .i64 e, .slice A m c] 34)) [.int .i64 e, .slice A m c] 34
    rwa [World.size_alloc] at this
  by_cases h : n ≤ 60
  · have HL := hide (show cut60 n = n by unfold cut60; rw [if_pos h])
    have q1 : decide ((60 : Int) < (n : Int)) = false := decide_eq_false (by omega)
    go_enter Try.func16, Try.ntmps16
    go_wp2
    refine bodyPost_ret (results_cell rfl rfl (hB2 n) Try.underlying34 rfl (by kernel_rfl)) rfl ⟨by rw [HL.out], ?_⟩
    exact ((Below.refl _ _).alloc (Nat.le_refl _) _).alloc (by simp) _
  · have HL := hide (show cut60 n = 60 by unfold cut60; rw [if_neg h])
    have q1 : decide ((60 : Int) < (n : Int)) = true := decide_eq_true (by omega)
    have h2 : 60 ≤ c := by omega
    go_enter Try.func16, Try.ntmps16
    go_wp2
    refine bodyPost_ret (results_cell rfl rfl (hB2 60) Try.underlying34 rfl (by kernel_rfl)) rfl ⟨by rw [HL.out], ?_⟩
    exact ((Below.refl _ _).alloc (Nat.le_refl _) _).alloc (by simp) _
theorem intD_at {d : List Int} {i : Nat} (h : i < d.length) : d.getD i 0 = d[i] := by simp [List.getD_eq_getElem?_getD, List.getElem?_eq_getElem h]
end Go.Proofs.Ythejdacemcldgaa
