/- Stage 14: the document's set of some nodes and one more. -/
import Derived.Test.YthejdacemcldgaaF14a
import Derived.Test.YthejdacemcldgaaM14
import Derived.Test.YthejdacemcldgaaReg
import Derived.Test.YthejdacemcldgaaArr
import Derived.Test.YthejdacemcldgaaRnd
import Derived.Deep.RegionHeld
namespace Go.Proofs.Ythejdacemcldgaa
set_option maxRecDepth 20000
open Go.RowKit Go.Px
set_option linter.unusedVariables false
theorem own14_lt {w : World} {base e size n : Nat} {v : Value} {xs : List Value} (h : w.ownsRow base e size v n xs) : ∀ g, v.ownBlock = some g → base ≤ g ∧ g < w.heap.size := by
  rcases h.2 with ⟨rfl, rfl⟩ | ⟨g, cap, cur, rfl, hbg, hg, _⟩
  · intro g hg; simp [Value.ownBlock] at hg
  · intro k hk
    simp [Value.ownBlock] at hk
    subst hk
    exact ⟨hbg, (Array.getElem?_eq_some_iff.1 hg).1⟩
theorem own14_grown {w w' : World} {base e size n : Nat} {v : Value} {xs : List Value} (h : w.ownsRow base e size v n xs) {r : Option Nat} (hg : w.grownBy w' r) (hr : ∀ g, v.ownBlock = some g → some g ≠ r) : w'.ownsRow base e size v n xs := by
  refine ⟨h.1, ?_⟩
  rcases h.2 with h2 | ⟨g, cap, cur, rfl, hbg, hg', rest⟩
  · exact .inl h2
  · exact .inr ⟨g, cap, cur, rfl, hbg, (hg.block g (Array.getElem?_eq_some_iff.1 hg').1 (hr g rfl)).trans hg', rest⟩
theorem own14_base {w : World} {base b e size n : Nat} {v : Value} {xs : List Value} (h : w.ownsRow base e size v n xs) (hb : b ≤ base) : w.ownsRow b e size v n xs := by
  refine ⟨h.1, ?_⟩
  rcases h.2 with h2 | ⟨g, cap, cur, rfl, hbg, rest⟩
  · exact .inl h2
  · exact .inr ⟨g, cap, cur, rfl, Nat.le_trans hb hbg, rest⟩
def lenV : Value → Nat
  | .slice _ n _ => n
  | _ => 0
def MinI (r : List Int) (k i : Nat) : Prop := ∀ j, j < i → r.getD k 0 ≤ r.getD j 0
theorem getD_get {r : List Int} {k : Nat} (h : k < r.length) : r.getD k 0 = r[k] := by simp [List.getD_eq_getElem?_getD, List.getElem?_eq_getElem h]
theorem MinI.start (r : List Int) : MinI r 0 1 := fun j hj => by
  have h0 : j = 0 := by omega
  subst h0
  exact Int.le_refl _
theorem MinI.stay {r : List Int} {k i : Nat} (h : MinI r k i) (hx : ¬ r.getD i 0 < r.getD k 0) : MinI r k (i + 1) := fun j hj => by
  by_cases hji : j = i
  · subst hji; omega
  · exact h j (by omega)
theorem MinI.turn {r : List Int} {k i : Nat} (h : MinI r k i) (hx : r.getD i 0 < r.getD k 0) : MinI r i (i + 1) := fun j hj => by
  by_cases hji : j = i
  · subst hji; exact Int.le_refl _
  · have := h j (by omega); omega
theorem MinI.all {r : List Int} {k : Nat} (hk : k < r.length) (h : MinI r k r.length) : ∀ y ∈ r, r[k] ≤ y := fun y hy => by
  obtain ⟨j, hj, rfl⟩ := List.mem_iff_getElem.1 hy
  have := h j hj
  rw [getD_get hk, getD_get hj] at this
  exact this
theorem wz14 (k : Nat) (h : k < 1000000) : IntKind.i64.wrap ((k : Int) + 1) = (k : Int) + 1 := by rw [IntKind.wrap_i64]; omega
set_option maxRecDepth 20000 in
set_option maxHeartbeats 3200000 in
theorem radd_any (A : Option Addr) (n c : Nat) (l : List Int) (v : Int) (w : World) (hn : l.length = n) (h63 : n ≤ 100000) (hr : Rd w A (ints l)) :
    Calls Try.prog 11 #[.slice A n c, .int .i64 v] w fun e w' => ∃ (o : List Int) (U : Value), e = .returned U ∧ w'.ownsRow w.heap.size 3 1 U o.length (ints o) ∧ AddOf l v o ∧ o.length ≤ n + 1 ∧ Below w.heap.size w w' := by
  have Hn := hide hn
  clear hn
  go_enter Try.func11, Try.ntmps11
  go_wp2_with (first | (with_reducible refine stop_append rfl ?_) | (with_reducible refine stop_copy rfl ?_) | (with_reducible refine stop_make rfl ?_))
  refine (Grow.empty w _ _).append rfl rfl tInts rfl rfl (m := n) (by rw [ints_length, Hn.out, Nat.mul_one]) (hr.alloc _) (ints_one _) (by omega) (by omega) ?_
  intro v1 w1 hG1 _
  rw [Nat.zero_add, List.nil_append] at hG1
  go_wp2_with (first | (with_reducible refine stop_append rfl ?_) | (with_reducible refine stop_copy rfl ?_) | (with_reducible refine stop_make rfl ?_))
  refine hG1.push rfl rfl rfl tInts rfl rfl rfl (by omega) (by omega) ?_
  intro v2 w2 hG2 _
  have hb2 := hG2.emptyAll
  have hO2 := hG2.owns
  rw [show ints l ++ [.int .i64 v] = ints (l ++ [v]) from by rw [ints_append]; rfl] at hO2
  obtain ⟨A2, c2, rfl, -⟩ := own_out hO2
  clear hG1 hG2
  go_wp2_with fail
  go_loopw [5, 6] (fun U V W => ∃ (o r : List Int) (m : Nat) (B : Option Addr) (d : Nat), V = .slice B m d ∧ Hid (r.length = m) ∧ Hid (RI l v o r) ∧ W.ownsRow w.heap.size 3 1 U o.length (ints o) ∧ W.ownsRow w.heap.size 3 1 V m (ints r) ∧ (∀ g, U.ownBlock = some g → V.ownBlock ≠ some g) ∧ m ≤ n + 1 ∧ o.length ≤ n + 1 ∧ Below w.heap.size w W) (fun _ V _ => lenV V)
  case atStart => exact ⟨[], l ++ [v], n + 1, A2, c2, rfl, hide (by rw [List.length_append, Hn.out]; rfl), hide (RI.start l v), World.ownsRow_nil _ _ _ _, hO2, (fun g hg => by cases hg), Nat.le_refl _, Nat.zero_le _, hb2⟩
  case round =>
    obtain ⟨o, r, m, B, d, rfl, Hm, HR, hU, hV, hUV, hm1, ho1, hbw⟩ := hrel
    by_cases hm0 : m = 0
    · have q0 : decide ((0 : Int) < (m : Int)) = false := decide_eq_false (by omega)
      have hD : AddOf l v o := by
        have h0 := HR.out
        rw [List.eq_nil_of_length_eq_zero (show r.length = 0 by rw [Hm.out, hm0])] at h0
        exact h0.done
      go_wp2
      go_ret
      exact ⟨o, _, rfl, hU, hD, ho1, hbw⟩
    · have q0 : decide ((0 : Int) < (m : Int)) = true := decide_eq_true (by omega)
      obtain ⟨W0, rfl⟩ : ∃ y, y = wr := ⟨wr, rfl⟩
      go_wp2_with fail
      go_loopw [7, 8] (fun s7 s8 W' => ∃ k i : Nat, s7 = .int .i64 (k : Int) ∧ s8 = .int .i64 (i : Int) ∧ k < m ∧ i ≤ m ∧ 1 ≤ i ∧ Hid (MinI r k i) ∧ Below W0.heap.size W0 W') (fun _ s _ => m - (intOf s).toNat)
      case atStart => exact ⟨0, 1, rfl, rfl, by omega, by omega, by omega, hide (MinI.start r), Below.refl _ _⟩
      case round =>
        obtain ⟨k, i, rfl, rfl, hkm, him, hi1, HM, hbi⟩ := hrel
        obtain ⟨A5, c5, hv5, -, hc5, hcm5, hr5, hb5⟩ := own_out (own_below hV hbi)
        injection hv5 with hv5 hn5 hc5'
        subst hv5
        clear hn5
        subst hc5'
        have hkl : k < r.length := by rw [Hm.out]; exact hkm
        obtain ⟨a, rfl, hck⟩ := hr5 k _ (ints_get hkl)
        obtain ⟨x, hx⟩ : ∃ x, r[k] = x := ⟨_, rfl⟩
        rw [hx] at hck
        by_cases hlt : i < m
        · have hil : i < r.length := by rw [Hm.out]; exact hlt
          obtain ⟨a', ha', hci⟩ := hr5 i _ (ints_get hil)
          injection ha' with ha'
          subst ha'
          obtain ⟨y, hy⟩ : ∃ y, r[i] = y := ⟨_, rfl⟩
          rw [hy] at hci
          by_cases hyx : y < x
          · have q1 : decide (y < x) = true := decide_eq_true hyx
            have HB := hide (HM.out.turn (i := i) (by rw [getD_get hil, getD_get hkl, hx, hy]; exact hyx))
            clear hx hy hyx hr5 hb5 hkl hil HM
            go_wp2
            go_quiet (fail)
            all_goals
              go_wp2
              go_roundw
              case rel => exact ⟨i, i + 1, by go_num, by go_num, by omega, by omega, by omega, HB, below_drewN hbi _⟩
              case measure => simp [intOf]; omega
          · have q1 : decide (y < x) = false := decide_eq_false hyx
            have HB := hide (HM.out.stay (i := i) (by rw [getD_get hil, getD_get hkl, hx, hy]; exact hyx))
            clear hx hy hyx hr5 hb5 hkl hil HM
            go_wp2
            go_quiet (fail)
            all_goals
              go_wp2
              go_roundw
              case rel => exact ⟨k, i + 1, by go_num, by go_num, by omega, by omega, by omega, HB, below_drewN hbi _⟩
              case measure => simp [intOf]; omega
        · have him' : i = m := by omega
          subst him'
          have hmin := HM.out
          rw [← Hm.out] at hmin
          have Hmin := hide (MinI.all hkl hmin)
          have hUi := own_below hU hbi
          have hVi := own_below hV hbi
          have hbwi := hbw.trans (hbi.mono hbw.size)
          have hb5' := hb5
          clear hmin hr5 hb5 HM hU hV hbw hbi
          obtain ⟨AU, cU, rfl, -, hcU, hcmU, hrU, hbU⟩ := own_out hUi
          obtain ⟨t, ht⟩ : ∃ t, o.length = t := ⟨_, rfl⟩
          rw [ht] at hUi ho1 hUV hcU
          rw [ht]
          have Ht := hide ht
          have Hx := hide hx
          clear ht hx
          by_cases ht0 : t = 0
          case' pos =>
            have q1 : ((t : Int) == 0) = true := by simp [ht0]
            have Hne := hide (show ∀ y ∈ o, y ≠ x from by
              rw [List.eq_nil_of_length_eq_zero (show o.length = 0 by rw [Ht.out, ht0])]
              exact fun y hy => by cases hy)
            clear ht0 hrU hbU
            go_wp2
            go_quiet (fail)
          case' neg =>
            have q1 : ((t : Int) == 0) = false := by simp [ht0]
            obtain ⟨t', htt⟩ : ∃ t', t = t' + 1 := ⟨t - 1, by omega⟩
            have htt2 : t' < t := by omega
            have Htt := hide htt
            have htl : t' < o.length := by rw [Ht.out]; omega
            obtain ⟨ao, rfl, hco⟩ := hrU t' _ (ints_get htl)
            obtain ⟨z, hz⟩ : ∃ z, o[t'] = z := ⟨_, rfl⟩
            rw [hz] at hco
            have Hz := hide hz
            have i1 : IntKind.i64.wrap ((t : Int) - 1) = (t' : Int) := by rw [IntKind.wrap_i64]; omega
            clear htt
            by_cases hzx : z = x
            case pos =>
              have q2 : (z != x) = false := by simp [hzx]
              have HR2 := hide (HR.out.keep hkl (by rw [Hx.out, ← hzx, ← Hz.out]; exact List.getElem_mem htl))
              clear hz hzx hrU hbU
              go_wp2
              go_quiet (fail)
              obtain ⟨W1, hW1⟩ : ∃ y, wr.drewN nq = y := ⟨_, rfl⟩
              have hbq : Below wr.heap.size wr W1 := by rw [← hW1]; exact below_drewN (Below.refl _ _) _
              have hU2 := own_below hUi hbq
              have hV2 := own_below hVi hbq
              have hb2' := hbwi.trans (hbq.mono hbwi.size)
              have hUV2 := hUV
              rw [hW1]
              clear hW1 hUi hVi hbwi hbq hck hUV i1 ht0
              have wz := wz14 k (by omega)
              go_wp2
              refine wp_region_held_drew (S := fun _ => True) (by kernel_rfl) trivial (fun _ => ?_)
              refine wpAnyH_take (fuel := 10) (i := 1) (v := .slice (some a) i d) rfl (by kernel_rfl) (by kernel_rfl) (by kernel_rfl) (fun _ _ _ h => h) (Or.inl ⟨by rfl, fun Z hZ => ?_⟩) trivial ?_
              · go_simp
              refine wpAnyH_take (i := 2) (v := .int .i64 (k : Int)) rfl (by kernel_rfl) (by kernel_rfl) (by kernel_rfl) (fun _ _ _ h => h) (Or.inl ⟨by rfl, fun Z hZ => ?_⟩) trivial ?_
              · go_simp
              refine wpAnyH_take (i := 3) (v := .slice (some a) k d) rfl (by kernel_rfl) (by kernel_rfl) (by kernel_rfl) (fun _ _ _ h => h) (Or.inl ⟨by rfl, fun Z hZ => ?_⟩) trivial ?_
              · go_simp
                exact fun h => absurd h (by omega)
              refine wpAnyH_take (i := 5) (v := .slice (some a) i d) rfl (by kernel_rfl) (by kernel_rfl) (by kernel_rfl) (fun _ _ _ h => h) (Or.inl ⟨by rfl, fun Z hZ => ?_⟩) trivial ?_
              · go_simp
              refine wpAnyH_take (i := 6) (v := .int .i64 (k : Int)) rfl (by kernel_rfl) (by kernel_rfl) (by kernel_rfl) (fun _ _ _ h => h) (Or.inl ⟨by rfl, fun Z hZ => ?_⟩) trivial ?_
              · go_simp
              refine wpAnyH_take (i := 7) (v := .int .i64 ((k : Int) + 1)) rfl (by kernel_rfl) (by kernel_rfl) (by kernel_rfl) (fun _ _ _ h => h) (Or.inl ⟨by rfl, fun Z hZ => ?_⟩) trivial ?_
              · go_simp
              refine wpAnyH_take (i := 8) (v := .slice (cutA (some a) d (k + 1) 1) (i - (k + 1)) (d - (k + 1))) rfl (by kernel_rfl) (by kernel_rfl) (by kernel_rfl) (fun _ _ _ h => h) (Or.inl ⟨by rfl, fun Z hZ => ?_⟩) trivial ?_
              · go_simp
                exact fun h => absurd (h (by omega)) (by omega)
              obtain ⟨Wd, hWd⟩ : ∃ y, W1.drew = y := ⟨_, rfl⟩
              have hbd : Below W1.heap.size W1 Wd := by rw [← hWd]; exact (Below.refl _ _).drew
              have hU3 := own_below hU2 hbd
              have hV3 := own_below hV2 hbd
              have hb3 := hb2'.trans (hbd.mono hb2'.size)
              rw [hWd]
              clear hWd hU2 hV2 hb2' hbd
              refine all_one (fuel := 3) (i := 0) (by kernel_rfl) rfl rfl (fun Kk hK => ?_)
              go_simp
              refine hK _ _ ⟨trivial, ?_⟩
              clear hK Kk
              refine all_one (fuel := 2) (i := 4) (by kernel_rfl) rfl rfl (fun Kk hK => ?_)
              have hE := (Grow.empty Wd 3 1).owns
              have hbE : Below Wd.heap.size Wd (Wd.alloc (.cells #[] 3)) := (Below.refl _ _).alloc (Nat.le_refl _) _
              obtain ⟨_, _, hv6, -, -, -, hr6, -⟩ := own_out (own_below hV3 hbE)
              injection hv6 with hv6 _ _
              subst hv6
              have hrt : Rd (Wd.alloc (.cells #[] 3)) (some a) (ints (r.take k)) := by rw [show ints (r.take k) = (ints r).take k from by simp [ints]]; exact hr6.take _
              refine oper_own (s := .tmp 57) (x := .tmp 60) (t := 22) rfl tInts (v := .slice (some ⟨Wd.heap.size, 0, none⟩) 0 0) (by simp [Act.eval]) hE (A := some a) (m := k) (c := d) (by simp [Act.eval]) (by rw [ints_length, List.length_take, Nat.min_eq_left (by omega), Nat.mul_one]) hrt (ints_one _) (by omega) (by omega) hbE.size ?_
              intro v3 w3 hO3 hg3 hv3
              rw [List.nil_append, Nat.zero_add] at hO3
              have hbd3 : Below Wd.heap.size Wd w3 := hbE.grown hg3 hbE.size (fun g hg => by simp [Value.ownBlock] at hg; omega)
              refine hK _ _ ⟨trivial, ?_⟩
              clear hK Kk hrt hr6 hE
              obtain ⟨_, _, hv6, -, -, -, hr6, -⟩ := own_out (own_below hV3 hbd3)
              injection hv6 with hv6 _ _
              subst hv6
              have hrc := hr6.cutA (n := i) (k := k + 1) (cap := d) (by rw [ints_length, Hm.out]; exact Nat.le_refl _) (by omega) hc5
              rw [show (ints r).drop (k + 1) = ints (r.drop (k + 1)) from by simp [ints]] at hrc
              refine all_one (fuel := 1) (i := 9) (by kernel_rfl) rfl rfl (fun Kk hK => ?_)
              refine oper_own (s := .tmp 61) (x := .tmp 65) (t := 22) rfl tInts (v := v3) (by simp [Act.eval, Act.put]) hO3 (A := cutA (some a) d (k + 1) 1) (m := i - (k + 1)) (c := d - (k + 1)) (by simp [Act.eval, Act.put]) (by rw [ints_length, List.length_drop, Hm.out, Nat.mul_one]) hrc (ints_one _) (by omega) (by omega) hbd3.size ?_
              intro v4 w4 hO4 hg4 hv4
              have hbd4 : Below Wd.heap.size Wd w4 := hbd3.grown hg4 hbd3.size (fun g hg => (own14_lt hO3 g hg).1)
              rw [← ints_append] at hO4
              have hl4 : (r.take k ++ r.drop (k + 1)).length = k + (i - (k + 1)) := by rw [List.length_append, List.length_take, List.length_drop, Hm.out]; omega
              obtain ⟨B4, c4, rfl, -⟩ := own_out hO4
              refine hK _ _ ⟨trivial, ?_⟩
              clear hK Kk hrc hr6
              refine all_one (fuel := 0) (i := 10) (by kernel_rfl) rfl rfl (fun Kk hK => ?_)
              go_simp
              refine hK _ _ ⟨trivial, ?_⟩
              clear hK Kk
              refine wpAnyH_done (by kernel_rfl) ?_ _
              have hU4 := own_below hU3 hbd4
              have hV4 := own14_base hO4 hb3.size
              have hb4 := hb3.trans (hbd4.mono hb3.size)
              have hUV4 : ∀ g, (Value.slice (some ao) t cU).ownBlock = some g → (Value.slice B4 (k + (i - (k + 1))) c4).ownBlock ≠ some g := fun g hg e => by
                have h1 := (own14_lt hU3 g hg).2
                have h2 := (own14_lt hO4 g e).1
                omega
              have Hl4 := hide hl4
              have HU4 := hide hU4
              have HV4 := hide hV4
              have HUV4 := hide hUV4
              clear hl4 hU4 hV4 hUV4 hO4 hO3 hU3 hV3 hg3 hg4 hv3 hv4 hUV2 wz
              go_wp2
              go_roundw
              case rel => exact ⟨o, _, _, B4, c4, rfl, Hl4, HR2, by rw [Ht.out]; exact HU4.out, HV4.out, HUV4.out, by omega, by rw [Ht.out]; exact ho1, hb4⟩
              case measure => simp [lenV]; omega
            have q2 : (z != x) = true := by simp [hzx]
            have Hne := hide (last_ne HR.out.asc (m := t') (by rw [Ht.out]; exact Htt.out) (y := x) (fun y hy => by have := HR.out.le y hy _ (List.getElem_mem hkl); rw [Hx.out] at this; exact this) (by rw [Hz.out]; exact hzx))
            clear hz hzx hrU hbU
            go_wp2
            go_quiet (fail)
          all_goals
            obtain ⟨Wq, hWq⟩ : ∃ y, wr.drewN nq = y := ⟨_, rfl⟩
            have hbq : Below wr.heap.size wr Wq := by rw [← hWq]; exact below_drewN (Below.refl _ _) _
            have hUq := own_below hUi hbq
            have hVq := own_below hVi hbq
            have hbwq := hbwi.trans (hbq.mono hbwi.size)
            have hckq := below_cell hbq hck
            rw [hWq]
            clear hWq hUi hVi hbwi hbq hck
            go_wp2_with (first | (with_reducible refine stop_append rfl ?_) | (with_reducible refine stop_copy rfl ?_) | (with_reducible refine stop_make rfl ?_))
            refine (Grow.start hUq hbwq.size).push rfl rfl rfl tInts rfl rfl rfl (by omega) (by omega) ?_
            intro U2 W1 hG3 hle3
            have hd3 : True := trivial
            have hU2 : W1.ownsRow w.heap.size 3 1 U2 (o ++ [x]).length (ints (o ++ [x])) := by
              rw [ints_append, List.length_append, Ht.out]; exact hG3.owns
            have hV2 := own14_grown hVq hG3.grown (fun g hg e => hUV g e.symm hg)
            have hUV2 : ∀ g, U2.ownBlock = some g → (Value.slice (some a) i d).ownBlock ≠ some g := fun g hg e => by
              rcases hG3.blk with h | h
              · exact hUV g (h ▸ hg) e
              · have h1 := h g hg
                have h2 := (own14_lt hVq g e).2
                omega
            have hb2' : Below w.heap.size w W1 := hbwq.grown hG3.grown hbwq.size (fun g hg => (own14_lt hUq g hg).1)
            have HR2 := hide (show RI l v (o ++ [x]) (r.take k ++ r.drop (k + 1)) from by
              have h0 := HR.out.add hkl Hmin.out (by rw [Hx.out]; exact Hne.out)
              rw [Hx.out] at h0
              exact h0)
            obtain ⟨o2, ho2⟩ : ∃ y, o ++ [x] = y := ⟨_, rfl⟩
            have ho2l : o2.length ≤ n + 1 := by
              have h0 := HR2.out.len
              rw [ho2, Hn.out] at h0
              omega
            rw [ho2] at hU2 HR2
            clear ho2 hG3 hUq hVq hbwq hckq hUV ho1 hd3
            have wz := wz14 k (by omega)
            go_wp2
            refine wp_region_held_drew (S := fun _ => True) (by kernel_rfl) trivial (fun _ => ?_)
            refine wpAnyH_take (fuel := 10) (i := 1) (v := .slice (some a) i d) rfl (by kernel_rfl) (by kernel_rfl) (by kernel_rfl) (fun _ _ _ h => h) (Or.inl ⟨by rfl, fun Z hZ => ?_⟩) trivial ?_
            · go_simp
            refine wpAnyH_take (i := 2) (v := .int .i64 (k : Int)) rfl (by kernel_rfl) (by kernel_rfl) (by kernel_rfl) (fun _ _ _ h => h) (Or.inl ⟨by rfl, fun Z hZ => ?_⟩) trivial ?_
            · go_simp
            refine wpAnyH_take (i := 3) (v := .slice (some a) k d) rfl (by kernel_rfl) (by kernel_rfl) (by kernel_rfl) (fun _ _ _ h => h) (Or.inl ⟨by rfl, fun Z hZ => ?_⟩) trivial ?_
            · go_simp
              exact fun h => absurd h (by omega)
            refine wpAnyH_take (i := 5) (v := .slice (some a) i d) rfl (by kernel_rfl) (by kernel_rfl) (by kernel_rfl) (fun _ _ _ h => h) (Or.inl ⟨by rfl, fun Z hZ => ?_⟩) trivial ?_
            · go_simp
            refine wpAnyH_take (i := 6) (v := .int .i64 (k : Int)) rfl (by kernel_rfl) (by kernel_rfl) (by kernel_rfl) (fun _ _ _ h => h) (Or.inl ⟨by rfl, fun Z hZ => ?_⟩) trivial ?_
            · go_simp
            refine wpAnyH_take (i := 7) (v := .int .i64 ((k : Int) + 1)) rfl (by kernel_rfl) (by kernel_rfl) (by kernel_rfl) (fun _ _ _ h => h) (Or.inl ⟨by rfl, fun Z hZ => ?_⟩) trivial ?_
            · go_simp
            refine wpAnyH_take (i := 8) (v := .slice (cutA (some a) d (k + 1) 1) (i - (k + 1)) (d - (k + 1))) rfl (by kernel_rfl) (by kernel_rfl) (by kernel_rfl) (fun _ _ _ h => h) (Or.inl ⟨by rfl, fun Z hZ => ?_⟩) trivial ?_
            · go_simp
              exact fun h => absurd (h (by omega)) (by omega)
            obtain ⟨Wd, hWd⟩ : ∃ y, W1.drew = y := ⟨_, rfl⟩
            have hbd : Below W1.heap.size W1 Wd := by rw [← hWd]; exact (Below.refl _ _).drew
            have hU3 := own_below hU2 hbd
            have hV3 := own_below hV2 hbd
            have hb3 := hb2'.trans (hbd.mono hb2'.size)
            rw [hWd]
            clear hWd hU2 hV2 hb2' hbd
            refine all_one (fuel := 3) (i := 0) (by kernel_rfl) rfl rfl (fun Kk hK => ?_)
            go_simp
            refine hK _ _ ⟨trivial, ?_⟩
            clear hK Kk
            refine all_one (fuel := 2) (i := 4) (by kernel_rfl) rfl rfl (fun Kk hK => ?_)
            have hE := (Grow.empty Wd 3 1).owns
            have hbE : Below Wd.heap.size Wd (Wd.alloc (.cells #[] 3)) := (Below.refl _ _).alloc (Nat.le_refl _) _
            obtain ⟨_, _, hv6, -, -, -, hr6, -⟩ := own_out (own_below hV3 hbE)
            injection hv6 with hv6 _ _
            subst hv6
            have hrt : Rd (Wd.alloc (.cells #[] 3)) (some a) (ints (r.take k)) := by rw [show ints (r.take k) = (ints r).take k from by simp [ints]]; exact hr6.take _
            refine oper_own (s := .tmp 57) (x := .tmp 60) (t := 22) rfl tInts (v := .slice (some ⟨Wd.heap.size, 0, none⟩) 0 0) (by simp [Act.eval]) hE (A := some a) (m := k) (c := d) (by simp [Act.eval]) (by rw [ints_length, List.length_take, Nat.min_eq_left (by omega), Nat.mul_one]) hrt (ints_one _) (by omega) (by omega) hbE.size ?_
            intro v3 w3 hO3 hg3 hv3
            rw [List.nil_append, Nat.zero_add] at hO3
            have hbd3 : Below Wd.heap.size Wd w3 := hbE.grown hg3 hbE.size (fun g hg => by simp [Value.ownBlock] at hg; omega)
            refine hK _ _ ⟨trivial, ?_⟩
            clear hK Kk hrt hr6 hE
            obtain ⟨_, _, hv6, -, -, -, hr6, -⟩ := own_out (own_below hV3 hbd3)
            injection hv6 with hv6 _ _
            subst hv6
            have hrc := hr6.cutA (n := i) (k := k + 1) (cap := d) (by rw [ints_length, Hm.out]; exact Nat.le_refl _) (by omega) hc5
            rw [show (ints r).drop (k + 1) = ints (r.drop (k + 1)) from by simp [ints]] at hrc
            refine all_one (fuel := 1) (i := 9) (by kernel_rfl) rfl rfl (fun Kk hK => ?_)
            refine oper_own (s := .tmp 61) (x := .tmp 65) (t := 22) rfl tInts (v := v3) (by simp [Act.eval, Act.put]) hO3 (A := cutA (some a) d (k + 1) 1) (m := i - (k + 1)) (c := d - (k + 1)) (by simp [Act.eval, Act.put]) (by rw [ints_length, List.length_drop, Hm.out, Nat.mul_one]) hrc (ints_one _) (by omega) (by omega) hbd3.size ?_
            intro v4 w4 hO4 hg4 hv4
            have hbd4 : Below Wd.heap.size Wd w4 := hbd3.grown hg4 hbd3.size (fun g hg => (own14_lt hO3 g hg).1)
            rw [← ints_append] at hO4
            have hl4 : (r.take k ++ r.drop (k + 1)).length = k + (i - (k + 1)) := by rw [List.length_append, List.length_take, List.length_drop, Hm.out]; omega
            obtain ⟨B4, c4, rfl, -⟩ := own_out hO4
            refine hK _ _ ⟨trivial, ?_⟩
            clear hK Kk hrc hr6
            refine all_one (fuel := 0) (i := 10) (by kernel_rfl) rfl rfl (fun Kk hK => ?_)
            go_simp
            refine hK _ _ ⟨trivial, ?_⟩
            clear hK Kk
            refine wpAnyH_done (by kernel_rfl) ?_ _
            have hU4 := own_below hU3 hbd4
            have hV4 := own14_base hO4 hb3.size
            have hb4 := hb3.trans (hbd4.mono hb3.size)
            have hUV4 : ∀ g, U2.ownBlock = some g → (Value.slice B4 (k + (i - (k + 1))) c4).ownBlock ≠ some g := fun g hg e => by
              have h1 := (own14_lt hU3 g hg).2
              have h2 := (own14_lt hO4 g e).1
              omega
            have Hl4 := hide hl4
            have HU4 := hide hU4
            have HV4 := hide hV4
            have HUV4 := hide hUV4
            clear hl4 hU4 hV4 hUV4 hO4 hO3 hU3 hV3 hg3 hg4 hv3 hv4 hUV2 wz
            go_wp2
            go_roundw
            case rel => exact ⟨o2, _, _, B4, c4, rfl, Hl4, HR2, HU4.out, HV4.out, HUV4.out, by omega, ho2l, hb4⟩
            case measure => simp [lenV]; omega
end Go.Proofs.Ythejdacemcldgaa
