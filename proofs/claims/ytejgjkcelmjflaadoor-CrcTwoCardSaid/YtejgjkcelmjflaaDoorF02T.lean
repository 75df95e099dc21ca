/- Matrices: crc.Join. -/
import Derived.Test.YtejgjkcelmjflaaDoorF02L
import Derived.Test.YtejgjkcelmjflaaDoorArr
namespace Go.Proofs.YtejgjkcelmjflaaDoor
open Go.RowKit Go.Px
set_option linter.unusedVariables false

def u32s (l : List Nat) : List Value := l.map fun (x : Nat) => Value.int .u32 (x : Int)
theorem u32s_length (l : List Nat) : (u32s l).length = l.length := by simp [u32s]
theorem u32s_one (l : List Nat) : ∀ u ∈ u32s l, u.oneCell' = true := by
  intro u hu
  simp only [u32s, List.mem_map] at hu
  obtain ⟨x, _, rfl⟩ := hu
  rfl
theorem u32s_set (l : List Nat) (j x : Nat) : u32s (l.set j x) = (u32s l).set j (.int .u32 (x : Int)) := by simp [u32s, List.map_set]
theorem u32s_get {l : List Nat} {k : Nat} (h : k < l.length) : (u32s l)[k]? = some (.int .u32 ((l[k] : Nat) : Int)) := by simp [u32s, List.getElem?_eq_getElem h]

theorem and_bit (v j : Nat) (hv : v < 4294967296) : bits .and .u32 ((v : Int) / 2 ^ j) 1 = ((v / 2 ^ j % 2 : Nat) : Int) := by
  have h : v / 2 ^ j < 4294967296 := Nat.lt_of_le_of_lt (Nat.div_le_self _ _) hv
  rw [show (v : Int) / 2 ^ j = ((v / 2 ^ j : Nat) : Int) by simp, show (1 : Int) = ((1 : Nat) : Int) from rfl, u32_and_nat _ _ h (by decide), Nat.and_one_is_mod]

set_option maxHeartbeats 800000 in
theorem times_any (m : List Nat) (v : Nat) (w : World) (hm : m.length = 32) (hmx : ∀ x ∈ m, x < 4294967296) (hv : v < 4294967296) :
    Calls Tryd.prog 22 #[.agg (u32s m).toArray, .int .u32 v] w fun e w' => e = .returned (.int .u32 (timesN m v 32)) ∧ Below w.heap.size w w' := by
  go_enter Tryd.func22, Tryd.ntmps22
  go_wp2_with fail
  have hrd : Rd (w.alloc (.cells (u32s m).toArray 45)) (some ⟨w.heap.size, 0, none⟩) (u32s m) := Rd.newN _ _ _ (0, 0)
  go_loopw [5, 7] (fun o i wr => ∃ j q : Nat, j ≤ 32 ∧ i = .int .i64 j ∧ o = .int .u32 q ∧ q < 4294967296 ∧ Hid (timesN m v j = q) ∧ wr = w.alloc (.cells (u32s m).toArray 45)) (fun _ i _ => 32 - (intOf i).toNat)
  case atStart => exact ⟨0, 0, by omega, rfl, rfl, by omega, hide rfl, rfl⟩
  case round =>
    obtain ⟨j, q, hj, rfl, rfl, hq, hT, rfl⟩ := hrel
    by_cases hlt : j < 32
    · have hjm : j < m.length := by omega
      have hcell := hrd.at_ (u32s_get hjm)
      rw [addr_add0] at hcell
      have hx := hmx _ (List.getElem_mem hjm)
      have hgd : m.getD j 0 = m[j] := by rw [List.getD_eq_getElem?_getD, List.getElem?_eq_getElem hjm]; rfl
      obtain ⟨x, hxx⟩ : ∃ x, m[j] = x := ⟨_, rfl⟩
      rw [hxx] at hcell hx hgd
      have Hg := hide hgd
      clear hgd hxx
      rcases Nat.mod_two_eq_zero_or_one (v / 2 ^ j) with hb | hb
      · have Hn := hide (show timesN m v (j + 1) = q by rw [timesN, if_neg (by omega), hT.out])
        have hbI := and_bit v j hv
        rw [hb] at hbI
        go_wp2
        go_roundw
        case rel => exact ⟨j + 1, q, by omega, by go_num, rfl, hq, Hn, trivial⟩
        case measure => simp [intOf]; omega
      · have Hn := hide (show timesN m v (j + 1) = q ^^^ x by rw [timesN, if_pos hb, hT.out, Hg.out])
        have hbI := and_bit v j hv
        rw [hb] at hbI
        have hxl : q ^^^ x < 4294967296 := xor_lt hq hx
        have hxx := u32_xor_nat q x hq hx
        go_wp2
        go_roundw
        case rel => exact ⟨j + 1, q ^^^ x, by omega, by go_num, rfl, hxl, Hn, trivial⟩
        case measure => simp [intOf]; omega
    · obtain rfl : j = 32 := by omega
      go_wp2
      go_ret
      exact ⟨by rw [hT.out]; rfl, (Below.refl _ _).alloc (Nat.le_refl _) _⟩

def twiceN (m : List Nat) : List Nat := m.map fun x => timesN m x 32

set_option maxHeartbeats 800000 in
theorem twice_any (m : List Nat) (w : World) (hm : m.length = 32) (hmx : ∀ x ∈ m, x < 4294967296) :
    Calls Tryd.prog 23 #[.agg (u32s m).toArray] w fun e w' => e = .returned (.agg (u32s (twiceN m)).toArray) ∧ Below w.heap.size w w' := by
  go_enter Tryd.func23, Tryd.ntmps23
  go_wp2_with fail
  have hT1 : Tryd.prog.underlying 45 = some (.array 32 23) := Tryd.underlying45
  have hT2 : (Tryd.prog.info? 45).map (·.size) = some (u32s m).length := by rw [u32s_length, hm]; kernel_rfl
  have b1 : Blk (w.alloc (.cells (u32s m).toArray 45)) w.heap.size (u32s m) 45 := Blk.new _ _ _
  have b2 := Blk.new (w.alloc (.cells (u32s m).toArray 45)) (u32s (List.replicate 32 0)) 45
  have b3 := Blk.new ((w.alloc (.cells (u32s m).toArray 45)).alloc (.cells (u32s (List.replicate 32 0)).toArray 45)) (u32s (List.replicate 32 0)) 45
  have hb0 : Below w.heap.size w (((w.alloc (.cells (u32s m).toArray 45)).alloc (.cells (u32s (List.replicate 32 0)).toArray 45)).alloc (.cells (u32s (List.replicate 32 0)).toArray 45)) :=
    (((Below.refl _ _).alloc (Nat.le_refl _) _).alloc (by simp) _).alloc (by simp; omega) _
  obtain ⟨g1, hg1⟩ : ∃ g, w.heap.size + 1 = g := ⟨_, rfl⟩
  obtain ⟨g2, hg2⟩ : ∃ g, w.heap.size + 1 + 1 = g := ⟨_, rfl⟩
  have c1 := (b1.alloc (.cells (u32s (List.replicate 32 0)).toArray 45)).alloc (.cells (u32s (List.replicate 32 0)).toArray 45)
  have c2 := b2.alloc (.cells (u32s (List.replicate 32 0)).toArray 45)
  have c3 := b3
  rw [World.size_alloc] at c2 c3
  rw [World.size_alloc] at c3
  rw [hg1] at c2
  rw [hg2] at c3
  rw [hg2, hg1]
  clear b1 b2 b3
  go_loopw [5] (fun i wr => ∃ (j : Nat) (cur : List Nat), j ≤ 32 ∧ i = .int .i64 j ∧ cur.length = 32 ∧ (∀ k, k < j → cur[k]? = (twiceN m)[k]?) ∧ Blk wr w.heap.size (u32s m) 45 ∧
      Blk wr g1 (u32s (List.replicate 32 0)) 45 ∧ Blk wr g2 (u32s cur) 45 ∧ Below w.heap.size w wr) (fun i _ => 32 - (intOf i).toNat)
  case atStart => exact ⟨0, List.replicate 32 0, by omega, rfl, rfl, fun k hk => by omega, c1, c2, c3, hb0⟩
  case round =>
    obtain ⟨j, cur, hj, rfl, hcl, hce, d1, d2, d3, hbw⟩ := hrel
    by_cases hlt : j < 32
    · have hjm : j < m.length := by omega
      have hjc : j < (u32s cur).length := by rw [u32s_length, hcl]; exact hlt
      obtain ⟨x, hx⟩ : ∃ x, m[j] = x := ⟨_, rfl⟩
      have hcell : wr.cell? ⟨w.heap.size, j, none⟩ = some (.int .u32 (x : Int)) := by rw [← hx]; exact d1.cell (u32s_get hjm)
      have hx32 : x < 4294967296 := by rw [← hx]; exact hmx _ (List.getElem_mem hjm)
      have Hx := hide hx
      clear hx
      have hr := d1.range
      have hth := d3.there j hjc
      rw [Nat.zero_add] at hth
      obtain ⟨hth1, hth2⟩ := hth
      go_wp2
      have hne : w.heap.size ≠ g2 := by omega
      have hS0 : (wr.drew.rangeAt w.heap.size 0 (u32s m)) ∧ wr.drew.cell? ⟨w.heap.size, j, none⟩ = some (.int .u32 (x : Int)) ∧ wr.drew.cell? ⟨g2, j, none⟩ = some (cellOf wr.drew ⟨g2, j, none⟩) ∧ wr.drew.frozen? ⟨g2, j, none⟩ = false := ⟨hr, hcell, cellOf_eq hth1, hth2⟩
      go_region_held3 (fun W => W.rangeAt w.heap.size 0 (u32s m) ∧ W.cell? ⟨w.heap.size, j, none⟩ = some (.int .u32 (x : Int)) ∧ W.cell? ⟨g2, j, none⟩ = some (cellOf W ⟨g2, j, none⟩) ∧ W.frozen? ⟨g2, j, none⟩ = false)
        (first | exact hS0 | exact hS1 | exact hS2)
        (first | (go_at_call 22; refine (times_any m x _ hm hmx hx32).mono ?_; rintro e w5 ⟨rfl, hb5⟩; have e1 := Blk.below (w := wr.drew) d1 hb5; have e2 := Blk.below (w := wr.drew) d2 hb5; have e3 := Blk.below (w := wr.drew) d3 hb5; have hS1 := blk4 e1 e3 (j := j) (u32s_get hjm) hjc; rw [Hx.out] at hS1; have hS2 := blk4 (e1.apart hne j (.int .u32 ((timesN m x 32 : Nat) : Int))) (e3.set j (.int .u32 ((timesN m x 32 : Nat) : Int))) (j := j) (u32s_get hjm) (by rw [List.length_set]; exact hjc); rw [Hx.out] at hS2))
      all_goals
        have hW : Below w.heap.size w (w5.setCell ⟨g2, j, none⟩ (.int .u32 ((timesN m x 32 : Nat) : Int))) :=
          (hbw.drew.trans (hb5.mono (by simpa using hbw.size))).setCell (by show w.heap.size ≤ g2; omega) _
        have E1 := e1.apart hne j (.int .u32 ((timesN m x 32 : Nat) : Int))
        have E2 := e2.apart (show g1 ≠ g2 by omega) j (.int .u32 ((timesN m x 32 : Nat) : Int))
        have E3 := e3.set j (.int .u32 ((timesN m x 32 : Nat) : Int))
        go_wp2
        go_roundw
        case rel =>
          refine ⟨j + 1, cur.set j (timesN m x 32), by omega, by go_num, by rw [List.length_set]; exact hcl, ?_, E1, E2, by rw [u32s_set]; exact E3, hW⟩
          intro k hk
          by_cases hkj : k = j
          · subst hkj
            rw [List.getElem?_set_self (by omega), twiceN, List.getElem?_map, List.getElem?_eq_getElem hjm, Hx.out]; rfl
          · rw [List.getElem?_set_ne (by omega)]; exact hce k (by omega)
        case measure => simp [intOf]; omega
    · obtain rfl : j = 32 := by omega
      obtain rfl : cur = twiceN m := by
        apply List.ext_getElem?
        intro k
        by_cases hk : k < 32
        · exact hce k hk
        · rw [List.getElem?_eq_none (by omega), List.getElem?_eq_none (by rw [twiceN, List.length_map]; omega)]
      have hc1 : (u32s (twiceN m)).length = 32 := by rw [u32s_length, twiceN, List.length_map]; exact hm
      have hT2' : (Tryd.prog.info? 45).map (·.size) = some (u32s (twiceN m)).length := by rw [hc1]; kernel_rfl
      go_wp2_with (first | (with_reducible refine stop_load 45 rfl ?_) | (with_reducible refine stop_store 45 rfl ?_))
      refine go_load rfl rfl rfl d3 hT1 rfl hT2' ?_
      go_wp2_with (first | (with_reducible refine stop_load 45 rfl ?_) | (with_reducible refine stop_store 45 rfl ?_))
      refine go_store rfl rfl rfl rfl rfl d2 hT2' (by rw [hc1, u32s_length]; rfl) (u32s_one _) ?_
      have d4 := d2.setAll (u32s (twiceN m))
      go_wp2_with fail
      refine bodyPost_ret (results_cell rfl rfl d4 hT1 rfl hT2') rfl ?_
      exact ⟨rfl, below_setRow hbw (by omega) _⟩

theorem timesN_lt {m : List Nat} (hmx : ∀ x ∈ m, x < 4294967296) (v : Nat) : ∀ k, timesN m v k < 4294967296 := by
  intro k
  induction k with
  | zero => exact (by decide : (0 : Nat) < 4294967296)
  | succ k ih =>
    rw [timesN]
    split
    · refine xor_lt ih ?_
      rw [List.getD_eq_getElem?_getD]
      cases h : m[k]? with
      | none => decide
      | some x => exact hmx x (List.mem_of_getElem? h)
    · exact ih
theorem twiceN_len (m : List Nat) : (twiceN m).length = m.length := by simp [twiceN]
theorem twiceN_lt {m : List Nat} (hmx : ∀ x ∈ m, x < 4294967296) : ∀ x ∈ twiceN m, x < 4294967296 := by
  intro x hx
  obtain ⟨y, _, rfl⟩ := List.mem_map.1 hx
  exact timesN_lt hmx _ _
theorem twiceN_rep {m : List Nat} {f : Nat → Nat} (hf : Lin f) (hm : RepM m f) (hmx : ∀ x ∈ m, x < 4294967296) : RepM (twiceN m) (fun x => f (f x)) := by
  refine ⟨by rw [twiceN_len]; exact hm.1, fun i hi => ?_⟩
  have hi' : i < m.length := by rw [twiceN_len] at hi; exact hi
  have : (twiceN m)[i] = timesN m m[i] 32 := by simp [twiceN]
  rw [this, timesN_all hf hm (hmx _ (List.getElem_mem hi')), hm.2 i hi']
def baseN : List Nat := 2197175160 :: (List.range 31).map fun i => 2 ^ i
theorem base_rep : RepM baseN stp := by
  refine ⟨by simp [baseN], ?_⟩
  have : ∀ i, i < 32 → baseN[i]? = some (stp (2 ^ i)) := by decide
  intro i hi
  have h := this i (by simpa [baseN] using hi)
  rw [List.getElem?_eq_getElem hi] at h
  exact Option.some.inj h
theorem base_lt : ∀ x ∈ baseN, x < 4294967296 := by decide
def oneN : List Nat := twiceN (twiceN (twiceN baseN))
theorem one_rep : RepM oneN (it8 1) := by
  have h1 := twiceN_rep lin_stp base_rep base_lt
  have h2 := twiceN_rep (lin_stp.comp lin_stp) h1 (twiceN_lt base_lt)
  exact twiceN_rep ((lin_stp.comp lin_stp).comp (lin_stp.comp lin_stp)) h2 (twiceN_lt (twiceN_lt base_lt))
theorem one_lt : ∀ x ∈ oneN, x < 4294967296 := twiceN_lt (twiceN_lt (twiceN_lt base_lt))

set_option maxHeartbeats 800000 in
theorem oneByte_any (w : World) : Calls Tryd.prog 21 #[] w fun e w' => e = .returned (.agg (u32s oneN).toArray) ∧ Below w.heap.size w w' := by
  go_enter Tryd.func21, Tryd.ntmps21
  have hT1 : Tryd.prog.underlying 45 = some (.array 32 23) := Tryd.underlying45
  have b1 := Blk.new w (u32s (List.replicate 32 0)) 45
  have c1 := b1.alloc (.cells (u32s (2197175160 :: List.replicate 31 0)).toArray 45)
  have c2 := Blk.new (w.alloc (.cells (u32s (List.replicate 32 0)).toArray 45)) (u32s (2197175160 :: List.replicate 31 0)) 45
  rw [World.size_alloc] at c2
  have hb0 : Below w.heap.size w ((w.alloc (.cells (u32s (List.replicate 32 0)).toArray 45)).alloc (.cells (u32s (2197175160 :: List.replicate 31 0)).toArray 45)) :=
    ((Below.refl _ _).alloc (Nat.le_refl _) _).alloc (by simp) _
  obtain ⟨g1, hg1⟩ : ∃ g, w.heap.size + 1 = g := ⟨_, rfl⟩
  rw [hg1] at c2
  clear b1
  go_wp2_with fail
  go_loopw [2] (fun i wr => ∃ (j : Nat) (cur : List Nat), 1 ≤ j ∧ j ≤ 32 ∧ i = .int .i64 j ∧ cur.length = 32 ∧ (∀ k, k < j → cur[k]? = baseN[k]?) ∧ Blk wr w.heap.size (u32s (List.replicate 32 0)) 45 ∧
      Blk wr g1 (u32s cur) 45 ∧ Below w.heap.size w wr) (fun i _ => 32 - (intOf i).toNat)
  case atStart =>
    refine ⟨1, 2197175160 :: List.replicate 31 0, by omega, by omega, rfl, rfl, ?_, c1, c2, hb0⟩
    intro k hk
    have h0 : k = 0 := by omega
    subst h0
    rfl
  case round =>
    obtain ⟨j, cur, hj1, hj, rfl, hcl, hce, d1, d2, hbw⟩ := hrel
    by_cases hlt : j < 32
    · have hjc : j < (u32s cur).length := by rw [u32s_length, hcl]; exact hlt
      have hth := d2.there j hjc
      rw [Nat.zero_add] at hth
      obtain ⟨hth1, hth2⟩ := hth
      have hth0 := cellOf_eq hth1
      have hp : 2 ^ (j - 1) < 4294967296 := Nat.lt_of_lt_of_le (Nat.pow_lt_pow_right (by decide : 1 < 2) (show j - 1 < 32 by omega)) (by decide)
      have hbj : baseN[j]? = some (2 ^ (j - 1)) := by
        have : ∀ i, i < 32 → 1 ≤ i → baseN[i]? = some (2 ^ (i - 1)) := by decide
        exact this j hlt hj1
      obtain ⟨y, hy⟩ : ∃ y, 2 ^ (j - 1) = y := ⟨_, rfl⟩
      rw [hy] at hp hbj
      have hv : (2 : Int) ^ (j - 1) % 4294967296 = (y : Int) := by
        rw [show (2 : Int) ^ (j - 1) = (y : Int) by rw [← hy]; simp]; omega
      have E1 := d1.apart (show w.heap.size ≠ g1 by omega) j (.int .u32 (y : Int))
      have E2 := d2.set j (.int .u32 (y : Int))
      have hW : Below w.heap.size w (wr.setCell ⟨g1, j, none⟩ (.int .u32 (y : Int))) := hbw.setCell (by show w.heap.size ≤ g1; omega) _
      have Hv := hide hv
      clear hv hy hp
      go_wp2
      rw [Hv.out]
      go_roundw
      case rel =>
        refine ⟨j + 1, cur.set j y, by omega, by omega, by go_num, by rw [List.length_set]; exact hcl, ?_, E1, by rw [u32s_set]; exact E2, hW⟩
        intro k hk
        by_cases hkj : k = j
        · subst hkj
          rw [List.getElem?_set_self (by omega), hbj]
        · rw [List.getElem?_set_ne (by omega)]; exact hce k (by omega)
      case measure => simp [intOf]; omega
    · obtain rfl : j = 32 := by omega
      have hbl : baseN.length = 32 := rfl
      obtain rfl : cur = baseN := by
        apply List.ext_getElem?
        intro k
        by_cases hk : k < 32
        · exact hce k hk
        · rw [List.getElem?_eq_none (by omega), List.getElem?_eq_none (by omega)]
      go_wp2_with (first | (with_reducible refine stop_load 45 rfl ?_) | (with_reducible refine stop_store 45 rfl ?_))
      refine go_load rfl rfl rfl d2 hT1 rfl (by rw [u32s_length]; kernel_rfl) ?_
      go_wp2_with fail
      refine (twice_any _ _ rfl base_lt).mono ?_
      rintro e w1 ⟨rfl, hb1⟩
      go_wp2_with fail
      refine (twice_any _ _ (by rw [twiceN_len]; rfl) (twiceN_lt base_lt)).mono ?_
      rintro e w2 ⟨rfl, hb2⟩
      go_wp2_with fail
      refine (twice_any _ _ (by rw [twiceN_len, twiceN_len]; rfl) (twiceN_lt (twiceN_lt base_lt))).mono ?_
      rintro e w3 ⟨rfl, hb3⟩
      have hb13 : Below wr.heap.size wr w3 := (hb1.trans (hb2.mono hb1.size)).trans (hb3.mono (Nat.le_trans hb1.size hb2.size))
      have d3 := d1.below hb13
      have hT2 : (Tryd.prog.info? 45).map (·.size) = some (u32s oneN).length := by rw [u32s_length]; kernel_rfl
      have d4 := d3.setAll (u32s oneN)
      go_wp2_with (first | (with_reducible refine stop_load 45 rfl ?_) | (with_reducible refine stop_store 45 rfl ?_))
      refine go_store rfl rfl rfl rfl rfl d3 hT2 rfl (u32s_one _) ?_
      go_wp2_with fail
      refine bodyPost_ret (results_cell rfl rfl d4 hT1 rfl hT2) rfl ?_
      exact ⟨rfl, below_setRow (hbw.trans (hb13.mono hbw.size)) (Nat.le_refl _) _⟩

theorem it8_step (c n x : Nat) : it8 (2 * c) (it8 n x) = it8 (n + 2 * c) x := (it8_add n (2 * c) x).symm
theorem rep_double {m : List Nat} {c : Nat} (hm : RepM m (it8 c)) (hmx : ∀ x ∈ m, x < 4294967296) : RepM (twiceN m) (it8 (2 * c)) := by
  have h := twiceN_rep (lin_it8 c) hm hmx
  have e : (fun x => it8 c (it8 c x)) = it8 (2 * c) := by
    funext x
    rw [← it8_add, show c + c = 2 * c by omega]
  rwa [e] at h

theorem i64_and_nat (a b : Nat) (ha : a < 9223372036854775808) (hb : b < 9223372036854775808) : bits .and .i64 (a : Int) (b : Int) = ((a &&& b : Nat) : Int) := by
  have hx : a &&& b < 2 ^ 63 := Nat.and_lt_two_pow _ (by omega)
  show IntKind.i64.wrap ((BitVec.ofInt 64 (a : Int) &&& BitVec.ofInt 64 (b : Int)).toNat : Int) = _
  rw [BitVec.toNat_and, ofInt_u64 a (by omega), ofInt_u64 b (by omega)]
  generalize a &&& b = z at *
  simp [IntKind.wrap, IntKind.bits, IntKind.signed]
  omega
theorem and_one (n : Nat) (hn : n < 9223372036854775808) : bits .and .i64 (n : Int) 1 = ((n % 2 : Nat) : Int) := by
  rw [show (1 : Int) = ((1 : Nat) : Int) from rfl, i64_and_nat _ _ hn (by decide), Nat.and_one_is_mod]

set_option maxHeartbeats 1600000 in
theorem join_any (a b n : Nat) (w : World) (ha : a < 4294967296) (hb : b < 4294967296) (hn : n ≤ 16384) :
    Calls Tryd.prog 14 #[.int .u32 a, .int .u32 b, .int .i64 n] w fun e w' => e = .returned (.tuple #[.int .u32 ((it8 n a ^^^ b : Nat) : Int), .int .i64 0]) ∧ Below w.heap.size w w' := by
  go_enter Tryd.func14, Tryd.ntmps14
  have hT1 : Tryd.prog.underlying 45 = some (.array 32 23) := Tryd.underlying45
  go_wp2_with fail
  refine (oneByte_any _).mono ?_
  rintro e w1 ⟨rfl, hb1⟩
  have c1 := Blk.new w1 (u32s (List.replicate 32 0)) 45
  have c2 := c1.setAll (u32s oneN)
  have hT2 : ∀ l : List Nat, l.length = 32 → (Tryd.prog.info? 45).map (·.size) = some (u32s l).length := fun l hl => by rw [u32s_length, hl]; kernel_rfl
  have hgw := hb1.size
  have hW : Below w.heap.size w ((w1.alloc (.cells (u32s (List.replicate 32 0)).toArray 45)).setRow w1.heap.size (u32s oneN).toArray) :=
    below_setRow (hb1.alloc hb1.size _) hb1.size _
  obtain ⟨g, hg⟩ : ∃ g, w1.heap.size = g := ⟨_, rfl⟩
  rw [hg] at c1 c2 hW hgw
  go_wp2_with (first | (with_reducible refine stop_load 45 rfl ?_) | (with_reducible refine stop_store 45 rfl ?_))
  refine go_store rfl rfl rfl rfl rfl c1 (hT2 _ rfl) rfl (u32s_one _) ?_
  clear c1
  go_wp2_with fail
  go_loopw [0, 2] (fun x y wr => ∃ (a' n' c : Nat) (m : List Nat), x = .int .u32 a' ∧ y = .int .i64 n' ∧ a' < 4294967296 ∧ n' ≤ 16384 ∧ RepM m (it8 c) ∧ (∀ x ∈ m, x < 4294967296) ∧ Hid (it8 (c * n') a' = it8 n a) ∧
      Blk wr g (u32s m) 45 ∧ Below w.heap.size w wr) (fun _ y _ => (intOf y).toNat)
  case atStart => exact ⟨a, n, 1, oneN, rfl, rfl, ha, hn, one_rep, one_lt, hide (by rw [Nat.one_mul]), c2, hW⟩
  case round =>
    obtain ⟨a', n', c, m, rfl, rfl, ha', hn', hm, hmx, hI, d, hbw⟩ := hrel
    by_cases hlt : 0 < n'
    · have hand := and_one n' (by omega)
      have hM2 := rep_double hm hmx
      have hmx2 := twiceN_lt hmx
      rcases Nat.mod_two_eq_zero_or_one n' with hb | hb
      · rw [hb] at hand
        have HI := hide (show it8 (2 * c * (n' / 2)) a' = it8 n a by
          rw [← hI.out, show 2 * c * (n' / 2) = c * (2 * (n' / 2)) by rw [Nat.mul_comm 2 c, Nat.mul_assoc], show 2 * (n' / 2) = n' by omega])
        go_wp2_with (first | (with_reducible refine stop_load 45 rfl ?_) | (with_reducible refine stop_store 45 rfl ?_))
        refine go_load rfl rfl rfl d hT1 rfl (hT2 _ hm.1) ?_
        go_wp2_with fail
        refine (twice_any m _ hm.1 hmx).mono ?_
        rintro e w2 ⟨rfl, hb2⟩
        have d2 := d.below hb2
        have d3 := d2.setAll (u32s (twiceN m))
        have hW2 : Below w.heap.size w (w2.setRow g (u32s (twiceN m)).toArray) := below_setRow (hbw.trans (hb2.mono hbw.size)) hgw _
        go_wp2_with (first | (with_reducible refine stop_load 45 rfl ?_) | (with_reducible refine stop_store 45 rfl ?_))
        refine go_store rfl rfl rfl rfl rfl d2 (hT2 _ hM2.1) (by rw [u32s_length, u32s_length, hM2.1, hm.1]) (u32s_one _) ?_
        go_wp2_with fail
        go_roundw
        case rel => exact ⟨a', n' / 2, 2 * c, twiceN m, rfl, by simp, ha', by omega, hM2, hmx2, HI, d3, hW2⟩
        case measure => simp [intOf]; omega
      · rw [hb] at hand
        have hx := timesN_all (lin_it8 c) hm ha'
        have hxl := it8_lt c ha'
        obtain ⟨y, hy⟩ : ∃ y, it8 c a' = y := ⟨_, rfl⟩
        rw [hy] at hx hxl
        have HI := hide (show it8 (2 * c * (n' / 2)) y = it8 n a by
          rw [← hI.out, ← hy, ← it8_add, show c + 2 * c * (n' / 2) = c * (1 + 2 * (n' / 2)) by rw [Nat.mul_add, Nat.mul_one, Nat.mul_comm 2 c, Nat.mul_assoc], show 1 + 2 * (n' / 2) = n' by omega])
        have Hx := hide hx
        clear hx hy
        go_wp2_with (first | (with_reducible refine stop_load 45 rfl ?_) | (with_reducible refine stop_store 45 rfl ?_))
        refine go_load rfl rfl rfl d hT1 rfl (hT2 _ hm.1) ?_
        go_wp2_with fail
        refine (times_any m a' _ hm.1 hmx ha').mono ?_
        rw [Hx.out]
        rintro e w5 ⟨rfl, hb5⟩
        have d5 := d.below hb5
        go_wp2_with (first | (with_reducible refine stop_load 45 rfl ?_) | (with_reducible refine stop_store 45 rfl ?_))
        refine go_load rfl rfl rfl d5 hT1 rfl (hT2 _ hm.1) ?_
        go_wp2_with fail
        refine (twice_any m _ hm.1 hmx).mono ?_
        rintro e w2 ⟨rfl, hb2⟩
        have d2 := d5.below hb2
        have d3 := d2.setAll (u32s (twiceN m))
        have hb52 := hb5.trans (hb2.mono hb5.size)
        have hW2 : Below w.heap.size w (w2.setRow g (u32s (twiceN m)).toArray) := below_setRow (hbw.trans (hb52.mono hbw.size)) hgw _
        go_wp2_with (first | (with_reducible refine stop_load 45 rfl ?_) | (with_reducible refine stop_store 45 rfl ?_))
        refine go_store rfl rfl rfl rfl rfl d2 (hT2 _ hM2.1) (by rw [u32s_length, u32s_length, hM2.1, hm.1]) (u32s_one _) ?_
        go_wp2_with fail
        go_roundw
        case rel => exact ⟨y, n' / 2, 2 * c, twiceN m, rfl, by simp, hxl, by omega, hM2, hmx2, HI, d3, hW2⟩
        case measure => simp [intOf]; omega
    · obtain rfl : n' = 0 := by omega
      have hI' : a' = it8 n a := by rw [← hI.out, Nat.mul_zero]; rfl
      have hx := u32_xor_nat a' b ha' hb
      rw [hI'] at hx
      have Hx := hide hx
      go_wp2_with fail
      go_ret2
      exact ⟨by rw [hI']; rfl, hbw⟩
end Go.Proofs.YtejgjkcelmjflaaDoor
