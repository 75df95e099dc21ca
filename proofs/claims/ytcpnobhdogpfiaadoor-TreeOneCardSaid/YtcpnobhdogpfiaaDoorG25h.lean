/- Ints as bytes, of any sign; the document's PutAll of eight bytes each. -/
import Derived.Test.YtcpnobhdogpfiaaDoorF01r
import Derived.Test.YtcpnobhdogpfiaaDoorF01c
import Derived.Test.YtcpnobhdogpfiaaDoorF25s
import Derived.Deep.DeepFit
namespace Go.Proofs.YtcpnobhdogpfiaaDoor
set_option maxRecDepth 20000
open Go.RowKit Go.Px
set_option linter.unusedVariables false
/-- An int as a number of 64 bits. -/
def u64N (v : Int) : Nat := (v % 18446744073709551616).toNat
theorem u64N_lt (v : Int) : u64N v < 18446744073709551616 := by unfold u64N; omega
theorem u64N_wrap (v : Int) : IntKind.u64.wrap v = ((u64N v : Nat) : Int) := by
  have : IntKind.u64.wrap v = v % 18446744073709551616 := by unfold IntKind.wrap; simp [IntKind.signed, IntKind.bits]
  rw [this]; unfold u64N; omega
theorem take_set_snoc25 {xs ys : List Value} {j : Nat} {u : Value} (hj : j < xs.length) (hl : ys.length = j) (h : xs.take j = ys) : (xs.set j u).take (j + 1) = ys ++ [u] := by
  subst h
  rw [List.take_add_one, List.take_set, List.set_eq_of_length_le (by simp; omega)]
  simp [hj]
set_option maxHeartbeats 1600000 in
theorem ints_all (B : Option Addr) (k d : Nat) (l : List Int) (w : World) (hk : l.length = k) (hk8 : k ≤ 4096) (hB : Rd w B (ints l)) :
    Calls Tryd.prog 46 #[.int .i64 8, .slice B k d] w fun e w' => ∃ v, e = .returned v ∧ w'.ownsRow w.heap.size 5 1 v (flatB 8 (l.map u64N)).length (bys (flatB 8 (l.map u64N))) ∧ Below w.heap.size w w' := by
  have Hk := hide hk
  clear hk
  go_enter Tryd.func46, Tryd.ntmps46
  go_wp2_with (first | (with_reducible refine stop_append rfl ?_) | (with_reducible refine stop_copy rfl ?_) | (with_reducible refine stop_make rfl ?_))
  refine go_make rfl rfl tU64s rfl rfl (n := k) (m := k) rfl rfl (by omega) (by omega) (by omega) (Nat.le_refl _) ?_
  intro z w1 _ _ hw1 ho1 hg1
  have hb1 : Below w.heap.size w w1 := grown_below (Below.refl _ _) hg1 (Nat.le_refl _) (fun g hg => by cases hg)
  obtain ⟨g, hg⟩ : ∃ y, w.heap.size = y := ⟨_, rfl⟩
  rw [hg] at ho1 hb1 ⊢
  obtain ⟨xs0, hx0⟩ : ∃ y, (madeCells z.cells (k * 1)).toList.take (k * 1) = y := ⟨_, rfl⟩
  rw [hx0] at ho1
  have hs1 := hb1.size
  clear hw1 hg1 hx0
  go_wp2
  go_loopw [15] (fun i wr => ∃ (j : Nat) (xs : List Value), j ≤ k ∧ i = .int .i64 j ∧ wr.ownsRow g 84 1 (.slice (some ⟨g, 0, none⟩) k k) k xs ∧ xs.take j = u64s ((l.take j).map u64N) ∧ Below g w wr) (fun i _ => k - (intOf i).toNat)
  case atStart => exact ⟨0, xs0, by omega, rfl, ho1, by simp [u64s], hb1⟩
  case round =>
    obtain ⟨j, xs, hj, rfl, hO, hT, hb⟩ := hrel
    have hxl : xs.length = k := by simpa using hO.1
    by_cases hlt : j < k
    · have hjl : j < l.length := by rw [Hk.out]; exact hlt
      obtain ⟨b, rfl, hcell⟩ := (show Rd wr B _ from by rw [← hg] at hb; exact hB.below hb) j (.int .i64 (l[j] : Int)) (by simp [ints, hjl])
      have hfz := own_frozen25 hO j
      obtain ⟨u0, hu0⟩ : ∃ u0, wr.cell? ⟨g, j, none⟩ = some u0 := by
        obtain ⟨A', c', hv, _, _, _, hr, _⟩ := own_out hO
        injection hv with hv1 hv2 hv3
        subst hv1
        obtain ⟨a', ha', hc'⟩ := hr j xs[j] (List.getElem?_eq_getElem (by omega))
        injection ha' with ha'
        subst ha'
        have ea : (⟨g, 0, none⟩ : Addr).add j = ⟨g, j, none⟩ := by unfold Addr.add; split <;> simp_all
        rw [ea] at hc'
        exact ⟨_, hc'⟩
      have hT1 := take_set_snoc25 (u := .int .u64 (u64N l[j] : Int)) (by omega) (by simp [u64s]; omega) hT
      have hT' := hide (show (xs.set j (.int .u64 (u64N l[j] : Int))).take (j + 1) = u64s ((l.take (j + 1)).map u64N) from by
        rw [hT1, List.take_succ_eq_append_getElem hjl, List.map_append]
        simp [u64s])
      obtain ⟨v, hv⟩ : ∃ y, l[j] = y := ⟨_, rfl⟩
      rw [hv] at hcell hT'
      have hU := u64N_wrap v
      have hul := u64N_lt v
      obtain ⟨u, hu⟩ : ∃ y, u64N v = y := ⟨_, rfl⟩
      rw [hu] at hU hT' hul
      have HO' := hide (own_store25 hO j (.int .u64 (u : Int)))
      clear hO hT1 hT hv hu
      go_wp2
      go_roundw
      case rel => exact ⟨j + 1, _, by omega, by go_num, HO'.out, hT'.out, hb.setCell (by show g ≤ g; omega) _⟩
      case measure => simp [intOf]; omega
    · have hjk : j = k := by omega
      subst hjk
      have hT2 : xs = u64s (l.map u64N) := by
        rw [List.take_of_length_le (by omega), List.take_of_length_le (by rw [Hk.out]; omega)] at hT
        exact hT
      subst hT2
      obtain ⟨A', c', hv, _, _, _, hr, _⟩ := own_out hO
      injection hv with hv1 hv2 hv3
      subst hv1
      clear hv2 hv3
      have hPA := putAll_any none 0 0 [] 8 (some ⟨g, 0, none⟩) j j (l.map u64N) wr rfl (by omega) Rd.nil (by rw [List.length_map]; exact Hk.out) (by omega) hr (fun v hv => by
        rw [List.mem_map] at hv
        obtain ⟨y, _, rfl⟩ := hv
        exact u64N_lt y)
      have HPA := hide hPA
      clear hPA hT hO hr hB
      go_wp2_with fail
      go_fit HPA.out
      rintro e w2 ⟨v, rfl, ho2, hb2⟩
      rw [show putAllB [] (l.map u64N) 8 = flatB 8 (l.map u64N) from by
        unfold putAllB
        rw [if_pos (show allE 8 (l.map u64N) = 0 from by
          generalize l = m
          induction m with
          | nil => rfl
          | cons a m ih =>
            show (if fitsE (u64N a) 8 = 0 then allE 8 (m.map u64N) else fitsE (u64N a) 8) = 0
            have hf : fitsE (u64N a) 8 = 0 := by unfold fitsE; rw [if_pos (by omega), if_pos (by have := u64N_lt a; exact this)]
            rw [if_pos hf]
            exact ih)]
        rfl] at ho2
      go_wp2
      go_ret
      exact ⟨_, rfl, own_weak ho2 (by have := hb.size; omega), by rw [← hg] at hb; exact hb.trans (hb2.mono hb.size)⟩
set_option maxHeartbeats 1600000 in
theorem rputall8 (B : Option Addr) (k d : Nat) (l : List Nat) (w : World) (hk : l.length = k) (hk8 : k ≤ 4096) (hB : Rd w B (u64s l)) (hl : ∀ v ∈ l, v < 18446744073709551616) :
    Calls Tryd.prog 47 #[.slice none 0 0, .int .i64 8, .slice B k d] w fun e w' => ∃ u, e = .returned (.tuple #[u, .int .i64 0]) ∧ w'.ownsRow w.heap.size 5 1 u (k * 8) (bys (flatB 8 l)) ∧ Below w.heap.size w w' := by
  have Hk := hide hk
  clear hk
  go_enter Tryd.func47, Tryd.ntmps47
  go_wp2_with (first | (with_reducible refine stop_append rfl ?_) | (with_reducible refine stop_copy rfl ?_) | (with_reducible refine stop_make rfl ?_))
  refine (Grow.empty w _ _).append rfl rfl tBytes rfl rfl (m := 0) (by simp) Rd.nil (by simp) (by omega) (by omega) ?_
  intro v1 w1 hG1 _
  rw [Nat.add_zero, List.append_nil] at hG1
  go_wp2
  go_loopw [8, 9] (fun u i wr => ∃ j : Nat, j ≤ k ∧ i = .int .i64 (j : Int) ∧ Grow (w.alloc (.cells #[] 5)) (.slice (some ⟨w.heap.size, 0, none⟩) 0 0) w.heap.size 5 1 wr u (j * 8) (bys (flatB 8 (l.take j)))) (fun _ i _ => k - (intOf i).toNat)
  case atStart => exact ⟨0, by omega, rfl, by simpa [flatB, bys] using hG1⟩
  case round =>
    obtain ⟨j, hj, rfl, hG⟩ := hrel
    by_cases hlt : j < k
    · have hjl : j < l.length := by rw [Hk.out]; exact hlt
      obtain ⟨ab, hab, hcb⟩ := (hB.below hG.emptyAll) j _ (u64s_get hjl)
      subst hab
      have HF := hide (flatB_snoc 8 l j hjl)
      have hv := hl _ (List.getElem_mem hjl)
      obtain ⟨v, hvv⟩ : ∃ v, l[j] = v := ⟨_, rfl⟩
      rw [hvv] at hcb HF hv
      have HR := hide (rfits_any v 8 wr hv (by omega))
      rw [show decide (v < 256 ^ 8) = true from decide_eq_true (by have : (256 : Nat) ^ 8 = 18446744073709551616 := by decide
                                                                   omega)] at HR
      obtain ⟨L, hL⟩ : ∃ L, flatB 8 (l.take j) = L := ⟨_, rfl⟩
      rw [hL] at hG HF
      clear hvv hjl hL
      go_wp2_with fail
      go_fit HR.out
      rintro e w2 ⟨rfl, rfl⟩
      go_wp2_with fail
      go_loopw [8, 10, 11] (fun u x i W => ∃ q : Nat, q ≤ 8 ∧ i = .int .i64 (q : Int) ∧ x = .int .u64 ((v / 256 ^ q : Nat) : Int) ∧ Grow (w.alloc (.cells #[] 5)) (.slice (some ⟨w.heap.size, 0, none⟩) 0 0) w.heap.size 5 1 W u (j * 8 + q) (bys (L ++ leB q v))) (fun _ _ i _ => 8 - (intOf i).toNat)
      case atStart => exact ⟨0, Nat.zero_le _, rfl, by simp, by simpa [leB] using hG⟩
      case round =>
        obtain ⟨q, hq8, rfl, rfl, hG2⟩ := hrel
        have hle : v / 256 ^ q ≤ v := Nat.div_le_self _ _
        have Hs := hide (div_pow_succ v q)
        have Hb := hide (leB_snoc q v)
        obtain ⟨r, hr⟩ : ∃ r, v / 256 ^ q = r := ⟨_, rfl⟩
        rw [hr] at hle ⊢
        have Hr := hide hr
        clear hr
        by_cases hlt2 : q < 8
        · go_wp2_with (first | (with_reducible refine stop_append rfl ?_) | (with_reducible refine stop_copy rfl ?_) | (with_reducible refine stop_make rfl ?_))
          refine hG2.push rfl rfl rfl tBytes rfl rfl rfl (by omega) (by omega) ?_
          intro u' w4 hG4 _
          go_wp2
          go_roundw
          case rel =>
            refine ⟨q + 1, by omega, by go_num, ?_, ?_⟩
            · rw [← Hs.out, Hr.out]; simp
            · rw [Hb.out, ← List.append_assoc, bys_append _ [UInt8.ofNat (v / 256 ^ q % 256)], Hr.out]
              have e : (r : Int) % 256 = ((UInt8.ofNat (r % 256)).toNat : Int) := by rw [toNat_ofNat_mod]; simp
              rw [e] at hG4
              exact hG4
          case measure => simp [intOf]; omega
        · have hq : q = 8 := by omega
          subst hq
          go_wp2
          go_roundw
          case rel => exact ⟨j + 1, by omega, by go_num, by rw [HF.out, show (j + 1) * 8 = j * 8 + 8 by omega]; exact hG2⟩
          case measure => simp [intOf]; omega
    · have hjk : j = k := by omega
      subst hjk
      rw [List.take_of_length_le (by rw [Hk.out]; exact Nat.le_refl _)] at hG
      go_wp2
      go_ret2
      exact ⟨_, rfl, hG.owns, hG.emptyAll⟩
end Go.Proofs.YtcpnobhdogpfiaaDoor
