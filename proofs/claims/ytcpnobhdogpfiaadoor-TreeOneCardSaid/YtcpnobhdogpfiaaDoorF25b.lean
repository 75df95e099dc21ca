/- Package tree: a row's digest; slices.Clone of digests. -/
import Derived.Test.YtcpnobhdogpfiaaDoorF25a
import Derived.Test.YtcpnobhdogpfiaaDoorF02b
import Derived.Test.YtcpnobhdogpfiaaDoorF01c
import Derived.Test.YtcpnobhdogpfiaaDoorM25
import Derived.Test.YtcpnobhdogpfiaaDoorReg
import Derived.Deep.DeepFit
import Derived.Deep.RegionLaw
namespace Go.Proofs.YtcpnobhdogpfiaaDoor
set_option maxRecDepth 20000
open Go.RowKit Go.Px
set_option linter.unusedVariables false
theorem tU32 : SlT Tryd.prog 25 33 1 4 := slT_mk Tryd.underlying25 (z := .int .u32 0) (by kernel_rfl) rfl (by decide)
@[go_sem] theorem eqnil_u32 (w : World) (A : Option Addr) (n c n' c' : Nat) : (binOp .eql 25 (.slice A n c) (.slice none n' c')).run Tryd.prog w = .ok (.bool A.isNone) w := Lib.run_eql_slice_nil w _ _ A n c n' c' Tryd.underlying25
theorem u32s_one (l : List Nat) : ∀ u ∈ u32s l, u.oneCell' = true := by
  intro u hu
  simp only [u32s, List.mem_map] at hu
  obtain ⟨x, _, rfl⟩ := hu
  rfl
theorem putB_four {d : Nat} (h : d < 4294967296) : putB [] d 4 = leB 4 d ∧ fitsE d 4 = 0 := by
  have e : fitsE d 4 = 0 := by unfold fitsE; rw [if_pos ⟨by decide, by decide⟩, if_pos (by simpa using h)]
  refine ⟨?_, e⟩
  unfold putB; rw [if_pos e]; rfl
set_option maxHeartbeats 800000 in
theorem row_any (A : Option Addr) (n c : Nat) (l : List Nat) (w : World) (hn : l.length = n) (hn8 : n ≤ 1099511627776) (hr : Rd w A (u32s l)) (hb : ∀ x ∈ l, x < 4294967296) (ht : Tab w) :
    Calls Tryd.prog 17 #[.slice A n c] w fun e w' => e = .returned (.int .u32 ((rowD l : Nat) : Int)) ∧ Below w.heap.size w w' := by
  have Hn := hide hn
  clear hn
  go_enter Tryd.func17, Tryd.ntmps17
  go_wp2_with fail
  go_loopw [3, 10] (fun u i wr => ∃ k : Nat, k ≤ n ∧ i = .int .i64 k ∧ u = .int .u32 ((rowD (l.take k) : Nat) : Int) ∧ Below w.heap.size w wr) (fun _ i _ => n - (intOf i).toNat)
  case atStart => exact ⟨0, Nat.zero_le _, rfl, by rw [List.take_zero, rowD_nil]; rfl, Below.refl _ _⟩
  case round =>
    obtain ⟨k, hk, rfl, rfl, hbl⟩ := hrel
    have hq := rowD_lt (l.take k)
    by_cases hlt : k < n
    · have hkl : k < l.length := by rw [Hn.out]; exact hlt
      have HS := hide (rowD_snoc l k hkl)
      have hd := hb _ (List.getElem_mem hkl)
      obtain ⟨a, rfl, hc⟩ := (hr.below hbl) k _ (u32s_get hkl)
      have ht' : Tab wr := Rd.below ht hbl
      obtain ⟨d, hdd⟩ : ∃ d, l[k] = d := ⟨_, rfl⟩
      rw [hdd] at hc HS hd
      obtain ⟨q, hqq⟩ : ∃ q, rowD (l.take k) = q := ⟨_, rfl⟩
      rw [hqq] at hq HS ⊢
      clear hdd hqq
      have HP := hide (putB_four hd)
      go_wp2_with fail
      go_fit (put_any none 0 0 [] d 4 wr rfl (by omega) Rd.nil (by omega))
      rw [HP.out.1, HP.out.2, leB_length]
      rintro x w2 ⟨u, rfl, ho, hb2⟩
      obtain ⟨B, c2, rfl, _, _, _, hr2, _⟩ := own_out ho
      clear ho
      go_wp2_with fail
      go_fit (more_any q B 4 c2 (leB 4 d) w2 hq (leB_length _ _) (by omega) hr2 (Rd.below ht' hb2))
      rw [← HS.out]
      rintro x w3 ⟨rfl, rfl⟩
      go_wp2
      go_roundw
      case rel => exact ⟨k + 1, by omega, by go_num, rfl, hbl.trans (hb2.mono hbl.size)⟩
      case measure => simp [intOf]; omega
    · go_wp2
      go_ret
      have : k = n := by omega
      subst this
      exact ⟨by rw [List.take_of_length_le (by rw [Hn.out]; exact Nat.le_refl _)]; rfl, hbl⟩
theorem clone32_any (A : Option Addr) (n c : Nat) (l : List Nat) (w : World) (hn : l.length = n) (h8 : n ≤ 1099511627776) (hc : Rd w A (u32s l)) :
    Calls Tryd.prog 42 #[.slice A n c] w fun e w' => ∃ v, e = .returned v ∧ w'.ownsRow w.heap.size 33 1 v n (u32s l) ∧ Below w.heap.size w w' := by
  have Hn := hide hn
  clear hn
  rcases A with _ | a
  · have hb : l = [] := by
      rcases l with _ | ⟨b, r⟩
      · rfl
      · obtain ⟨a, ha, _⟩ := hc 0 _ rfl; cases ha
    subst hb
    have h0 := Hn.out
    simp only [List.length_nil] at h0
    subst h0
    go_enter Tryd.func42, Tryd.ntmps42
    go_wp2_with fail
    go_ret
    exact ⟨_, rfl, World.ownsRow_nil _ _ _ _, Below.refl _ _⟩
  · go_enter Tryd.func42, Tryd.ntmps42
    go_wp2_with (first | (with_reducible refine stop_append rfl ?_) | (with_reducible refine stop_copy rfl ?_) | (with_reducible refine stop_make rfl ?_))
    have hg : Grow (w.alloc (.cells #[] 33)) (.slice (some ⟨w.heap.size, 0, none⟩) 0 0) w.heap.size 33 1 (w.alloc (.cells #[] 33)) (.slice (some ⟨w.heap.size, 0, none⟩) 0 0) 0 [] :=
      Grow.start (World.ownsRow_made w #[] 0 (Nat.le_refl _) (by unfold maxLen; omega) rfl) (by simp)
    refine hg.append rfl rfl tU32 rfl rfl (by rw [u32s_length, Hn.out]; omega) (hc.alloc _) (u32s_one _) (by omega) (by omega) ?_
    intro v' w1 hG _
    go_wp2
    go_ret
    refine ⟨_, rfl, by simpa using hG.owns, hG.allOf ((Below.refl _ _).alloc (Nat.le_refl _) _) (by simp) (fun g hg => by simp [Value.ownBlock] at hg; omega)⟩
/-- The document's row: a copy of the row of a level in which a place stands. -/
theorem rrow_piece (A : Option Addr) (n c : Nat) (l : List Nat) (i : Nat) (w : World) (hn : l.length = n) (h8 : n ≤ 1099511627776) (hnc : n ≤ c) (hc63 : c ≤ 9223372036854775807) (hi : i < n) (hc : Rd w A (u32s l)) :
    Calls Tryd.prog 44 #[.slice A n c, .int .i64 i] w fun e w' => ∃ v, e = .returned v ∧ w'.ownsRow w.heap.size 33 1 v (pieceD l (i / 4)).length (u32s (pieceD l (i / 4))) ∧ Below w.heap.size w w' := by
  have Hn := hide hn
  have hpl := pieceD_length l (i / 4)
  rw [hn] at hpl
  clear hn
  have hr2 : Rd w (cutA A c (i / 4 * 4) 1) (u32s (pieceD l (i / 4))) := by
    have h1 := hc.cutA (n := n) (k := i / 4 * 4) (cap := c) (by rw [u32s_length, Hn.out]; exact Nat.le_refl _) (by omega) hnc
    have h2 := h1.take 4
    have e : u32s (pieceD l (i / 4)) = (List.drop (i / 4 * 4) (u32s l)).take 4 := by
      unfold pieceD u32s; rw [Nat.mul_comm, List.map_take, List.map_drop]
    rw [e]; exact h2
  obtain ⟨p, hp⟩ : ∃ p, pieceD l (i / 4) = p := ⟨_, rfl⟩
  rw [hp] at hpl hr2 ⊢
  obtain ⟨m, hm⟩ : ∃ m, p.length = m := ⟨_, rfl⟩
  rw [hm] at hpl ⊢
  have Hp := hide hp
  have Hm := hide hm
  clear hp hm
  have e : min (i / 4 * 4 + 4) n - i / 4 * 4 = m := by omega
  rcases (show n < i / 4 * 4 + 4 ∨ i / 4 * 4 + 4 ≤ n by omega) with hq | hq
  all_goals
   go_enter Tryd.func44, Tryd.ntmps44
   go_wp2_with (first | (with_reducible refine stop_append rfl ?_) | (with_reducible refine stop_copy rfl ?_) | (with_reducible refine stop_make rfl ?_))
   have hg := Grow.empty w 33 1
   refine hg.append rfl rfl tU32 rfl rfl (by rw [u32s_length, Hm.out]; omega) (hr2.alloc _) (u32s_one _) (by omega) (by omega) ?_
   intro v' w1 hG _
   go_wp2
   go_ret
   refine ⟨_, rfl, ?_, hG.emptyAll⟩
   have h3 := hG.owns
   simp only [Nat.zero_add, List.nil_append] at h3
   first
   | (rw [show n - i / 4 * 4 = m by omega] at h3; exact h3)
   | (rw [Nat.add_sub_cancel_left] at h3; rw [show m = 4 by omega]; exact h3)
theorem four_cells {d : Nat} (h : d < 4294967296) : [Value.int .u8 (IntKind.u8.wrap (d : Int)), .int .u8 (IntKind.u8.wrap ((d : Int) / 256)), .int .u8 (IntKind.u8.wrap ((d : Int) / 65536)), .int .u8 (IntKind.u8.wrap ((d : Int) / 16777216))] = bys (leB 4 d) := by
  have key : ∀ x : Nat, IntKind.u8.wrap (x : Int) = ((UInt8.ofNat (x % 256)).toNat : Int) := by
    intro x
    rw [toNat_ofNat_mod]
    have : IntKind.u8.wrap (x : Int) = (x : Int) % 256 := by rw [IntKind.wrap_u8]
    rw [this]; simp
  have e1 : (d : Int) / 256 = ((d / 256 : Nat) : Int) := by simp
  have e2 : (d : Int) / 65536 = ((d / 256 / 256 : Nat) : Int) := by omega
  have e3 : (d : Int) / 16777216 = ((d / 256 / 256 / 256 : Nat) : Int) := by omega
  rw [e1, e2, e3, key, key, key, key]
  rfl
set_option maxHeartbeats 1600000 in
/-- The document's digest of a row. -/
theorem rrow_any (A : Option Addr) (n c : Nat) (l : List Nat) (w : World) (hn : l.length = n) (hn8 : n ≤ 137438953472) (hr : Rd w A (u32s l)) (hb : ∀ x ∈ l, x < 4294967296) :
    Calls Tryd.prog 18 #[.slice A n c] w fun e w' => e = .returned (.int .u32 ((rowD l : Nat) : Int)) ∧ Below w.heap.size w w' := by
  have Hn := hide hn
  clear hn
  go_enter Tryd.func18, Tryd.ntmps18
  go_wp2_with fail
  go_loopw [3, 4] (fun u i wr => ∃ k : Nat, k ≤ n ∧ i = .int .i64 k ∧ Grow w (.slice none 0 0) w.heap.size 5 1 wr u (4 * k) (bys (flatB 4 (l.take k)))) (fun _ i _ => n - (intOf i).toNat)
  case atStart => exact ⟨0, Nat.zero_le _, rfl, Grow.nil _ _ _⟩
  case round =>
    obtain ⟨k, hk, rfl, hG⟩ := hrel
    by_cases hlt : k < n
    · have hkl : k < l.length := by rw [Hn.out]; exact hlt
      have HS := hide (flatB_snoc 4 l k hkl)
      have hd := hb _ (List.getElem_mem hkl)
      obtain ⟨a, rfl, hc⟩ := (hr.below hG.all) k _ (u32s_get hkl)
      obtain ⟨d, hdd⟩ : ∃ d, l[k] = d := ⟨_, rfl⟩
      rw [hdd] at hc HS hd
      clear hdd
      have H4 := hide (four_cells hd)
      have hG' := hG.drew.alloc (.cells #[.int .u8 (IntKind.u8.wrap (d : Int)), .int .u8 (IntKind.u8.wrap ((d : Int) / 256)), .int .u8 (IntKind.u8.wrap ((d : Int) / 65536)), .int .u8 (IntKind.u8.wrap ((d : Int) / 16777216))] 5)
      have hN := Rd.newN wr.drew [.int .u8 (IntKind.u8.wrap (d : Int)), .int .u8 (IntKind.u8.wrap ((d : Int) / 256)), .int .u8 (IntKind.u8.wrap ((d : Int) / 65536)), .int .u8 (IntKind.u8.wrap ((d : Int) / 16777216))] 5 (0, 0)
      have hO := hG'.owns
      have hle := hG'.le
      have HG := hide hG'
      clear hG' hG
      go_wp2_with fail
      go_region_law (refine step_own (v := u3) rfl rfl tBytes (by simp [Act.eval]) hO (A := some ⟨wr.heap.size, 0, none⟩) (m := 4) (c := 4) (by simp [Act.eval]) (by rfl) hN (by intro u hu; simp at hu; rcases hu with rfl | rfl | rfl | rfl <;> rfl) (by omega) (by omega) hle ?_; intro v' w' ho' hg' hv'; have HG2 := hide (HG.out.trans ⟨ho', hg', hv'.imp id (fun e g hg => by rw [e] at hg; injection hg with hg; exact Nat.le_of_eq hg), hle⟩); clear ho' hg' hv')
      all_goals
        go_wp2
        go_roundw
        case rel =>
          refine ⟨k + 1, by omega, by go_num, ?_⟩
          rw [HS.out, bys_append, ← H4.out]
          exact HG2.out
        case measure => simp [intOf]; omega
    · have : k = n := by omega
      subst this
      obtain ⟨B, c2, rfl, _, _, _, hr2, _⟩ := own_out hG.owns
      go_wp2_with fail
      go_fit (rof_any B (4 * k) c2 (flatB 4 (l.take k)) wr (by rw [flatB_length, List.length_take, Hn.out]; omega) (by omega) hr2)
      rintro x w3 ⟨rfl, rfl⟩
      go_wp2
      go_ret
      exact ⟨by rw [List.take_of_length_le (by rw [Hn.out]; exact Nat.le_refl _)]; rfl, hG.all⟩
end Go.Proofs.YtcpnobhdogpfiaaDoor
