/- The law FrameBegins, walked. -/
import Derived.Test.YtaenoonadodbnaaDoorF03l
import Derived.Test.YtaenoonadodbnaaDoorF03k
import Derived.Test.YtaenoonadodbnaaDoorM03k
namespace Go.Proofs.YtaenoonadodbnaaDoor
open Go.RowKit Go.Px
set_option linter.unusedVariables false
def endsL (fs : List (Nat × Nat × List UInt8)) (j : Nat) : List Int := (List.range j).map fun t => ((offs fs (t + 1) : Nat) : Int)
theorem endsL_succ (fs : List (Nat × Nat × List UInt8)) (j : Nat) : endsL fs (j + 1) = endsL fs j ++ [((offs fs (j + 1) : Nat) : Int)] := by unfold endsL; rw [List.range_succ, List.map_append]; rfl
theorem endsL_length (fs : List (Nat × Nat × List UInt8)) (j : Nat) : (endsL fs j).length = j := by simp [endsL]
theorem endsL_get {fs : List (Nat × Nat × List UInt8)} {j t : Nat} (h : t < j) : (ints (endsL fs j))[t]? = some (.int .i64 ((offs fs (t + 1) : Nat) : Int)) := by
  simp [ints, endsL, h]
theorem tIntsF : SlT Tryd.prog 44 3 1 8 := slT_mk Tryd.underlying44 (z := .int .i64 0) (by kernel_rfl) rfl (by decide)
theorem offs_le {fs : List (Nat × Nat × List UInt8)} (hf : Fine fs) : ∀ j, j ≤ fs.length → offs fs j ≤ 520 * j
  | 0, _ => by show 0 ≤ _; omega
  | j + 1, h => by
    have hj : fs[j]? = some (fs[j]'(by omega)) := List.getElem?_eq_getElem (by omega)
    have := offs_le hf j (by omega)
    have := (hf _ (List.getElem_mem (show j < fs.length by omega))).2.2
    rw [offs_succ hj]; omega
theorem FrRows.take {w : World} {Q : Nat → Prop} {cs : List Value} {ps : List (Nat × Nat × List UInt8)} (h : FrRows w Q cs ps) {k : Nat} (hk : k ≤ ps.length) : FrRows w Q (cs.take (3 * k)) (ps.take k) := by
  have hl := h.1
  refine ⟨by rw [List.length_take, List.length_take]; omega, fun j p hp => ?_⟩
  rw [List.getElem?_take] at hp
  split at hp
  · rename_i hj
    obtain ⟨A, n, c, h1, h2, h3, h4⟩ := h.2 j p hp
    exact ⟨A, n, c, by rw [List.getElem?_take, if_pos (by omega)]; exact h1, by rw [List.getElem?_take, if_pos (by omega)]; exact h2, by rw [List.getElem?_take, if_pos (by omega)]; exact h3, h4⟩
  · cases hp
set_option maxRecDepth 200000 in
set_option maxHeartbeats 6400000 in
theorem frameBegins_walk (A : Option Addr) (n c : Nat) (fs : List (Nat × Nat × List UInt8)) (x : Nat) (w : World) (hn : fs.length = n) (hnc : n ≤ c) (hc : c ≤ 9223372036854775807) (hr : FrArg w A fs) (hx : x < 65536) (ht : Tab w) :
    Calls Tryd.prog 8 #[.slice A n c, .int .u16 x] w fun e w' => e = .returned (.bool true) ∧ Below w.heap.size w w' := by
  have hfine : Fine ((fs.take 20).map cut5) := by
    intro f hf
    obtain ⟨g, hg, rfl⟩ := List.mem_map.1 hf
    obtain ⟨j, hj⟩ := List.getElem?_of_mem (List.mem_of_mem_take hg)
    obtain ⟨a, A', m, c', _, h1, h2, _⟩ := hr j g hj
    exact ⟨h1, h2, by show (g.2.2.take 500).length ≤ 500; rw [List.length_take]; omega⟩
  have hL20 : ((fs.take 20).map cut5).length ≤ 20 := by rw [List.length_map, List.length_take]; omega
  have Hfew := hide (few_any A n c fs)
  have Hr := hide hr
  have Hn := hide hn
  clear hr hn
  go_enter Tryd.func8, Tryd.ntmps8
  go_wp2_with fail
  go_fit (awake03_any w ht)
  rintro e w1 ⟨rfl, hb1⟩
  have hr1 : FrArg w1 A fs := fun j f hj => by
    obtain ⟨a, A', m, c', h0, h1, h2, h3, h4, h5, h6, h7, h8, h9⟩ := Hr.out j f hj
    exact ⟨a, A', m, c', h0, h1, h2, cell_below3 hb1 h3, cell_below3 hb1 h4, cell_below3 hb1 h5, h6, h7, h8, h9.below hb1⟩
  go_wp2_with fail
  go_fit (Hfew.out w1 Hn.out hnc hc hr1)
  rintro e w2 ⟨o2, cs, rfl, ho2, hF1, hb2⟩
  clear hr1
  obtain ⟨F, hF'⟩ : ∃ F, (fs.take 20).map cut5 = F := ⟨_, rfl⟩
  rw [hF'] at ho2 hF1 hfine hL20
  clear hF'
  obtain ⟨A2, c2, rfl, hl2, hc2, hcm2, hr2, ha2⟩ := own_out ho2
  have hb02 := hb1.trans (hb2.mono hb1.size)
  have hF2 := hF1.below hb2
  have ht2 : Tab w2 := Rd.below ht hb02
  have hcl := hF2.1
  clear hF1 ho2
  obtain ⟨L, hL⟩ : ∃ L, F.length = L := ⟨_, rfl⟩
  rw [hL] at hL20 hc2 hl2
  rw [hL]
  have HL := hide hL
  clear hL
  obtain ⟨B1, hB1⟩ : ∃ x, w2.heap.size = x := ⟨_, rfl⟩
  go_wp2
  go_loopw [5, 6, 7] (fun bv ev i wr => ∃ (j : Nat), j ≤ L ∧ i = .int .i64 j ∧ wr.ownsRow B1 5 1 bv (offs F j) (bys (allB (F.take j))) ∧ wr.ownsRow B1 3 1 ev j (ints (endsL F j)) ∧ (∀ q, bv.ownBlock = some q → ev.ownBlock ≠ some q) ∧ Below w2.heap.size w2 wr) (fun _ _ i _ => L - (intOf i).toNat)
  case atStart => exact ⟨0, by omega, rfl, World.ownsRow_nil _ _ _ _, World.ownsRow_nil _ _ _ _, by intro q hq; simp [Value.ownBlock] at hq, Below.refl _ _⟩
  case round =>
    obtain ⟨j, hj, rfl, hob, hoe, hne, hbw⟩ := hrel
    have hszw := hbw.size
    have lob := own_lt3 hob
    have loe := own_lt3 hoe
    by_cases hlt : j < L
    · obtain ⟨p, hp⟩ : ∃ p, F[j]? = some p := ⟨_, List.getElem?_eq_getElem (by have := HL.out; omega)⟩
      obtain ⟨A', m, c', h1, h2, h3, h4, h5, h6, h7, h8⟩ := (hF2.below hbw).2 j p hp
      obtain ⟨a, rfl, hat⟩ := (hr2.below hbw).some_of (xs := cs) (by have := HL.out; omega)
      have hfm := hfine p (List.mem_of_getElem? hp)
      have hos := offs_succ hp
      have hol := offs_le hfine j (by have := HL.out; omega)
      have hal : allB (F.take (j + 1)) = allB (F.take j) ++ frB p := by
        rw [List.take_add_one, hp, allB_append]
        show _ ++ (frB p ++ []) = _
        rw [List.append_nil]
      have hel := endsL_succ F j
      obtain ⟨p1, p2, pd⟩ := p
      simp only at h1 h2 h4 h7 hfm hos
      have hfb : frB (p1, p2, pd) = frmB p1 p2 pd := rfl
      rw [hfb] at hal
      have y0 := fr3_0 hat h1
      have y1 := fr3_S (i := 0) hat h2
      have y2 := fr3_S (i := 1) hat h3
      have htw : Tab wr := Rd.below ht2 hbw
      have H4 := hide h4
      have Hal := hide hal
      have Hel := hide hel
      rw [h4] at hos hfm
      obtain ⟨O, hO⟩ : ∃ x, offs F j = x := ⟨_, rfl⟩
      obtain ⟨O', hO'⟩ : ∃ x, offs F (j + 1) = x := ⟨_, rfl⟩
      rw [hO] at hos hol hob
      rw [hO'] at hos
      have HO := hide hO
      have HO' := hide hO'
      have hO'b : O' ≤ 10920 := by have := hfm.2.2; omega
      have Hos := hide hos
      clear h4 hal hel hfb hO hO' hos
      go_wp2_with fail
      go_fit (fwrite_any p1 p2 A' m c' pd wr H4.out (by omega) h5 h6 h7 hfm.1 hfm.2.1 htw)
      rintro e w3 ⟨v3, rfl, ho3, hb3⟩
      obtain ⟨A3, c3, rfl, hl3, hc3, hcm3, hr3, ha3⟩ := own_out ho3
      have hsz3 := hb3.size
      have hob3 := own_below hob hb3
      have hoe3 := own_below hoe hb3
      go_wp2_with (first | (with_reducible refine stop_append rfl ?_) | (with_reducible refine stop_copy rfl ?_) | (with_reducible refine stop_make rfl ?_))
      refine go_append (v := u5) rfl rfl tBytes rfl hob3 rfl (m := m + 20) (news := bys (frmB p1 p2 pd)) hl3 hr3 (bys_one _) (by omega) (by omega) (by omega) ?_
      intro v4 w4 hob4 hg4 hv4
      have hsz4 := hg4.size
      have hoe4 := own_grown3 hoe3 hg4 (fun q hq e => hne q e hq)
      have lob4 := own_lt3 hob4
      have hne4 : ∀ q, v4.ownBlock = some q → Value.ownBlock u6 ≠ some q := fun q hq e => by
        rcases hv4 with e' | e'
        · rw [e'] at hq; exact hne q hq e
        · rw [e'] at hq; injection hq with hq; have := (loe q e).2; omega
      have hb4 : Below w2.heap.size w2 w4 := (hbw.trans (hb3.mono hszw)).grown hg4 (by omega) (fun q hq => by have := (lob q hq).1; omega)
      have hO4 : O + (m + 20) = O' := by have := Hos.out; omega
      rw [hO4] at hob4
      clear hO4
      obtain ⟨A4, c4, rfl, _, _, _, _, _⟩ := own_out hob4
      obtain ⟨w5, hw5⟩ : ∃ x, w4.alloc (.cells #[.int .i64 (O' : Nat)] 3) = x := ⟨_, rfl⟩
      have hb45 : Below w4.heap.size w4 w5 := by rw [← hw5]; exact (Below.refl _ _).alloc (Nat.le_refl _) _
      have hnew : Rd w5 (some ⟨w4.heap.size, 0, none⟩) [.int .i64 (O' : Nat)] := by rw [← hw5]; exact Rd.new1 _ _ _
      have hsz5 : w4.heap.size + 1 = w5.heap.size := by rw [← hw5, World.size_alloc]
      have hob5 := own_below hob4 hb45
      have hoe5 := own_below hoe4 hb45
      have hb5 := hb4.trans (hb45.mono hb4.size)
      have Hw5 := hide hw5
      clear hw5 hv4 hg4
      go_wp2_with (first | (with_reducible refine stop_append rfl ?_) | (with_reducible refine stop_copy rfl ?_) | (with_reducible refine stop_make rfl ?_))
      rw [Hw5.out]
      refine go_append (v := u6) rfl rfl tIntsF rfl hoe5 rfl (m := 1) (news := [.int .i64 (O' : Nat)]) rfl hnew (by intro u hu; simp at hu; subst hu; rfl) (by omega) (by omega) (by omega) ?_
      intro v6 w6 hoe6 hg6 hv6
      have hob6 := own_grown3 hob5 hg6 (fun q hq e => hne4 q hq e)
      have hb6 : Below w2.heap.size w2 w6 := hb5.grown hg6 (by have := hb4.size; omega) (fun q hq => by have := (loe q hq).1; omega)
      have hb6n : ∀ q, (Value.slice A4 O' c4).ownBlock = some q → v6.ownBlock ≠ some q := fun q hq e => by
        rcases hv6 with e' | e'
        · rw [e'] at e; exact hne4 q hq e
        · rw [e'] at e; injection e with e; have := (lob4 q hq).2; omega
      go_wp2
      go_roundw
      case rel => exact ⟨j + 1, by omega, by go_num, by rw [HO'.out, Hal.out, bys_append]; exact hob6, by rw [Hel.out, ints_append, HO'.out]; exact hoe6, hb6n, hb6⟩
      case measure => simp [intOf]; omega
    · obtain rfl : j = L := by omega
      have hol := offs_le hfine j (by rw [HL.out]; exact Nat.le_refl _)
      have htk : F.take j = F := List.take_of_length_le (by rw [HL.out]; exact Nat.le_refl _)
      rw [htk] at hob
      have hall : offs F j = (allB F).length := by unfold offs; rw [htk]
      obtain ⟨A5, c5, rfl, hl5, hc5, hcm5, hr5, _⟩ := own_out hob
      obtain ⟨A6, c6, rfl, hl6, hc6, hcm6, hr6, _⟩ := own_out hoe
      obtain ⟨O, hO⟩ : ∃ y, offs F j = y := ⟨_, rfl⟩
      rw [hO] at hall hol hl5 hc5
      rw [hO]
      have HO := hide hO
      clear hO htk
      obtain ⟨k, hk⟩ : ∃ k, x % (O + 1) = k := ⟨_, rfl⟩
      have hkO : k ≤ O := by rw [← hk]; have := Nat.mod_lt x (show 0 < O + 1 by omega); omega
      have hkI : ((x : Int) % ((O : Int) + 1)) = (k : Int) := by rw [← hk]; push_cast; rfl
      have Hall := hide hall
      clear hall
      have htr : Tab wr := Rd.below ht2 hbw
      have hr2r := hr2.below hbw
      have hFr := hF2.below hbw
      have hkl : ((allB F).take k).length = k := by rw [List.length_take, ← Hall.out]; omega
      have hr5k : Rd wr A5 (bys ((allB F).take k)) := by rw [bys_take]; exact hr5.take k
      have hkall : k ≤ (allB F).length := by rw [← Hall.out]; exact hkO
      have HK := hide hkI
      have Hkl := hide hkl
      have Hkall := hide hkall
      have hb0r : Below w.heap.size w wr := hb02.trans (hbw.mono hb02.size)
      clear hk hkl hkall hob hoe hne lob loe hl5 hl6 hr5
      go_wp2_with fail
      rw [hkI]
      clear hkI
      go_loop [11] (fun i => ∃ (W : Nat), W ≤ j ∧ i = .int .i64 W ∧ ∀ t, t < W → offs F (t + 1) ≤ k) (fun i => j - (intOf i).toNat)
      case atStart => exact ⟨0, by omega, rfl, fun t ht => by omega⟩
      case round =>
        obtain ⟨W, hWj, rfl, hWk⟩ := hrel
        by_cases hlt2 : W < j
        · obtain ⟨a6, rfl, hat6⟩ := hr6.some_of (xs := ints (endsL F j)) (by simp [ints, endsL_length]; omega)
          have hc6' := hat6 W _ (endsL_get hlt2)
          obtain ⟨E, hE⟩ : ∃ y, offs F (W + 1) = y := ⟨_, rfl⟩
          rw [hE] at hc6'
          have HE := hide hE
          clear hE
          by_cases hle : E ≤ k
          · go_wp2
            go_round
            case rel => exact ⟨W + 1, by omega, by go_num, fun t ht => by
              rcases Nat.lt_or_ge t W with h | h
              · exact hWk t h
              · obtain rfl : t = W := by omega
                rw [HE.out]; exact hle⟩
            case measure => simp [intOf]; omega
          · have h1 : offs F W ≤ k := by
              rcases W with _ | V
              · show 0 ≤ k; omega
              · exact hWk V (by omega)
            have Hs := hide (scan_begins hfine Hkall.out (show W ≤ F.length by rw [HL.out]; omega) h1 (fun _ => by rw [HE.out]; omega))
            clear h1
            go_wp2_with fail
            go_fit (fscan_any A5 k c5 ((allB F).take k) wr Hkl.out (by omega) (by omega) (by unfold maxLen at hcm5; omega) hr5k htr)
            rintro e w3 ⟨J, o3, cs3, rfl, hE3, ho3, hF3, hb3⟩
            obtain rfl : J = W := hE3.one Hs.out.1
            rw [Hs.out.2.1] at hF3
            rw [Hs.out.2.2 J (Nat.le_refl _)]
            obtain ⟨P, hP⟩ : ∃ y, offs F J = y := ⟨_, rfl⟩
            rw [hP]
            have HP := hide hP
            clear hP hE3
            obtain ⟨A4, c4, rfl, _, hc4, hcm4, hr4, _⟩ := own_out ho3
            have hFt := (hFr.take (k := J) (by rw [HL.out]; omega)).below hb3
            have hrt := (hr2r.take (3 * J)).below hb3
            have hlt : (F.take J).length = J := by rw [List.length_take, HL.out]; omega
            have Hlt := hide hlt
            clear hlt
            have hb03 := hb0r.trans (hb3.mono hb0r.size)
            go_wp2_with fail
            go_fit (sameAll_eq A4 J c4 cs3 A2 c2 (cs.take (3 * J)) (F.take J) _ _ w3 Hlt.out hc4 (by unfold maxLen at hcm4; omega) hr4 hrt hF3 hFt)
            rintro e w4 ⟨rfl, hb4⟩
            have hb04 := hb03.trans (hb4.mono hb03.size)
            rcases J with _ | V
            · have hP0 : P = 0 := by rw [← HP.out]; rfl
              subst hP0
              go_wp2
              go_ret
              exact ⟨rfl, hb04⟩
            · have hc7 := cell_below3 hb4 (cell_below3 hb3 (hat6 V _ (endsL_get (show V < j by omega))))
              rw [HP.out] at hc7
              go_wp2
              go_ret
              exact ⟨rfl, hb04⟩
        · obtain rfl : W = j := by omega
          have h1 : offs F W ≤ k := by
            rcases W with _ | V
            · show 0 ≤ k; omega
            · exact hWk V (by omega)
          have Hs := hide (scan_begins hfine Hkall.out (show W ≤ F.length by rw [HL.out]; omega) h1 (fun h => absurd h (by rw [HL.out]; omega)))
          clear h1
          go_wp2_with fail
          go_fit (fscan_any A5 k c5 ((allB F).take k) wr Hkl.out (by omega) (by omega) (by unfold maxLen at hcm5; omega) hr5k htr)
          rintro e w3 ⟨J, o3, cs3, rfl, hE3, ho3, hF3, hb3⟩
          obtain rfl : J = W := hE3.one Hs.out.1
          rw [Hs.out.2.1] at hF3
          rw [Hs.out.2.2 J (Nat.le_refl _)]
          obtain ⟨P, hP⟩ : ∃ y, offs F J = y := ⟨_, rfl⟩
          rw [hP]
          have HP := hide hP
          clear hP hE3
          obtain ⟨A4, c4, rfl, _, hc4, hcm4, hr4, _⟩ := own_out ho3
          have hFt := (hFr.take (k := J) (by rw [HL.out]; omega)).below hb3
          have hrt := (hr2r.take (3 * J)).below hb3
          have hlt : (F.take J).length = J := by rw [List.length_take, HL.out]; omega
          have Hlt := hide hlt
          clear hlt
          have hb03 := hb0r.trans (hb3.mono hb0r.size)
          go_wp2_with fail
          go_fit (sameAll_eq A4 J c4 cs3 A2 c2 (cs.take (3 * J)) (F.take J) _ _ w3 Hlt.out hc4 (by unfold maxLen at hcm4; omega) hr4 hrt hF3 hFt)
          rintro e w4 ⟨rfl, hb4⟩
          have hb04 := hb03.trans (hb4.mono hb03.size)
          rcases J with _ | V
          · have hP0 : P = 0 := by rw [← HP.out]; rfl
            subst hP0
            go_wp2
            go_ret
            exact ⟨rfl, hb04⟩
          · obtain ⟨a6, rfl, hat6⟩ := hr6.some_of (xs := ints (endsL F (V + 1))) (by simp [ints, endsL_length])
            have hc7 := cell_below3 hb4 (cell_below3 hb3 (hat6 V _ (endsL_get (show V < V + 1 by omega))))
            rw [HP.out] at hc7
            go_wp2
            go_ret
            exact ⟨rfl, hb04⟩
end Go.Proofs.YtaenoonadodbnaaDoor
