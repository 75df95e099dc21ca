/- Package sector: Crash. -/
import Derived.Test.YtdianokikhggnaaF08l
import Derived.Test.YtdianokikhggnaaTy8
namespace Go.Proofs.Ytdianokikhggnaa
set_option maxRecDepth 20000
open Go.RowKit Go.Px Go.Maps
set_option linter.unusedVariables false
section
variable {w : World} {Q : Nat → Prop} {t f lm bm : Nat} {d : Dk}
theorem intD_at08 {l : List Int} {i : Nat} (h : i < l.length) : l.getD i 0 = l[i] := by simp [List.getD_eq_getElem?_getD, List.getElem?_eq_getElem h]
/-- What a crash makes of one sector that is loose. -/
def Dk.crashStep (keep : List Bool) (torn cut : Int) (d : Dk) (k : Nat) (i : Int) : Dk :=
  if (k : Int) = torn then (if d.bad i = true then d else d.fasten i.toNat (tornB d.size ((d.loose i).getD []) (d.fast.getD i.toNat []) cut))
  else if keep.getD k false = true then d.fasten i.toNat ((d.loose i).getD []) else d
def Dk.crashTo (keep : List Bool) (torn cut : Int) (d : Dk) (l : List Int) : Nat → Dk
  | 0 => d
  | k + 1 => (Dk.crashTo keep torn cut d l k).crashStep keep torn cut k (l.getD k 0)
def Dk.crash (keep : List Bool) (torn cut : Int) (d : Dk) : Dk := { { d.crashTo keep torn cut d.looseL d.looseL.length with loose := fun _ => none } with fuse := -1 }
theorem Dk.crashStep_same (keep : List Bool) (torn cut : Int) (d : Dk) (k : Nat) (i : Int) : (d.crashStep keep torn cut k i).size = d.size ∧ (d.crashStep keep torn cut k i).fast.length = d.fast.length ∧ (0 ≤ i → ∀ x, x ≠ i → (d.crashStep keep torn cut k i).loose x = d.loose x) := by
  have hf : ∀ b, (d.fasten i.toNat b).size = d.size ∧ (d.fasten i.toNat b).fast.length = d.fast.length ∧ (0 ≤ i → ∀ x, x ≠ i → (d.fasten i.toNat b).loose x = d.loose x) := fun b =>
    ⟨(d.fasten_same _ b).1, (d.fasten_same _ b).2.1, fun h0 x hx => by rw [Dk.fasten_loose, if_neg (by omega)]⟩
  unfold Dk.crashStep
  split
  · split
    · exact ⟨rfl, rfl, fun _ _ _ => rfl⟩
    · exact hf _
  · split
    · exact hf _
    · exact ⟨rfl, rfl, fun _ _ _ => rfl⟩
theorem Dk.crashTo_same (keep : List Bool) (torn cut : Int) (d : Dk) (l : List Int) (h0 : ∀ y ∈ l, 0 ≤ y) : ∀ k, k ≤ l.length → (d.crashTo keep torn cut l k).size = d.size ∧ (d.crashTo keep torn cut l k).fast.length = d.fast.length ∧ ∀ x, x ∉ l.take k → (d.crashTo keep torn cut l k).loose x = d.loose x
  | 0, _ => ⟨rfl, rfl, fun _ _ => rfl⟩
  | k + 1, hk => by
    obtain ⟨i1, i2, i3⟩ := Dk.crashTo_same keep torn cut d l h0 k (by omega)
    obtain ⟨j1, j2, j3⟩ := Dk.crashStep_same keep torn cut (d.crashTo keep torn cut l k) k (l.getD k 0)
    have hg : l.getD k 0 = l[k] := intD_at08 (by omega)
    refine ⟨j1.trans i1, j2.trans i2, fun x hx => ?_⟩
    rw [List.take_succ_eq_append_getElem (by omega), List.mem_append, List.mem_singleton, not_or] at hx
    show ((d.crashTo keep torn cut l k).crashStep keep torn cut k (l.getD k 0)).loose x = _
    rw [j3 (by rw [hg]; exact h0 _ (List.getElem_mem _)) x (by rw [hg]; exact hx.2), i3 x hx.1]
set_option maxHeartbeats 3200000 in
theorem crash08_any (h : DIs w Q t f lm bm d) (hQ : ∀ b, w.heap.size ≤ b → Q b) (K : Option Addr) (kn kc : Nat) (keep : List Bool) (torn cut : Int) (hc1 : -9223372036854775808 ≤ cut) (hc2 : cut ≤ 9223372036854775807) (hkn : keep.length = kn) (hk63 : kn ≤ 9223372036854775807) (hrk : Rd w K (bls keep)) (hK : bls keep ≠ [] → ∀ a, K = some a → ¬ OwnB t f lm bm a.block) :
    Calls Try.prog 17 #[.pointer (some ⟨t, 0, none⟩), .agg #[.slice K kn kc, .int .i64 torn, .int .i64 cut]] w fun e w' => e = .returned (.int .i64 0) ∧ DIs w' Q t f lm bm (d.crash keep torn cut) ∧ Fr (OwnB t f lm bm) w w' := by
  obtain ⟨g, hg⟩ : ∃ g, w.heap.size = g := ⟨_, rfl⟩
  obtain ⟨w0, hw0⟩ : ∃ y, w.alloc (.cells #[.slice K kn kc, .int .i64 torn, .int .i64 cut] 32) = y := ⟨_, rfl⟩
  have hG : Blk w0 g [.slice K kn kc, .int .i64 torn, .int .i64 cut] 32 := by rw [← hw0, ← hg]; exact Blk.new w _ _
  have hb0 : Below w.heap.size w w0 := by rw [← hw0]; exact (Below.refl _ _).alloc (Nat.le_refl _) _
  have h0 := h.below hb0
  have HM := hide (made08_any h0)
  have HLO := hide (loose08_any h0)
  have ok := h.ok
  have hN := h.ok.n2
  have hll := d.looseL_len
  have hlts := h.lts
  have hrk0 := hrk.below hb0
  obtain ⟨L, hL⟩ : ∃ L, d.looseL = L := ⟨_, rfl⟩
  have hcr : d.crash keep torn cut = { { d.crashTo keep torn cut L L.length with loose := fun _ => none } with fuse := -1 } := by unfold Dk.crash; rw [hL]
  have hget : ∀ (k : Nat) (hk : k < L.length), ∃ bs, d.loose L[k] = some bs ∧ 0 ≤ L[k] ∧ L[k] < d.fast.length ∧ bs.length = d.size ∧ L[k] ∉ L.take k := by subst hL; exact fun k hk => Dk.looseL_get ok hk
  have h0L : ∀ y ∈ L, 0 ≤ y := fun y hy => by
    rw [← hL] at hy
    obtain ⟨b, hb⟩ := Option.isSome_iff_exists.1 ((Dk.mem_looseL ok).1 hy)
    exact (ok.lo _ b hb).1
  rw [hL] at HLO hll
  have HCR := hide hcr
  have Hget := hide hget
  have H0L := hide h0L
  have HQ := hide hQ
  have HK := hide hK
  have H0 := hide h0
  obtain ⟨m, hm⟩ : ∃ m, L.length = m := ⟨_, rfl⟩
  rw [hm] at HLO hll HCR
  have Hm := hide hm
  have Hw0 := hide hw0
  have Hg := hide hg
  clear h h0 hL hcr hget h0L hQ hK hm hw0 hg hrk ok
  go_enter Try.func17, Try.ntmps17
  go_wp2_with fail
  rw [Hw0.out, Hg.out]
  go_fit HM.out
  rintro x w1 ⟨rfl, rfl⟩
  go_wp2_with fail
  refine HLO.out.mono ?_
  rintro x w3 ⟨A, c, rfl, hLc, hc, hr3, hA3, hb3⟩
  have hz0 := hb0.size
  have hgw : w.heap.size = g := Hg.out
  have hD3 := H0.out.below hb3
  have hF3 : Fr (OwnB t f lm bm) w w3 := (Fr.of_below hb0).trans' (Y := fun _ => False) (Fr.of_below hb3) (fun b hb => hb.elim)
  have hG3 := hG.below hb3
  have hK3 := hrk0.below hb3
  have hnA : ∀ a, A = some a → ¬ OwnB t f lm bm a.block := fun a ha hx => by
    have := hA3 a ha
    rcases hx with h | h | h | h <;> omega
  have hnG : ¬ OwnB t f lm bm g := fun hx => by rcases hx with h | h | h | h <;> omega
  have HnA := hide hnA
  have hgl := hG.lt
  clear hnA HLO HM hG hrk0 hA3
  have HgE := hide hgw
  clear hgw
  go_wp2_with fail
  go_loopw [15] (fun s W => ∃ k : Nat, s = .int .i64 (k : Int) ∧ k ≤ m ∧ DIs W Q t f lm bm (d.crashTo keep torn cut L k) ∧ Fr (OwnB t f lm bm) w W ∧ Rd W A (ints L) ∧ Blk W g [.slice K kn kc, .int .i64 torn, .int .i64 cut] 32 ∧ Rd W K (bls keep)) (fun s _ => m - (RowKit.intOf s).toNat)
  case atStart => exact ⟨0, rfl, by omega, hD3, hF3, hr3, hG3, hK3⟩
  case round =>
    obtain ⟨k, rfl, hkm, hDk, hFk, hrk, hGk, hKk⟩ := hrel
    by_cases hlt : k < m
    · have hkl : k < L.length := by rw [Hm.out]; exact hlt
      obtain ⟨a, ha, hca⟩ := hrk k _ (ints_get hkl)
      subst ha
      obtain ⟨bs, g1, g2, g3, g4, g5⟩ := Hget.out k hkl
      obtain ⟨s1, s2, s3⟩ := Dk.crashTo_same keep torn cut d L H0L.out k (by rw [Hm.out]; omega)
      have hlk : (d.crashTo keep torn cut L k).loose L[k] = some bs := by rw [s3 _ g5]; exact g1
      have hnx : d.crashTo keep torn cut L (k + 1) = (d.crashTo keep torn cut L k).crashStep keep torn cut k L[k] := by
        show (d.crashTo keep torn cut L k).crashStep keep torn cut k (L.getD k 0) = _
        rw [intD_at08 hkl]
      obtain ⟨i, hi⟩ : ∃ i : Nat, L[k] = (i : Int) := ⟨(L[k]).toNat, by omega⟩
      rw [hi] at hca g3 hlk hnx
      obtain ⟨dk, hdk⟩ : ∃ dk, d.crashTo keep torn cut L k = dk := ⟨_, rfl⟩
      rw [hdk] at hDk s1 s2 hlk hnx
      have hiN : i < dk.fast.length := by omega
      have hb6 : Below wr.heap.size wr (wr.alloc (.cells #[] 75)) := (Below.refl _ _).alloc (Nat.le_refl _) _
      have hlb := hDk.look_ba (i := (i : Int)) (by omega) (by omega)
      obtain ⟨cb, bb, _⟩ := hDk.blk
      have y3 := bb.cell (j := 3) rfl
      have hD6 := hDk.below hb6
      have hlb6 := hD6.look_ba (i := (i : Int)) (by omega) (by omega)
      have y36 := (bb.below hb6).cell (j := 3) rfl
      obtain ⟨A6, n6, c6, hlook, e1, e2, e3, e4, e5⟩ := hD6.look_some hlk
      have y26 := (bb.below hb6).cell (j := 2) rfl
      have HTO := hide (torn08_any hD6 i hiN bs hlk cut hc1 hc2)
      have HFA := hide (fasten08_any hD6 i A6 n6 c6 bs hiN (by omega) ⟨A6, n6, c6, rfl, e2, e3, .inr ⟨e1, e4, e5⟩⟩)
      have hF6 := hFk.trans (Fr.of_below (X := OwnB t f lm bm) hb6)
      have hG6 := hGk.below hb6
      have k0 := hG6.cell (j := 0) rfl
      have k1 := hG6.cell (j := 1) rfl
      have k2 := hG6.cell (j := 2) rfl
      have hr6 := hrk.below hb6
      have hK6 := hKk.below hb6
      have hszk := hF6.size
      have hgt : dk.loose (i : Int) = some bs := hlk
      have hlk0 := hlk
      have hfd : dk.fast.getD i [] = dk.fast[i] := by rw [List.getD_eq_getElem?_getD, List.getElem?_eq_getElem hiN]; rfl
      have hstep : dk.crashStep keep torn cut k (i : Int) = if (k : Int) = torn then (if dk.bad (i : Int) = true then dk else dk.fasten i (tornB dk.size bs dk.fast[i] cut)) else if keep.getD k false = true then dk.fasten i bs else dk := by
        unfold Dk.crashStep
        rw [Int.toNat_natCast, hgt, hfd]; rfl
      rw [hstep] at hnx
      obtain ⟨bd, hbd⟩ : ∃ bd, dk.bad (i : Int) = bd := ⟨_, rfl⟩
      rw [hbd] at hlb hlb6 hnx
      have hS := hD6.ok.s2
      clear hstep hbd hDk hFk hrk hGk hKk bb hgt hfd g1 g2 g3 g4 g5 s1 s2 s3 hlk e1 e2 e3 e4 e5
      by_cases hkt : (k : Int) = torn
      · have q1 : ((k : Int) == torn) = true := by simp [hkt]
        have q1' : ((k : Int) != torn) = false := by simp [hkt]
        rw [if_pos hkt] at hnx
        clear hkt
        cases bd with
        | true =>
          have hnx2 := hide (show d.crashTo keep torn cut L (k + 1) = dk from by rw [hnx]; rfl)
          have HD6 := hide hD6
          have HF6 := hide hF6
          clear hnx hD6 hF6
          go_wp2
          go_roundw
          case rel => exact ⟨k + 1, by go_num, by omega, by rw [hnx2.out]; exact HD6.out, HF6.out, hr6, hG6, hK6⟩
          case measure => simp [RowKit.intOf]; omega
        | false =>
          have hnx2 := hide (show d.crashTo keep torn cut L (k + 1) = dk.fasten i (tornB dk.size bs dk.fast[i] cut) from by rw [hnx]; rfl)
          have htl : (tornB dk.size bs dk.fast[i] cut).length = dk.size := tornB_len (hD6.ok.lo _ _ hlk0).2.2 (hD6.ok.fl _ (List.getElem_mem hiN)) cut
          obtain ⟨tb, htb⟩ : ∃ tb, tornB dk.size bs dk.fast[i] cut = tb := ⟨_, rfl⟩
          rw [htb] at HTO hnx2 htl
          obtain ⟨o, ho⟩ : ∃ o, (wr.alloc (.cells #[] 75)).heap.size = o := ⟨_, rfl⟩
          rw [ho] at HTO hszk
          have Ho := hide ho
          clear ho
          have HD6 := hide hD6
          have HF6 := hide hF6
          clear hnx hD6 hF6 htb
          go_wp2_with fail
          refine HTO.out.mono ?_
          rintro x w7 ⟨rfl, hr7, hz7, hb7⟩
          have hFA := hide (fasten08_any (HD6.out.below (by rw [Ho.out]; exact hb7)) i (some ⟨o, 0, none⟩) dk.size dk.size tb hiN htl ⟨_, _, _, rfl, Nat.le_refl _, by omega, .inr ⟨htl, hr7, fun a ha => by injection ha with ha; rw [← ha]; exact HQ.out _ hszk⟩⟩)
          have hb7' : Below (wr.alloc (.cells #[] 75)).heap.size (wr.alloc (.cells #[] 75)) w7 := by rw [Ho.out]; exact hb7
          have hr7' := hr6.below hb7'
          have hG7 := hG6.below hb7'
          have hK7 := hK6.below hb7'
          clear HTO
          go_wp2_with fail
          refine hFA.out.mono ?_
          rintro x w8 ⟨rfl, hD8, hF8⟩
          rw [← hnx2.out] at hD8
          have HD8 := hide hD8
          have HF8 := hide (HF6.out.trans ((Fr.of_below (X := OwnB t f lm bm) hb7').trans hF8))
          have Hr8 := hide (hr7'.fr hF8 (fun _ x hx => HnA.out x hx))
          have HG8 := hide (hG7.fr hF8 hnG)
          have HK8 := hide (hK7.fr hF8 (fun hne x hx => HK.out hne x hx))
          clear hD8 hF8
          go_wp2
          go_roundw
          case rel => exact ⟨k + 1, by go_num, by omega, HD8.out, HF8.out, Hr8.out, HG8.out, HK8.out⟩
          case measure => simp [RowKit.intOf]; omega
      · have q1 : ((k : Int) == torn) = false := by simp [hkt]
        have q1' : ((k : Int) != torn) = true := by simp [hkt]
        rw [if_neg hkt] at hnx
        clear hkt
        by_cases hkk : k < kn
        · have hkl2 : k < keep.length := by rw [hkn]; exact hkk
          obtain ⟨ak, rfl, hck⟩ := hK6 k _ (bls_get hkl2)
          have hgd : keep.getD k false = keep[k] := by simp [List.getD_eq_getElem?_getD, List.getElem?_eq_getElem hkl2]
          rw [hgd] at hnx
          obtain ⟨kb, hkb⟩ : ∃ kb, keep[k] = kb := ⟨_, rfl⟩
          rw [hkb] at hck hnx
          clear hgd hkb hkl2
          cases kb with
          | true =>
            have hnx2 := hide (show d.crashTo keep torn cut L (k + 1) = dk.fasten i bs from by rw [hnx]; rfl)
            have HF6 := hide hF6
            clear hnx hD6 hF6 HTO
            go_wp2_with fail
            refine HFA.out.mono ?_
            rintro x w8 ⟨rfl, hD8, hF8⟩
            rw [← hnx2.out] at hD8
            have HD8 := hide hD8
            have HF8 := hide (HF6.out.trans hF8)
            have Hr8 := hide (hr6.fr hF8 (fun _ x hx => HnA.out x hx))
            have HG8 := hide (hG6.fr hF8 hnG)
            have HK8 := hide (hK6.fr hF8 (fun hne x hx => HK.out hne x hx))
            clear hD8 hF8
            go_wp2
            go_roundw
            case rel => exact ⟨k + 1, by go_num, by omega, HD8.out, HF8.out, Hr8.out, HG8.out, HK8.out⟩
            case measure => simp [RowKit.intOf]; omega
          | false =>
            have hnx2 := hide (show d.crashTo keep torn cut L (k + 1) = dk from by rw [hnx]; rfl)
            have HD6 := hide hD6
            have HF6 := hide hF6
            clear hnx hD6 hF6
            go_wp2
            go_roundw
            case rel => exact ⟨k + 1, by go_num, by omega, by rw [hnx2.out]; exact HD6.out, HF6.out, hr6, hG6, hK6⟩
            case measure => simp [RowKit.intOf]; omega
        · have q3 : decide (k < kn) = false := decide_eq_false hkk
          have hgd : keep.getD k false = false := by
            rw [List.getD_eq_getElem?_getD, List.getElem?_eq_none (by rw [hkn]; omega)]; rfl
          rw [hgd] at hnx
          clear hgd
          have hnx2 := hide (show d.crashTo keep torn cut L (k + 1) = dk from by rw [hnx]; rfl)
          have HD6 := hide hD6
          have HF6 := hide hF6
          clear hnx hD6 hF6
          go_wp2
          go_roundw
          case rel => exact ⟨k + 1, by go_num, by omega, by rw [hnx2.out]; exact HD6.out, HF6.out, hr6, hG6, hK6⟩
          case measure => simp [RowKit.intOf]; omega
    · have hke : k = m := by omega
      subst hke
      obtain ⟨cb, bb, _⟩ := hDk.blk
      have y2 := bb.cell (j := 2) rfl
      obtain ⟨w5, hclr, hD5, hF5⟩ := hDk.clear_lo 0
      obtain ⟨cd, b5, _⟩ := hD5.blk
      have y4 := b5.cell (j := 4) rfl
      have f4 := b5.frozen 4
      obtain ⟨hD9, hF9⟩ := hD5.put_fuse (z := -1) (by omega) (by omega)
      have H := hide (And.intro hD9 (hFk.trans ((fr_own hF5 (.inr (.inr (.inl rfl)))).trans (fr_own hF9 (.inl rfl)))))
      clear hDk hFk hrk hGk hKk bb hD5 hF5 b5 hD9 hF9
      go_wp2
      go_ret
      exact ⟨rfl, by rw [HCR.out]; exact H.out.1, H.out.2⟩
end
end Go.Proofs.Ytdianokikhggnaa
