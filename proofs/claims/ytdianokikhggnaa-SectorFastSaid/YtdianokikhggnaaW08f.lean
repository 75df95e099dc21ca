/- Laws 8: SectorFast: the walk. -/
import Derived.Test.YtdianokikhggnaaG08g
import Derived.Deep.CutBlock
import Derived.Deep.CutRange
namespace Go.Proofs.Ytdianokikhggnaa
set_option maxRecDepth 20000
open Go.RowKit Go.Px Go.Maps
set_option linter.unusedVariables false
section
variable {w w' : World} {t f lm bm : Nat} {d d0 d1 : Dk}
theorem rd_lo08 {A : Option Addr} {xs : List Value} {B : Nat} (h : Rd w A xs) (hl : xs ≠ [] → ∀ a, A = some a → a.block < B) (hb : Below B w w') : Rd w' A xs := fun j u hu => by
  obtain ⟨a, rfl, hc⟩ := h j u hu
  exact ⟨a, rfl, (hb.cell (p := a.add j) (by rw [add_block]; exact hl (fun e => by rw [e] at hu; simp at hu) a rfl)).trans hc⟩
theorem asc_lt08 {l : List Int} (h : Asc l) {j k : Nat} (hk : k < l.length) (hjk : j < k) : l[j] < l[k] := List.pairwise_iff_getElem.1 h j k (by omega) hk hjk
/-- A disk that shares bytes alone with another is not turned by what that one does. -/
theorem DIs.apart {L x xf xl xm : Nat} (h : DIs w (fun b => NotOwn t f lm bm b ∧ b < L) x xf xl xm d) (ho : ∀ b, OwnB x xf xl xm b → ¬ OwnB t f lm bm b) (hF : Fr (OwnB t f lm bm) w w') : DIs w' (fun b => NotOwn t f lm bm b ∧ b < L) x xf xl xm d :=
  h.fr hF (ho _ (.inl rfl)) (ho _ (.inr (.inl rfl))) (ho _ (.inr (.inr (.inl rfl)))) (ho _ (.inr (.inr (.inr rfl)))) (fun b hb => hb.1)
end
set_option maxRecDepth 20000 in
set_option maxHeartbeats 6400000 in
theorem sectorFast_walk (n s : Int) (A : Option Addr) (m c : Nat) (ops : List Op08D) (vs : List Value) (A2 : Option Addr) (m2 c2 : Nat) (ops2 : List Op08D) (vs2 : List Value) (K : Option Addr) (kn kc : Nat) (keep : List Bool) (torn cut : Int) (w : World) (hA : RowAt tyOp08 w w.heap.size A m ops vs) (hA2 : RowAt tyOp08 w w.heap.size A2 m2 ops2 vs2)
    (hc1 : -9223372036854775808 ≤ cut) (hc2 : cut ≤ 9223372036854775807) (hkn : keep.length = kn) (hk63 : kn ≤ 9223372036854775807) (hrk : Rd w K (bls keep)) (hK : bls keep ≠ [] → ∀ a, K = some a → a.block < w.heap.size) :
    Calls Try.prog 4 #[.int .i64 n, .int .i64 s, .slice A m c, .slice A2 m2 c2, .agg #[.slice K kn kc, .int .i64 torn, .int .i64 cut]] w fun e w' => e = .returned (.bool true) ∧ Below w.heap.size w w' := by
  obtain ⟨w0, hw0⟩ : ∃ y, w.alloc (.cells #[.slice K kn kc, .int .i64 torn, .int .i64 cut] 32) = y := ⟨_, rfl⟩
  obtain ⟨g, hg⟩ : ∃ g, w.heap.size = g := ⟨_, rfl⟩
  have hG : Blk w0 g [.slice K kn kc, .int .i64 torn, .int .i64 cut] 32 := by rw [← hw0, ← hg]; exact Blk.new w _ _
  have hb0 : Below g w w0 := by rw [← hw0, ← hg]; exact (Below.refl _ _).alloc (Nat.le_refl _) _
  have hz0 : w0.heap.size = g + 1 := by rw [← hw0, ← hg]; simp
  rw [hg] at hA hA2 hK ⊢
  have HAW := hide (awake08_any w0)
  have HG := hide hG
  have Hw0 := hide hw0
  have Hg := hide hg
  have Hz0 := hide hz0
  have hrk' : ∀ W, Below g w W → Rd W K (bls keep) := fun W hW => rd_lo08 hrk hK hW
  have Hrk := hide hrk'
  have HK := hide hK
  clear hw0 hg hG hz0 hrk hrk' hK
  go_enter Try.func4, Try.ntmps4
  go_wp2_with fail
  rw [Hw0.out, Hg.out]
  go_fit HAW.out
  rintro x w1 ⟨rfl, hb1⟩
  rw [Hz0.out] at hb1
  have hb01 := hb0.trans (hb1.mono (by omega))
  have hG1 := HG.out.below (by rw [Hz0.out]; exact hb1)
  have hz1 : g + 1 ≤ w1.heap.size := by have := hb1.size; have := Hz0.out; omega
  clear HAW HG hb0 hb1
  by_cases hr : 1 ≤ n ∧ n ≤ 65536 ∧ 1 ≤ s ∧ s ≤ 8192
  · obtain ⟨hn1, hn2, hs1, hs2⟩ := hr
    have HBG := hide (begin08_ok w1 n s hn1 hn2 hs1 hs2)
    have HG1 := hide hG1
    clear hG1
    go_wp2_with fail
    go_fit HBG.out
    rintro x w2 ⟨t, f, lm, bm, t2, f2, N, S, rfl, hD2, hN, hS, hfr, hb2⟩
    have hb02 := hb01.trans (hb2.mono (by omega))
    have hG2 := HG1.out.below hb2
    have hfree : ∀ b, ¬ Free t f lm bm t2 f2 b → g + 1 ≤ b := fun b hb => by have := hfr b hb; omega
    have hsix := six_lo hfree
    have hlo : ∀ b, b < g → Free t f lm bm t2 f2 b := fun b hb => free_lo hfree b (by omega)
    have hown : ∀ b, OwnB t f lm bm b → g + 1 ≤ b := fun b hb => hsix b (.inl hb)
    have Hsix := hide hsix
    have Hlo := hide hlo
    have Hown := hide hown
    have HG2 := hide hG2
    clear HBG HG1 hG2 hfr hfree hsix hlo hown hn1 hn2 hs1 hs2 hb2 hb01
    go_upto_block 0 with fail
    go_cut [14] from 44 to 60 (fun s14 wx => ∃ d : Dk, Both wx t f lm bm t2 f2 d ∧ Blk wx g [.slice K kn kc, .int .i64 torn, .int .i64 cut] 32 ∧ Below g w wx ∧ g + 1 ≤ wx.heap.size)
    case first =>
      go_wp2_with fail
      go_loopw [14] (fun v W => ∃ (k : Nat) (d : Dk), v = .int .i64 (k : Int) ∧ k ≤ m ∧ k ≤ 150 ∧ Both W t f lm bm t2 f2 d ∧ Blk W g [.slice K kn kc, .int .i64 torn, .int .i64 cut] 32 ∧ Below g w W ∧ g + 1 ≤ W.heap.size) (fun v _ => m - (RowKit.intOf v).toNat)
      case atStart => exact ⟨0, _, rfl, by omega, by omega, hD2, HG2.out, hb02, by have := HG2.out.lt; omega⟩
      case round =>
        clear hD2 hb02
        obtain ⟨k, d, rfl, hkm, hk150, hD, hGk, hbw, hgw⟩ := hrel
        by_cases hlt : k < m ∧ k < 150
        · obtain ⟨hlt1, hlt2⟩ := hlt
          obtain ⟨o, p, cs, ho, hAp, hI, hat, hc⟩ := hA.at_ (by decide) hbw hlt1
          subst hAp
          have HST := hide (step08_any hD hI Hlo.out)
          obtain ⟨kd, i, nn, b, bA, bn, bc, ke, kA, kn', kc', kv, torn', cut', rfl, rfl, _⟩ := Op08_out hI
          have y0 := el_0 (n := 7) hat (hc 0 _ rfl)
          have y1 := el_S (n := 7) (i := 0) hat (hc 1 _ rfl)
          have y2 := el_S (n := 7) (i := 1) hat (hc 2 _ rfl)
          have y3 := el_S (n := 7) (i := 2) hat (hc 3 _ rfl)
          have y4 := el_S (n := 7) (i := 3) hat (hc 4 _ rfl)
          have y5 := el_S (n := 7) (i := 4) hat (hc 5 _ rfl)
          have y6 := el_S (n := 7) (i := 5) hat (hc 6 _ rfl)
          have HGk := hide hGk
          clear hat hc hI hD hGk
          go_wp2_with fail
          go_fit HST.out
          rintro x w3 ⟨rfl, ⟨d', hD3⟩, hF3⟩
          have hb03 := hF3.below hbw (by omega) (fun q hq => by have := Hsix.out q hq; omega)
          have hG3 := hide (HGk.out.fr hF3 (fun hq => by have := Hsix.out _ hq; omega))
          have hz3 := hF3.size
          clear HST y0 y1 y2 y3 y4 y5 y6 hF3
          go_wp2
          go_roundw
          case rel => exact ⟨k + 1, d', by go_num, by omega, by omega, hD3, hG3.out, hb03, by omega⟩
          case measure => simp [RowKit.intOf]; omega
        · rcases (show k = m ∨ (k < m ∧ k = 150) by omega) with rfl | ⟨hl2, rfl⟩
          all_goals
            go_wp2
            go_meet
            exact ⟨d, hD, hGk, hbw, hgw⟩
    case rest =>
        obtain ⟨d, hD, hGk, hbw, hgw⟩ := hcut
        rename World => wr
        clear hD2 hb02
        have hE := hD.a.notOwn
        have hok := hD.a.ok
        have hN2 := hok.n2
        obtain ⟨cs, hc⟩ := hD.b
        obtain ⟨cc, cb1, _⟩ := hc.blk
        have r1 := cb1.cell (j := 1) rfl
        have ht2 : ¬ OwnB t f lm bm t2 := hD.n1
        obtain ⟨NN, hNN⟩ : ∃ y, d.fast.length = y := ⟨_, rfl⟩
        rw [hNN] at r1 hN2
        have HF1 := hide (fuse08_any hE (-1) (by omega))
        have HFS := hide (fast_start hok)
        have HGk := hide hGk
        have hlen0 : ({ d with fuse := fuseI (-1) } : Dk).barrier.fast.length = NN := by
          unfold Dk.barrier
          split
          · rw [(Dk.fastAll_same _ _).2.1, (Dk.burnt_same _).2.1]; exact hNN
          · exact hNN
        have Hlen0 := hide hlen0
        have Ht2 := hide ht2
        clear hD hE hok hc cb1 hGk hA ht2 hNN hlen0
        obtain ⟨d0, hd0⟩ : ∃ y, ({ d with fuse := fuseI (-1) } : Dk).barrier = y := ⟨_, rfl⟩
        obtain ⟨dF, hdF⟩ : ∃ y, ({ d with fuse := fuseI (-1) } : Dk) = y := ⟨_, rfl⟩
        obtain ⟨be, hbe⟩ : ∃ y, dF.burnE = y := ⟨_, rfl⟩
        rw [hd0] at HFS Hlen0
        rw [hdF] at HF1 hd0
        have Hd0 := hide hd0
        have Hbe := hide hbe
        clear hd0 hdF hbe
        all_goals
          go_wp2_with fail
          go_fit HF1.out
          rintro x w3 ⟨rfl, hD3, hFa, hz3⟩
          have hF3 := fr_own (t := t) (f := f) (lm := lm) (bm := bm) hFa (.inl rfl)
          have HBR := barrier08_any hD3
          rw [Hbe.out, Hd0.out] at HBR
          have HBR := hide HBR
          clear hFa hD3 HF1
          go_wp2_with fail
          go_fit HBR.out
          rintro x w4 ⟨rfl, hD4, hF4⟩
          have hF34 := hF3.trans hF4
          have hb4 := hF34.below hbw (by omega) (fun q hq => by have := Hown.out q hq; omega)
          have r4 := hF34.cell r1 Ht2.out
          have hG4 := HGk.out.fr hF34 (fun hq => by have := Hown.out _ hq; omega)
          have hz4 := hF34.size
          have HCP := hide (copy08_any hD4)
          have HG4 := hide hG4
          have hlt4 := hD4.lts
          have Ho4 := hide (show ∀ b, OwnB t f lm bm b → b < w4.heap.size from fun b hb => by rcases hb with h | h | h | h <;> omega)
          clear HBR hF3 hF4 hF34 r1 hG4 HGk hbw hlt4
          go_wp2_with fail
          go_fit HCP.out
          rintro x w5 ⟨xx, xf, xl, xm, rfl, hX5, hXo, hb5⟩
          have hD5 := hD4.below hb5
          have r5 := below_cell08 hb5 r4
          have hG5 := HG4.out.below hb5
          have hz5 := hb5.size
          have hb05 := hb4.trans (hb5.mono (by omega))
          have hXd : ∀ b, OwnB xx xf xl xm b → ¬ OwnB t f lm bm b := fun b h1 h2 => by have := hXo b h1; have := Ho4.out b h2; omega
          obtain ⟨L4, hL4⟩ : ∃ y, w4.heap.size = y := ⟨_, rfl⟩
          rw [hL4] at hX5
          have HXd := hide hXd
          have HS5 := hide (And.intro HFS.out (And.intro hD5 hX5))
          have HG5 := hide hG5
          clear HCP hD4 r4 HG4 hb4 hb5 hXo hXd hL4 hD5 hX5 hG5 Ho4
          go_upto_block 2 with fail
          go_cut [16] from 67 to 94 (fun s16 wx => ∃ d1 : Dk, DIs wx (NotOwn t f lm bm) t f lm bm d1 ∧ FastAs d0 d1 ∧ DIs wx (fun b => NotOwn t f lm bm b ∧ b < L4) xx xf xl xm d0 ∧ wx.cell? ⟨t2, 1, none⟩ = some (.slice (some ⟨f2, 0, none⟩) NN cc) ∧ Blk wx g [.slice K kn kc, .int .i64 torn, .int .i64 cut] 32 ∧ Below g w wx ∧ g + 1 ≤ wx.heap.size)
          case first =>
            go_wp2_with fail
            go_loopw [16] (fun v W => ∃ (k : Nat) (d1 : Dk), v = .int .i64 (k : Int) ∧ k ≤ m2 ∧ k ≤ 150 ∧ DIs W (NotOwn t f lm bm) t f lm bm d1 ∧ FastAs d0 d1 ∧ DIs W (fun b => NotOwn t f lm bm b ∧ b < L4) xx xf xl xm d0 ∧ W.cell? ⟨t2, 1, none⟩ = some (.slice (some ⟨f2, 0, none⟩) NN cc) ∧ Blk W g [.slice K kn kc, .int .i64 torn, .int .i64 cut] 32 ∧ Below g w W ∧ g + 1 ≤ W.heap.size) (fun v _ => m2 - (RowKit.intOf v).toNat)
            case atStart => exact ⟨0, d0, rfl, by omega, by omega, HS5.out.2.1, HS5.out.1, HS5.out.2.2, r5, HG5.out, hb05, by omega⟩
            case round =>
              clear HS5 r5 HG5 hb05 hz5 hz4 hz3 hgw
              obtain ⟨k, d1, rfl, hkm, hk150, hD1, hFA, hX, r1, hGk, hbw, hgw⟩ := hrel
              by_cases hlt : k < m2 ∧ k < 150
              · obtain ⟨hlt1, hlt2⟩ := hlt
                obtain ⟨o, p, cs, ho, hAp, hI, hat, hc⟩ := hA2.at_ (by decide) hbw hlt1
                have hpg : p.block < g := hA2.lo (fun e => by have := hA2.len; rw [e] at this; simp at this; omega) p hAp
                subst hAp
                obtain ⟨kd, i, nn, b, bA, bn, bc, ke, kA, kn', kc', kv, torn', cut', rfl, rfl, hk1, hk2, hi1, hi2, hn1, hn2, hb1, hb2, hb3, hb4, hb5, _⟩ := Op08_out hI
                have y0 := el_0 (n := 7) hat (hc 0 _ rfl)
                have y1 := el_S (n := 7) (i := 0) hat (hc 1 _ rfl)
                have y3 := el_S (n := 7) (i := 2) hat (hc 3 _ rfl)
                have Hpo := hide (show ¬ OwnB t f lm bm (p.add (k * 7)).block from fun hq => by have := Hown.out _ hq; rw [add_block] at this; omega)
                have hbd : Below wr.heap.size wr wr.drew := (Below.refl _ _).drew
                have hdd := hD1.below hbd
                have HWR := hide (write08_any hdd hdd.notOwn_new i bA bn bc b hi1 hi2 hb1 hb2 hb3 (hb4.below hbd) (fun hne a ha hq => by have := Hown.out _ hq; have := hb5 (fun e => hne (by rw [e]; rfl)) a ha; omega))
                have H0 := hide (And.intro hD1 (And.intro hFA (And.intro hX (And.intro hGk hbw))))
                have Hr1 := hide r1
                clear hat hc hI hD1 hFA hX hGk hbw hbd hdd hb1 hb2 hb3 hb4 hb5 r1
                by_cases hkd : kd = 2
                · subst hkd
                  go_wp2_with fail
                  have hS0 : wr.drew.cell? ⟨(p.add (k * 7)).block, (p.add (k * 7)).off + (0 + 1), none⟩ = some (.int .i64 i) ∧ wr.drew.cell? ⟨(p.add (k * 7)).block, (p.add (k * 7)).off + (2 + 1), none⟩ = some (.slice bA bn bc) := ⟨y1, y3⟩
                  refine wp_region_held_drew (S := fun Z => Z.cell? ⟨(p.add (k * 7)).block, (p.add (k * 7)).off + (0 + 1), none⟩ = some (.int .i64 i) ∧ Z.cell? ⟨(p.add (k * 7)).block, (p.add (k * 7)).off + (2 + 1), none⟩ = some (.slice bA bn bc)) (by kernel_rfl) hS0 (fun _ => ?_)
                  refine wpAnyH_take (fuel := 11) (i := 0) (v := .pointer (some ⟨t, 0, none⟩)) rfl (by kernel_rfl) (by kernel_rfl) (by kernel_rfl) (fun _ _ _ h => h) (Or.inl ⟨by rfl, fun Z hZ => ?_⟩) hS0 ?_
                  · obtain ⟨z1, z2⟩ := hZ
                    go_simp
                  refine wpAnyH_take (fuel := 10) (i := 1) (v := .slice (some p) m2 c2) rfl (by kernel_rfl) (by kernel_rfl) (by kernel_rfl) (fun _ _ _ h => h) (Or.inl ⟨by rfl, fun Z hZ => ?_⟩) hS0 ?_
                  · obtain ⟨z1, z2⟩ := hZ
                    go_simp
                  refine wpAnyH_take (fuel := 9) (i := 2) (v := .int .i64 (k : Int)) rfl (by kernel_rfl) (by kernel_rfl) (by kernel_rfl) (fun _ _ _ h => h) (Or.inl ⟨by rfl, fun Z hZ => ?_⟩) hS0 ?_
                  · obtain ⟨z1, z2⟩ := hZ
                    go_simp
                  refine wpAnyH_take (fuel := 8) (i := 3) (v := .pointer (some (p.add (k * 7)))) rfl (by kernel_rfl) (by kernel_rfl) (by kernel_rfl) (fun _ _ _ h => h) (Or.inl ⟨by rfl, fun Z hZ => ?_⟩) hS0 ?_
                  · obtain ⟨z1, z2⟩ := hZ
                    go_simp
                  refine wpAnyH_take (fuel := 7) (i := 4) (v := .pointer (some ⟨(p.add (k * 7)).block, (p.add (k * 7)).off + 1, none⟩)) rfl (by kernel_rfl) (by kernel_rfl) (by kernel_rfl) (fun _ _ _ h => h) (Or.inl ⟨by rfl, fun Z hZ => ?_⟩) hS0 ?_
                  · obtain ⟨z1, z2⟩ := hZ
                    go_simp
                  refine wpAnyH_take (fuel := 6) (i := 5) (v := .int .i64 i) rfl (by kernel_rfl) (by kernel_rfl) (by kernel_rfl) (fun _ _ _ h => h) (Or.inl ⟨by rfl, fun Z hZ => ?_⟩) hS0 ?_
                  · obtain ⟨z1, z2⟩ := hZ
                    go_simp
                  refine wpAnyH_take (fuel := 5) (i := 6) (v := .slice (some p) m2 c2) rfl (by kernel_rfl) (by kernel_rfl) (by kernel_rfl) (fun _ _ _ h => h) (Or.inl ⟨by rfl, fun Z hZ => ?_⟩) hS0 ?_
                  · obtain ⟨z1, z2⟩ := hZ
                    go_simp
                  refine wpAnyH_take (fuel := 4) (i := 7) (v := .int .i64 (k : Int)) rfl (by kernel_rfl) (by kernel_rfl) (by kernel_rfl) (fun _ _ _ h => h) (Or.inl ⟨by rfl, fun Z hZ => ?_⟩) hS0 ?_
                  · obtain ⟨z1, z2⟩ := hZ
                    go_simp
                  refine wpAnyH_take (fuel := 3) (i := 8) (v := .pointer (some (p.add (k * 7)))) rfl (by kernel_rfl) (by kernel_rfl) (by kernel_rfl) (fun _ _ _ h => h) (Or.inl ⟨by rfl, fun Z hZ => ?_⟩) hS0 ?_
                  · obtain ⟨z1, z2⟩ := hZ
                    go_simp
                  refine wpAnyH_take (fuel := 2) (i := 9) (v := .pointer (some ⟨(p.add (k * 7)).block, (p.add (k * 7)).off + 3, none⟩)) rfl (by kernel_rfl) (by kernel_rfl) (by kernel_rfl) (fun _ _ _ h => h) (Or.inl ⟨by rfl, fun Z hZ => ?_⟩) hS0 ?_
                  · obtain ⟨z1, z2⟩ := hZ
                    go_simp
                  refine wpAnyH_take (fuel := 1) (i := 10) (v := .slice bA bn bc) rfl (by kernel_rfl) (by kernel_rfl) (by kernel_rfl) (fun _ _ _ h => h) (Or.inl ⟨by rfl, fun Z hZ => ?_⟩) hS0 ?_
                  · obtain ⟨z1, z2⟩ := hZ
                    go_simp
                  refine all_one (fuel := 0) (i := 11) (by kernel_rfl) rfl rfl (fun Kk hK => ?_)
                  go_simp
                  go_fit HWR.out
                  rintro x w6 ⟨rfl, hD6, hF6⟩
                  have hS6 : w6.cell? ⟨(p.add (k * 7)).block, (p.add (k * 7)).off + (0 + 1), none⟩ = some (.int .i64 i) ∧ w6.cell? ⟨(p.add (k * 7)).block, (p.add (k * 7)).off + (2 + 1), none⟩ = some (.slice bA bn bc) := ⟨hF6.cell y1 Hpo.out, hF6.cell y3 Hpo.out⟩
                  have H6 := hide (And.intro hD6 hF6)
                  clear hD6 hF6 HWR
                  refine hK _ _ ⟨hS6, ?_⟩
                  clear hK Kk
                  refine wpAnyH_done (by kernel_rfl) ?_ _
                  have hw6 : Fr (OwnB t f lm bm) wr w6 := (Fr.of_below (X := OwnB t f lm bm) ((Below.refl _ _).drew)).trans H6.out.2
                  have hX6 := H0.out.2.2.1.apart HXd.out hw6
                  have r6 := hw6.cell Hr1.out Ht2.out
                  have hG6 := H0.out.2.2.2.1.fr hw6 (fun hq => by have := Hown.out _ hq; omega)
                  have hb6 := hw6.below H0.out.2.2.2.2 (by omega) (fun q hq => by have := Hown.out q hq; omega)
                  have hz6 := hw6.size
                  have HX6 := hide (And.intro hX6 (And.intro r6 (And.intro hG6 hb6)))
                  clear hX6 r6 hG6 hb6 hw6 y0 y1 y3
                  go_wp2
                  go_roundw
                  case rel => exact ⟨k + 1, _, by go_num, by omega, by omega, H6.out.1, H0.out.2.1.write i b, HX6.out.1, HX6.out.2.1, HX6.out.2.2.1, HX6.out.2.2.2, by omega⟩
                  case measure => simp [RowKit.intOf]; omega
                · have q2 : (kd == 2) = false := by simpa using hkd
                  go_wp2
                  go_roundw
                  case rel => exact ⟨k + 1, d1, by go_num, by omega, by omega, H0.out.1, H0.out.2.1, H0.out.2.2.1, Hr1.out, H0.out.2.2.2.1, H0.out.2.2.2.2, hgw⟩
                  case measure => simp [RowKit.intOf]; omega
              · rcases (show k = m2 ∨ (k < m2 ∧ k = 150) by omega) with rfl | ⟨hl2, rfl⟩
                all_goals
                  go_wp2
                  go_meet
                  exact ⟨d1, hD1, hFA, hX, r1, hGk, hbw, hgw⟩
          case rest =>
              obtain ⟨d1, hD1, hFA, hX, r1, hGk, hbw, hgw⟩ := hcut
              rename World => wr
              clear HS5 r5 HG5 hb05 hz5 hz4 hz3
              have hok := hD1.ok
              have hN1 : d1.fast.length = NN := by rw [hFA.fast]; exact Hlen0.out
              have hfn : ∀ i : Nat, i < NN → (i : Int) ∉ d1.looseL → (d1.crash keep torn cut).readE (i : Int) 1 = d0.readE (i : Int) 1 ∧ (d1.crash keep torn cut).readB (i : Int) 1 = d0.readB (i : Int) 1 := fun i hi hn => fast_not hFA hok keep torn cut (by rw [Hlen0.out]; exact hi) hn
              have hfi := fun (i : Nat) (j : Nat) (hj : j < d1.looseL.length) (hji : d1.looseL.getD j 0 = (i : Int)) => fast_in (i := i) hFA hok keep torn cut hj (by rw [← intD_at08 hj]; exact hji)
              have hasc : Asc d1.looseL ∧ ∀ j, j < d1.looseL.length → 0 ≤ d1.looseL.getD j 0 := ⟨d1.looseL_asc, fun j hj => by rw [intD_at08 hj]; exact (Dk.looseL_get hok hj).choose_spec.2.1⟩
              have hll := d1.looseL_len
              rw [hN1] at hll
              have hsz0 : d0.size ≤ 8192 := by rw [← hFA.size]; exact hok.s2
              have hLO := loose08_any hD1
              have hlt1 := hD1.lts
              obtain ⟨L, hL⟩ : ∃ y, d1.looseL = y := ⟨_, rfl⟩
              simp only [hL] at hfn hfi hasc hll hLO
              obtain ⟨ll, hlle⟩ : ∃ y, L.length = y := ⟨_, rfl⟩
              rw [hlle] at hll hLO
              have HLO := hide hLO
              have Hfn := hide hfn
              have Hfi := hide hfi
              have Hasc := hide hasc
              have Hlle := hide hlle
              have H0 := hide (And.intro hD1 (And.intro hX (And.intro hGk hbw)))
              have Hr1 := hide r1
              clear hfn hfi hasc hlle hLO hL hD1 hFA hX hGk hbw r1 hok hN1 hA2
              all_goals
                go_wp2_with fail
                go_fit HLO.out
                rintro x w6 ⟨A6, c6, rfl, hl6, hc6, hr6, hlo6, hb6⟩
                have hD6 := H0.out.1.below hb6
                have HCP := hide (copy08_any hD6)
                have hX6 := H0.out.2.1.below hb6
                have r6 := below_cell08 hb6 Hr1.out
                have hG6 := H0.out.2.2.1.below hb6
                have hb06 := H0.out.2.2.2.trans (hb6.mono (by omega))
                have hz6 := hb6.size
                have hn6 : ∀ a, A6 = some a → ¬ OwnB t f lm bm a.block := fun a ha hq => by have := hlo6 a ha; rcases hq with h | h | h | h <;> omega
                have H6 := hide (And.intro hD6 (And.intro hX6 (And.intro r6 (And.intro hG6 (And.intro hb06 hr6)))))
                have Hn6 := hide hn6
                have Ho6 := hide (show ∀ b, OwnB t f lm bm b → b < w6.heap.size from fun b hb => by rcases hb with h | h | h | h <;> omega)
                clear HLO hD6 hX6 r6 hG6 hb06 hb6 hlo6 hn6 hr6 H0 Hr1
                go_wp2_with fail
                go_fit HCP.out
                rintro x w7 ⟨yy, yf, yl, ym, rfl, hY7, hYo, hb7⟩
                have hz7 := hb7.size
                have hYd : ∀ b, OwnB yy yf yl ym b → ¬ OwnB t f lm bm b := fun b h1 h2 => by have := hYo b h1; have := Ho6.out b h2; omega
                obtain ⟨L6, hL6⟩ : ∃ y, w6.heap.size = y := ⟨_, rfl⟩
                have hD7 := H6.out.1.below hb7
                have hX7 := H6.out.2.1.below hb7
                have r7 := below_cell08 hb7 H6.out.2.2.1
                have hG7 := H6.out.2.2.2.1.below hb7
                have hr7 := H6.out.2.2.2.2.2.below hb7
                have hb07 := H6.out.2.2.2.2.1.trans (hb7.mono (by omega))
                rw [hL6] at hY7
                have z0 := hG7.cell (j := 0) rfl
                have z1 := hG7.cell (j := 1) rfl
                have z2 := hG7.cell (j := 2) rfl
                have HCR := hide (crash08_any hD7 hD7.notOwn_new K kn kc keep torn cut hc1 hc2 hkn hk63 (Hrk.out w7 hb07) (fun hne a ha hq => by have := Hown.out _ hq; have := HK.out hne a ha; omega))
                have H7 := hide (And.intro hX7 (And.intro hY7 (And.intro r7 (And.intro hb07 hr7))))
                have HYd := hide hYd
                clear HCP hD7 hX7 hY7 r7 hG7 hr7 hb07 hb7 hYo hYd hL6 H6 Ho6
                go_wp2_with fail
                go_fit HCR.out
                rintro x w8 ⟨rfl, hD8, hF8⟩
                have hX8 := H7.out.1.apart HXd.out hF8
                have hY8 := H7.out.2.1.apart HYd.out hF8
                have r8 := hF8.cell H7.out.2.2.1 Ht2.out
                have hb8 := hF8.below H7.out.2.2.2.1 (by omega) (fun q hq => by have := Hown.out q hq; omega)
                have hr8 := H7.out.2.2.2.2.fr hF8 (fun _ a ha => Hn6.out a ha)
                have hz8 := hF8.size
                have hLO2 := loose08_any hD8
                rw [crash_noLoose] at hLO2
                obtain ⟨d2, hd2⟩ : ∃ y, d1.crash keep torn cut = y := ⟨_, rfl⟩
                simp only [hd2] at hD8 Hfn Hfi
                have HLO2 := hide hLO2
                have H8 := hide (And.intro hX8 (And.intro hY8 (And.intro hD8 (And.intro r8 (And.intro hb8 hr8)))))
                clear hLO2 hX8 hY8 hD8 r8 hb8 hr8 hF8 hd2 HCR H7 z0 z1 z2
                go_wp2_with fail
                go_fit HLO2.out
                rintro x w9 ⟨A9, c9, rfl, _, _, _, _, hb9⟩
                have hz9 := hb9.size
                have hb09 := H8.out.2.2.2.2.1.trans (hb9.mono (by omega))
                have r9 := below_cell08 hb9 H8.out.2.2.2.1
                have hr9 := H8.out.2.2.2.2.2.below hb9
                have HRX := hide (fun (W : World) (hW : Below w9.heap.size w9 W) (i : Nat) (hi : i < NN) => read08_any ((H8.out.1.below hb9).below hW) (i : Int) 1 (by omega) (by omega) (by omega) (by omega))
                have HRY := hide (fun (W : World) (hW : Below w9.heap.size w9 W) (i : Nat) (hi : i < NN) => read08_any ((H8.out.2.1.below hb9).below hW) (i : Int) 1 (by omega) (by omega) (by omega) (by omega))
                have HRD := hide (fun (W : World) (hW : Below w9.heap.size w9 W) (i : Nat) (hi : i < NN) => read08_any ((H8.out.2.2.1.below hb9).below hW) (i : Int) 1 (by omega) (by omega) (by omega) (by omega))
                clear H8 HLO2 hb9 HXd HYd Hn6
                go_wp2_with fail
                go_loopw [19, 20, 21] (fun u v z W => ∃ i k T : Nat, u = .int .i64 (k : Int) ∧ v = .int .i64 (T : Int) ∧ z = .int .i64 (i : Int) ∧ i ≤ NN ∧ k ≤ ll ∧ T ≤ 1 ∧ Hid (∀ j, j < ll → (j < k ↔ L.getD j 0 < (i : Int))) ∧ Hid (T = 0 ∨ ∃ j : Nat, j < k ∧ (j : Int) = torn) ∧ Below w9.heap.size w9 W) (fun _ _ z _ => NN - (RowKit.intOf z).toNat)
                case atStart => exact ⟨0, 0, 0, rfl, rfl, rfl, by omega, by omega, by omega, hide (fun j hj => ⟨fun h => absurd h (by omega), fun h => by
                  have h1 := Hasc.out.2 j (by rw [Hlle.out]; exact hj)
                  omega⟩), hide (.inl rfl), Below.refl _ _⟩
                case round =>
                  obtain ⟨i, k, T, rfl, rfl, rfl, hiN, hkl, hT1, HJ, HT, hbw⟩ := hrel
                  have r1 := below_cell08 hbw r9
                  by_cases hlt : i < NN
                  · have hfn' := Hfn.out i hlt
                    have hfi' := fun j hj hji => Hfi.out i j hj hji
                    have hX := HRX.out wr hbw i hlt
                    have hY := fun W hW => HRY.out W hW i hlt
                    have hD := fun W hW => HRD.out W hW i hlt
                    generalize d0.readB (i : Int) 1 = a at hfn' hfi' hX
                    generalize d0.readE (i : Int) 1 = e at hfn' hfi' hX
                    generalize d1.readB (i : Int) 1 = b at hfi' hY
                    generalize d1.readE (i : Int) 1 = ff at hfi' hY
                    generalize d2.readB (i : Int) 1 = x at hfn' hfi' hD
                    generalize d2.readE (i : Int) 1 = gg at hfn' hfi' hD
                    obtain ⟨S0, hS0⟩ : ∃ y, d0.size = y := ⟨_, rfl⟩
                    rw [hS0] at hsz0
                    simp only [hS0] at hfi'
                    obtain ⟨la, hla⟩ : ∃ y, a.length = y := ⟨_, rfl⟩
                    obtain ⟨lb, hlb⟩ : ∃ y, b.length = y := ⟨_, rfl⟩
                    obtain ⟨lx, hlx⟩ : ∃ y, x.length = y := ⟨_, rfl⟩
                    simp only [hla, hlb, hlx] at hfi' hX hY hD
                    have HX := hide hX
                    have HY := hide hY
                    have HD := hide hD
                    have Hfn' := hide hfn'
                    have Hfi' := hide hfi'
                    have Hla := hide hla
                    have Hlb := hide hlb
                    have Hlx := hide hlx
                    have HS0 := hide hsz0
                    clear hfn' hfi' hX hY hD hla hlb hlx hS0 hsz0
                    go_wp2_with fail
                    go_fit HX.out
                    rintro zz w10 ⟨X1, cx1, rfl, hlx1, hcx1, hrx1, _, hb10⟩
                    have hb910 := hbw.trans (hb10.mono hbw.size)
                    have s10 := below_cell08 hb910 r9
                    clear HX r1
                    go_wp2_with fail
                    go_fit (HY.out w10 hb910)
                    rintro zz w11 ⟨X2, cx2, rfl, hlx2, hcx2, hrx2, _, hb11⟩
                    have hb911 := hb910.trans (hb11.mono hb910.size)
                    have s11 := below_cell08 hb911 r9
                    clear HY s10
                    go_wp2_with fail
                    go_fit (HD.out w11 hb911)
                    rintro zz w12 ⟨X3, cx3, rfl, hlx3, hcx3, hrx3, _, hb12⟩
                    have hb912 := hb911.trans (hb12.mono hb911.size)
                    have hrx1' := (hrx1.below hb11).below hb12
                    have hrx2' := hrx2.below hb12
                    have cv1 := convB cx1 Hla.out hrx1'
                    have cv2 := convB cx2 Hlb.out hrx2'
                    have cv3 := convB cx3 Hlx.out hrx3
                    have hr12 := hr9.below hb912
                    clear HD s11 hrx1 hrx2 hb10 hb11 hb12 hb910 hb911
                    have hasc := Hasc.out
                    have hno : (i : Int) ∈ L → ∃ j, j < ll ∧ L.getD j 0 = (i : Int) := fun hm => by
                      obtain ⟨j, hj, he⟩ := List.getElem_of_mem hm
                      exact ⟨j, by rw [← Hlle.out]; exact hj, by rw [intD_at08 hj]; exact he⟩
                    have hup : ∀ j1 j2, j1 < j2 → j2 < ll → L.getD j1 0 < L.getD j2 0 := fun j1 j2 h1 h2 => by
                      have h2' : j2 < L.length := by rw [Hlle.out]; exact h2
                      rw [intD_at08 h2', intD_at08 (Nat.lt_trans h1 h2')]
                      exact asc_lt08 hasc.1 h2' h1
                    have hnotin : (k < ll → L.getD k 0 ≠ (i : Int)) → (i : Int) ∉ L := fun hk hm => by
                      obtain ⟨j, hj, he⟩ := hno hm
                      have h1 := HJ.out j hj
                      rcases Nat.lt_trichotomy j k with h | h | h
                      · have := h1.1 h; omega
                      · subst h; exact hk hj he
                      · have h2 := hup k j h hj
                        have h3 := (HJ.out k (by omega)).2 (by omega)
                        omega
                    have hsame : (k < ll → L.getD k 0 ≠ (i : Int)) → ∀ j, j < ll → (j < k ↔ L.getD j 0 < ((i + 1 : Nat) : Int)) := fun hk j hj => by
                      have h1 := HJ.out j hj
                      have h2 : L.getD j 0 ≠ (i : Int) := fun he => by
                        rcases Nat.lt_trichotomy j k with h | h | h
                        · have := h1.1 h; omega
                        · subst h; exact hk hj he
                        · have h2 := hup k j h hj
                          have h3 := (HJ.out k (by omega)).2 (by omega)
                          omega
                      rw [h1]
                      omega
                    have hnext : k < ll → L.getD k 0 = (i : Int) → ∀ j, j < ll → (j < k + 1 ↔ L.getD j 0 < ((i + 1 : Nat) : Int)) := fun hk he j hj => by
                      have h1 := HJ.out j hj
                      rcases Nat.lt_trichotomy j k with h | h | h
                      · have := h1.1 h
                        constructor <;> intro _ <;> omega
                      · subst h; constructor <;> intro _ <;> omega
                      · have h2 := hup k j h hj
                        constructor <;> intro _ <;> omega
                    have Hnot := hide hnotin
                    have Hsame := hide hsame
                    have Hnext := hide hnext
                    clear hnotin hsame hnext hup hno hasc
                    by_cases hkl' : k < ll
                    · obtain ⟨a6, ha6, hc6⟩ := hr12 k _ (ints_get (by rw [Hlle.out]; exact hkl'))
                      rw [← intD_at08] at hc6
                      obtain ⟨xk, hxk⟩ : ∃ y, L.getD k 0 = y := ⟨_, rfl⟩
                      rw [hxk] at hc6
                      subst ha6
                      by_cases hxi : xk = (i : Int)
                      · have HN := hide (Hnext.out hkl' (by rw [hxk]; exact hxi))
                        have h3 := Hfi'.out k (by rw [Hlle.out]; exact hkl') (by rw [hxk]; exact hxi)
                        subst hxi
                        obtain ⟨u1, hu1⟩ : ∃ y, (gg == ff) = y := ⟨_, rfl⟩
                        obtain ⟨v1, hv1⟩ : ∃ y, (x == b) = y := ⟨_, rfl⟩
                        obtain ⟨u2, hu2⟩ : ∃ y, (gg == e) = y := ⟨_, rfl⟩
                        obtain ⟨v2, hv2⟩ : ∃ y, (x == a) = y := ⟨_, rfl⟩
                        have h3' : (u1 = true ∧ v1 = true) ∨ (u2 = true ∧ v2 = true) ∨ Hid ((k : Int) = torn ∧ gg = 0 ∧ lx = S0 ∧ la = S0 ∧ lb = S0 ∧ ∃ c0, c0 ≤ S0 ∧ x.take c0 = b.take c0 ∧ x.drop c0 = a.drop c0) := by
                          rcases h3 with ⟨p1, p2⟩ | ⟨p1, p2⟩ | p
                          · left; rw [← hu1, ← hv1, p1, p2]; simp
                          · right; left; rw [← hu2, ← hv2, p1, p2]; simp
                          · right; right; exact hide p
                        clear h3 hxk
                        have HT1 : Hid (T = 0 ∨ ∃ j : Nat, j < k + 1 ∧ (j : Int) = torn) := hide (by
                          rcases HT.out with h | ⟨j, h1, h2⟩
                          · exact .inl h
                          · exact .inr ⟨j, by omega, h2⟩)
                        rcases (show (u1 = true ∧ v1 = true) ∨ (u1 = false) ∨ (u1 = true ∧ v1 = false) by cases u1 <;> cases v1 <;> simp) with ⟨rfl, rfl⟩ | rfl | ⟨rfl, rfl⟩
                        · clear h3'
                          go_wp2
                          go_roundw
                          case rel => exact ⟨i + 1, k + 1, T, by go_num, rfl, by go_num, by omega, by omega, hT1, hide HN.out, HT1, hb912⟩
                          case measure => simp [RowKit.intOf]; omega
                        all_goals
                          rcases (show (u2 = true ∧ v2 = true) ∨ (u2 = false) ∨ (u2 = true ∧ v2 = false) by cases u2 <;> cases v2 <;> simp) with ⟨rfl, rfl⟩ | rfl | ⟨rfl, rfl⟩
                          · clear h3'
                            go_wp2
                            go_roundw
                            case rel => exact ⟨i + 1, k + 1, T, by go_num, rfl, by go_num, by omega, by omega, hT1, hide HN.out, HT1, hb912⟩
                            case measure => simp [RowKit.intOf]; omega
                          all_goals
                            rcases h3' with h3' | h3' | h3'
                            · simp at h3'
                            · simp at h3'
                            · obtain ⟨p1, p2, p3, p4, p5, c0, p6, p7, p8⟩ := h3'.out
                              subst p3
                              subst p4
                              subst p5
                              subst p2
                              have hT0 : T = 0 := by
                                rcases HT.out with h | ⟨j, h1, h2⟩
                                · exact h
                                · omega
                              subst hT0
                              have HM := hide (mixed08_any X3 X1 X2 _ cx3 cx1 cx2 x a b w12 Hlx.out Hla.out Hlb.out hlx3 hlx1 hlx2 hcx3 hcx1 hcx2 hrx3 hrx1' hrx2' c0 p6 p7 p8)
                              have HT2 : Hid (1 = 0 ∨ ∃ j : Nat, j < k + 1 ∧ (j : Int) = torn) := hide (.inr ⟨k, by omega, p1⟩)
                              clear p1 p6 p7 p8 h3'
                              go_wp2_with fail
                              go_fit HM.out
                              rintro zz w13 ⟨rfl, hb13⟩
                              have hb913 := hb912.trans (hb13.mono hb912.size)
                              go_wp2
                              go_roundw
                              case rel => exact ⟨i + 1, k + 1, 1, by go_num, by go_num, by go_num, by omega, by omega, by omega, hide HN.out, HT2, hb913⟩
                              case measure => simp [RowKit.intOf]; omega
                      · have HN := hide (Hsame.out (fun _ => by rw [hxk]; exact hxi))
                        obtain ⟨p1, p2⟩ := Hfn'.out (Hnot.out (fun _ => by rw [hxk]; exact hxi))
                        have qk : (xk == (i : Int)) = false := by simpa using hxi
                        clear hxk
                        subst p1
                        subst p2
                        go_wp2
                        go_roundw
                        case rel => exact ⟨i + 1, k, T, rfl, rfl, by go_num, by omega, hkl, hT1, hide HN.out, HT, hb912⟩
                        case measure => simp [RowKit.intOf]; omega
                    · have HN := hide (Hsame.out (fun h => absurd h hkl'))
                      obtain ⟨p1, p2⟩ := Hfn'.out (Hnot.out (fun h => absurd h hkl'))
                      subst p1
                      subst p2
                      go_wp2
                      go_roundw
                      case rel => exact ⟨i + 1, k, T, rfl, rfl, by go_num, by omega, hkl, hT1, hide HN.out, HT, hb912⟩
                      case measure => simp [RowKit.intOf]; omega
                  · have qT : decide ((T : Int) ≤ 1) = true := decide_eq_true (by omega)
                    have hbf := hb09.trans (hbw.mono (by omega))
                    go_wp2
                    go_ret
                    exact ⟨rfl, hbf⟩
  · have HBG := hide (begin08_bad w1 n s hr)
    clear hr hG1
    go_wp2_with fail
    go_fit HBG.out
    rintro x w2 ⟨rfl, rfl⟩
    go_wp2
    go_ret
    exact ⟨rfl, hb01⟩
end Go.Proofs.Ytdianokikhggnaa
