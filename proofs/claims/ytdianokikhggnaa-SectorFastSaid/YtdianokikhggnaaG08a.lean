/- The document's disk: Crash. -/
import Derived.Test.YtdianokikhggnaaF08z
import Derived.Test.YtdianokikhggnaaF08m
namespace Go.Proofs.Ytdianokikhggnaa
set_option maxRecDepth 20000
open Go.RowKit Go.Px Go.Maps
set_option linter.unusedVariables false
section
variable {w w' : World} {Q Q' X : Nat → Prop} {t f : Nat} {cs cs' : List Value} {d d' : Dk}
theorem own_cells1 {W : World} {B : Nat} {T : TypeId} {u : Value} {n : Nat} {xs : List Value} (h : W.ownsRow B T 1 u n xs) (h1 : 1 ≤ n) : ∃ g c, u = .slice (some ⟨g, 0, none⟩) n c ∧ B ≤ g ∧ n ≤ c ∧ g < W.heap.size ∧ Rd W (some ⟨g, 0, none⟩) xs := by
  obtain ⟨A, c, rfl, hl, hc, hcm, hr, ha⟩ := own_out h
  rcases h.2 with ⟨_, h0⟩ | ⟨g, cap, cur, hv, hbg, hg, _⟩
  · omega
  · injection hv with e1 e2 e3
    subst e1 e3
    exact ⟨g, c, rfl, hbg, hc, (ha _ rfl).2, hr⟩
theorem RDIs.lay4 {wr wc : World} {csk : List Value} {dk : Dk} {i n c : Nat} {A : Option Addr} {b : List UInt8} {z : Bool} (hD : RDIs wr Q t f csk dk) (hb : Below wr.heap.size wr wc) (hi : i < dk.fast.length) (hbl : b.length = dk.size) (hbn : b.length = n) (hnc : n ≤ c) (hc : c ≤ 9223372036854775807) (hr : Rd wc A (bys b)) (hA : ∀ a, A = some a → Q a.block) :
    (∃ cs', RDIs (w4 wc f i (.slice A n c) (.bool false) (.slice none 0 0) (.bool z)) Q t f cs' (dk.put4 i b none z)) ∧ Fr (ROwn t f) wr (w4 wc f i (.slice A n c) (.bool false) (.slice none 0 0) (.bool z)) := by
  obtain ⟨h1, h2⟩ := (hD.below hb).put4 hi (A := A) (n := n) (c := c) (b := b) (o := none) (z := z) (ol := false) rfl hbl hbn hnc hc hr hA (Nat.zero_le 0) (by omega) (fun x hx => by cases hx) (B := none) (m := 0) (e := 0)
  exact ⟨h1, (Fr.of_below hb).trans (rown_f h2)⟩
set_option maxHeartbeats 6400000 in
theorem rcrash08_any (h : RDIs w Q t f cs d) (hQ : ∀ b, w.heap.size ≤ b → Q b) (K : Option Addr) (kn kc : Nat) (keep : List Bool) (torn cut : Int) (hc1 : -9223372036854775808 ≤ cut) (hc2 : cut ≤ 9223372036854775807) (hkn : keep.length = kn) (hk63 : kn ≤ 9223372036854775807) (hrk : Rd w K (bls keep)) (hK : bls keep ≠ [] → ∀ a, K = some a → ¬ ROwn t f a.block) :
    Calls Try.prog 29 #[.pointer (some ⟨t, 0, none⟩), .agg #[.slice K kn kc, .int .i64 torn, .int .i64 cut]] w fun e w' => e = .returned (.tuple #[]) ∧ (∃ cs', RDIs w' Q t f cs' (d.crash keep torn cut)) ∧ Fr (ROwn t f) w w' := by
  obtain ⟨gb, hgb⟩ : ∃ g, w.heap.size = g := ⟨_, rfl⟩
  obtain ⟨w0, hw0⟩ : ∃ y, w.alloc (.cells #[.slice K kn kc, .int .i64 torn, .int .i64 cut] 32) = y := ⟨_, rfl⟩
  have hG : Blk w0 gb [.slice K kn kc, .int .i64 torn, .int .i64 cut] 32 := by rw [← hw0, ← hgb]; exact Blk.new w _ _
  have hb0 : Below w.heap.size w w0 := by rw [← hw0]; exact (Below.refl _ _).alloc (Nat.le_refl _) _
  have h0 := h.below hb0
  have HLO := hide (rloose08_any h0)
  have ok := h.ok
  have hN := h.ok.n2
  have hs2 := h.ok.s2
  have hll := d.looseL_len
  have hlts := h.lts
  have hrk0 := hrk.below hb0
  have hz0 : w0.heap.size = gb + 1 := by rw [← hw0, World.size_alloc, hgb]
  obtain ⟨L, hL⟩ : ∃ L, d.looseL = L := ⟨_, rfl⟩
  have hget : ∀ (k : Nat) (hk : k < L.length), ∃ bs, d.loose L[k] = some bs ∧ 0 ≤ L[k] ∧ L[k] < d.fast.length ∧ bs.length = d.size ∧ L[k] ∉ L.take k := by subst hL; exact fun k hk => Dk.looseL_get ok hk
  have hdone := rlow_done ok keep torn cut
  have h0L : ∀ y ∈ L, 0 ≤ y := fun y hy => by
    rw [← hL] at hy
    obtain ⟨b, hb⟩ := Option.isSome_iff_exists.1 ((Dk.mem_looseL ok).1 hy)
    exact (ok.lo _ b hb).1
  rw [hL] at HLO hll hdone
  have Hget := hide hget
  have H0L := hide h0L
  have HQ := hide hQ
  have HK := hide hK
  have H0 := hide h0
  obtain ⟨m, hm⟩ : ∃ m, L.length = m := ⟨_, rfl⟩
  rw [hm] at HLO hll hdone
  have HDN := hide hdone
  have Hm := hide hm
  have Hw0 := hide hw0
  have Hg := hide hgb
  have hgle : t < gb ∧ f < gb := by omega
  clear h h0 hL hget h0L hQ hK hm hw0 hgb hrk ok hdone
  go_enter Try.func29, Try.ntmps29
  go_wp2_with fail
  rw [Hw0.out, Hg.out]
  refine HLO.out.mono ?_
  rintro x w3 ⟨u, rfl, hO3, hb3⟩
  rw [hz0] at hO3
  obtain ⟨A, c, rfl, _, hLc, hcm, hr3, hA3⟩ := own_out hO3
  have hAg : 1 ≤ m → ∃ g, A = some ⟨g, 0, none⟩ ∧ gb + 1 ≤ g := fun h1 => by
    obtain ⟨g, c', hv, hg1, _⟩ := own_cells1 hO3 h1
    injection hv with e1
    exact ⟨g, e1, hg1⟩
  have hD3 := H0.out.below hb3
  have hF3 : Fr (ROwn t f) w w3 := (Fr.of_below hb0).trans' (Y := fun _ => False) (Fr.of_below hb3) (fun b hb => hb.elim)
  have hG3 := hG.below hb3
  have hK3 := hrk0.below hb3
  have hnG : ¬ ROwn t f gb := fun hx => by rcases hx with h | h <;> omega
  have hcm' : c ≤ 9223372036854775807 := by unfold maxLen at hcm; omega
  rw [← rlow_zero d L] at hD3
  have HAg := hide hAg
  have hsz3 := hb3.size
  rw [hz0] at hsz3
  clear HLO hG hrk0 hA3 hO3 H0 hAg hcm hb3 hb0
  go_wp2_with fail
  go_loopw [5] (fun s W => ∃ k : Nat, s = .int .i64 (k : Int) ∧ k ≤ m ∧ (∃ csk, RDIs W Q t f csk (rlow d L (d.crashTo keep torn cut L k) k)) ∧ Fr (ROwn t f) w W ∧ Rd W A (ints L) ∧ Blk W gb [.slice K kn kc, .int .i64 torn, .int .i64 cut] 32 ∧ Rd W K (bls keep)) (fun s _ => m - (RowKit.intOf s).toNat)
  case atStart => exact ⟨0, rfl, by omega, ⟨_, hD3⟩, hF3, hr3, hG3, hK3⟩
  case round =>
    clear hD3 hF3 hr3 hG3 hK3
    obtain ⟨k, rfl, hkm, ⟨csk, hDk⟩, hFk, hrk, hGk, hKk⟩ := hrel
    by_cases hlt : k < m
    · have hkl : k < L.length := by rw [Hm.out]; exact hlt
      obtain ⟨g, rfl, hg1⟩ := HAg.out (by omega)
      have hca : wr.cell? ⟨g, k, none⟩ = some (.int .i64 L[k]) := by
        obtain ⟨a, ha, hca⟩ := hrk k _ (ints_get hkl)
        injection ha with ha
        subst ha
        rwa [show (⟨g, 0, none⟩ : Addr).add k = ⟨g, k, none⟩ by unfold Addr.add; split <;> simp_all] at hca
      obtain ⟨bs, g1, g2, g3, g4, g5⟩ := Hget.out k hkl
      obtain ⟨s1, s2, s3⟩ := Dk.crashTo_same keep torn cut d L H0L.out k (by rw [Hm.out]; omega)
      have hlk : (d.crashTo keep torn cut L k).loose L[k] = some bs := by rw [s3 _ g5]; exact g1
      obtain ⟨i, hi⟩ : ∃ i : Nat, L[k] = (i : Int) := ⟨(L[k]).toNat, by omega⟩
      have hnx : d.crashTo keep torn cut L (k + 1) = (d.crashTo keep torn cut L k).crashStep keep torn cut k (i : Int) := by
        show (d.crashTo keep torn cut L k).crashStep keep torn cut k (L.getD k 0) = _
        rw [intD_at08 hkl, hi]
      have hiN : i < (d.crashTo keep torn cut L k).fast.length := by rw [hi] at g3; omega
      have hst := rlow_step keep torn cut (d := d) hkl hi hiN (by rw [← hi]; exact hlk)
      rw [← hnx] at hst
      rw [hi] at hca hlk
      have hll2 : (rlow d L (d.crashTo keep torn cut L k) k).loose (i : Int) = some bs := by
        show (if (i : Int) ∈ L.take k then none else d.loose (i : Int)) = _
        rw [← hi, if_neg g5]; exact g1
      obtain ⟨dk, hdk⟩ : ∃ dk, rlow d L (d.crashTo keep torn cut L k) k = dk := ⟨_, rfl⟩
      have hdf : (d.crashTo keep torn cut L k).fast[i] = dk.fast[i]'(by rw [← hdk]; exact hiN) := by subst hdk; rfl
      have hdb : (d.crashTo keep torn cut L k).bad (i : Int) = dk.bad (i : Int) := by subst hdk; rfl
      have hds : (d.crashTo keep torn cut L k).size = dk.size := by subst hdk; rfl
      have hdn : (d.crashTo keep torn cut L k).fast.length = dk.fast.length := by subst hdk; rfl
      have hSF : stepF keep torn cut (d.crashTo keep torn cut L k) k i bs (d.crashTo keep torn cut L k).fast[i] = if (k : Int) = torn then (if dk.bad (i : Int) = true then dk.fast[i]'(by rw [← hdn]; exact hiN) else tornB dk.size bs (dk.fast[i]'(by rw [← hdn]; exact hiN)) cut) else if keep.getD k false = true then bs else dk.fast[i]'(by rw [← hdn]; exact hiN) := by
        unfold stepF; rw [hdb, hds, hdf]
      have hSB : stepB keep torn (d.crashTo keep torn cut L k) k i = if (k : Int) = torn then dk.bad (i : Int) else if keep.getD k false = true then false else dk.bad (i : Int) := by
        unfold stepB; rw [hdb]
      rw [hdn] at hiN
      rw [hdk, hSF, hSB] at hst
      rw [hdk] at hDk hll2
      have hdN : dk.fast.length = d.fast.length := by omega
      have hdS : dk.size = d.size := by omega
      obtain ⟨N, hNe⟩ : ∃ N, dk.fast.length = N := ⟨_, rfl⟩
      have hiN' : i < N := by omega
      have hN' : N ≤ 65536 := by omega
      obtain ⟨cb, bb, _⟩ := hDk.blk
      have y0 := bb.cell (j := 0) rfl
      have y1 := bb.cell (j := 1) rfl
      rw [hNe] at y1
      obtain ⟨A1, n1, c1, B1, m1, e1, v0, v1, v2, v3, p1, p2, p3, p4, p5, p6, p7, p8⟩ := hDk.at_ hiN
      obtain ⟨p9, p10, p11⟩ := p8 bs hll2
      rw [hll2] at v1
      obtain ⟨bd, hbd⟩ : ∃ b, dk.bad (i : Int) = b := ⟨_, rfl⟩
      obtain ⟨fi, hfi⟩ : ∃ b, dk.fast[i] = b := ⟨_, rfl⟩
      rw [hbd] at v3 hst
      rw [hfi] at p1 p4 hst
      have hbl : bs.length = dk.size := by omega
      have hfl : fi.length = dk.size := by rw [← hfi]; exact hDk.ok.fl _ (List.getElem_mem hiN)
      have HST := hide hst
      have HD := hide hDk
      have HFk := hide hFk
      have Hr := hide hrk
      have HG := hide hGk
      have HKk := hide hKk
      have q0 := hGk.cell (j := 0) rfl
      have q1 := hGk.cell (j := 1) rfl
      have q2 := hGk.cell (j := 2) rfl
      have HIN := hide hiN
      have HdS := hide hdS
      obtain ⟨S, hS⟩ : ∃ S, dk.size = S := ⟨_, rfl⟩
      rw [hS] at y0 hbl hfl
      have HS := hide hS
      have hS2 : S ≤ 8192 := by omega
      have HNe := hide hNe
      have HF0 := hFk.size
      rw [Hg.out] at HF0
      have hge : g < wr.heap.size := by have := World.block_lt_of_cell? wr _ hca; exact this
      have Hbn := hide (And.intro p1 (And.intro p2 (And.intro p3 (And.intro p4 p5))))
      have HBn := hide (And.intro p9 (And.intro p10 (And.intro p11 (And.intro p6 p7))))
      clear hst hDk hFk hrk hGk hKk bb hSF hSB hdf hdb hds hdn hdk hnx hlk hll2 p1 p2 p3 p4 p5 p6 p7 p8 p9 p10 p11 g1 g2 g3 g4 g5 s1 s2 s3 hi hfi hbd hNe hS hdS hdN hiN
      have hSt : ∀ Z, Below wr.heap.size wr Z → Z.cell? ⟨t, 1, none⟩ = some (.slice (some ⟨f, 0, none⟩) N cb) ∧ Z.cell? ⟨g, k, none⟩ = some (.int .i64 (i : Int)) ∧ Z.cell? ⟨f, i * 4, none⟩ = some (.slice A1 n1 c1) ∧ Z.cell? ⟨f, i * 4 + 1, none⟩ = some (.bool (some bs).isSome) ∧ Z.cell? ⟨f, i * 4 + 2, none⟩ = some (.slice B1 m1 e1) ∧ Z.cell? ⟨f, i * 4 + 3, none⟩ = some (.bool bd) := fun Z hZ => ⟨below_cell08 hZ y1, below_cell08 hZ hca, below_cell08 hZ v0, below_cell08 hZ v1, below_cell08 hZ v2, below_cell08 hZ v3⟩
      have HSt := hide hSt
      clear hSt
      go_wp2_with fail
      have hS0 := HSt.out wr.drew (Below.refl _ _).drew
      refine wp_region_held_drew (S := fun Z => Z.cell? ⟨t, 1, none⟩ = some (.slice (some ⟨f, 0, none⟩) N cb) ∧ Z.cell? ⟨g, k, none⟩ = some (.int .i64 (i : Int)) ∧ Z.cell? ⟨f, i * 4, none⟩ = some (.slice A1 n1 c1) ∧ Z.cell? ⟨f, i * 4 + 1, none⟩ = some (.bool (some bs).isSome) ∧ Z.cell? ⟨f, i * 4 + 2, none⟩ = some (.slice B1 m1 e1) ∧ Z.cell? ⟨f, i * 4 + 3, none⟩ = some (.bool bd)) (by kernel_rfl) hS0 (fun _ => ?_)
      refine wpAnyH_take (fuel := 11) (i := 0) (v := .pointer (some ⟨t, 0, none⟩)) rfl (by kernel_rfl) (by kernel_rfl) (by kernel_rfl) (fun _ _ _ h => h) (Or.inl ⟨by rfl, fun Z hZ => ?_⟩) hS0 ?_
      · obtain ⟨z1, z2, z3, z4, z5, z6⟩ := hZ
        go_simp
      refine wpAnyH_take (fuel := 10) (i := 1) (v := .pointer (some ⟨t, 0, none⟩)) rfl (by kernel_rfl) (by kernel_rfl) (by kernel_rfl) (fun _ _ _ h => h) (Or.inl ⟨by rfl, fun Z hZ => ?_⟩) hS0 ?_
      · obtain ⟨z1, z2, z3, z4, z5, z6⟩ := hZ
        go_simp
      refine wpAnyH_take (fuel := 9) (i := 2) (v := .pointer (some ⟨t, 1, none⟩)) rfl (by kernel_rfl) (by kernel_rfl) (by kernel_rfl) (fun _ _ _ h => h) (Or.inl ⟨by rfl, fun Z hZ => ?_⟩) hS0 ?_
      · obtain ⟨z1, z2, z3, z4, z5, z6⟩ := hZ
        go_simp
      refine wpAnyH_take (fuel := 8) (i := 3) (v := .slice (some ⟨f, 0, none⟩) N cb) rfl (by kernel_rfl) (by kernel_rfl) (by kernel_rfl) (fun _ _ _ h => h) (Or.inl ⟨by rfl, fun Z hZ => ?_⟩) hS0 ?_
      · obtain ⟨z1, z2, z3, z4, z5, z6⟩ := hZ
        go_simp
      refine wpAnyH_take (fuel := 7) (i := 4) (v := .slice (some ⟨g, 0, none⟩) m c) rfl (by kernel_rfl) (by kernel_rfl) (by kernel_rfl) (fun _ _ _ h => h) (Or.inl ⟨by rfl, fun Z hZ => ?_⟩) hS0 ?_
      · obtain ⟨z1, z2, z3, z4, z5, z6⟩ := hZ
        go_simp
      refine wpAnyH_take (fuel := 6) (i := 5) (v := .int .i64 (k : Int)) rfl (by kernel_rfl) (by kernel_rfl) (by kernel_rfl) (fun _ _ _ h => h) (Or.inl ⟨by rfl, fun Z hZ => ?_⟩) hS0 ?_
      · obtain ⟨z1, z2, z3, z4, z5, z6⟩ := hZ
        go_simp
      refine wpAnyH_take (fuel := 5) (i := 6) (v := .pointer (some ⟨g, k, none⟩)) rfl (by kernel_rfl) (by kernel_rfl) (by kernel_rfl) (fun _ _ _ h => h) (Or.inl ⟨by rfl, fun Z hZ => ?_⟩) hS0 ?_
      · obtain ⟨z1, z2, z3, z4, z5, z6⟩ := hZ
        go_simp
      refine wpAnyH_take (fuel := 4) (i := 7) (v := .int .i64 (i : Int)) rfl (by kernel_rfl) (by kernel_rfl) (by kernel_rfl) (fun _ _ _ h => h) (Or.inl ⟨by rfl, fun Z hZ => ?_⟩) hS0 ?_
      · obtain ⟨z1, z2, z3, z4, z5, z6⟩ := hZ
        go_simp
      refine wpAnyH_take (fuel := 3) (i := 8) (v := .pointer (some ⟨f, i * 4, none⟩)) rfl (by kernel_rfl) (by kernel_rfl) (by kernel_rfl) (fun _ _ _ h => h) (Or.inl ⟨by rfl, fun Z hZ => ?_⟩) hS0 ?_
      · obtain ⟨z1, z2, z3, z4, z5, z6⟩ := hZ
        go_simp
      refine wpAnyH_take (fuel := 2) (i := 9) (v := .agg #[.slice A1 n1 c1, .bool true, .slice B1 m1 e1, .bool bd]) rfl (by kernel_rfl) (by kernel_rfl) (by kernel_rfl) (fun _ _ _ h => h) (Or.inl ⟨by rfl, fun Z hZ => ?_⟩) hS0 ?_
      · obtain ⟨z1, z2, z3, z4, z5, z6⟩ := hZ
        go_simp
      obtain ⟨sb, hsb⟩ : ∃ y, wr.heap.size = y := ⟨_, rfl⟩
      obtain ⟨wa, hwa⟩ : ∃ y, (wr.alloc (.cells #[.slice none 0 0, .bool false, .slice none 0 0, .bool false] 86)).drew = y := ⟨_, rfl⟩
      have hba : Below wr.heap.size wr wa := by rw [← hwa]; exact ((Below.refl _ _).alloc (Nat.le_refl _) _).drew
      have hBa : Blk wa sb [.slice none 0 0, .bool false, .slice none 0 0, .bool false] 86 := by rw [← hwa, ← hsb]; exact Blk.new wr _ _
      have hza : wa.heap.size = sb + 1 := by rw [← hwa, ← hsb]; exact World.size_alloc _ _
      have i0 := hBa.cell (j := 0) rfl
      have i1 := hBa.cell (j := 1) rfl
      have i2 := hBa.cell (j := 2) rfl
      have i3 := hBa.cell (j := 3) rfl
      have j0 := hBa.frozen 0
      have j1 := hBa.frozen 1
      have j2 := hBa.frozen 2
      have j3 := hBa.frozen 3
      obtain ⟨w5, hw5⟩ : ∃ y, (((wa.setCell ⟨sb, 0, none⟩ (.slice A1 n1 c1)).setCell ⟨sb, 1, none⟩ (.bool true)).setCell ⟨sb, 2, none⟩ (.slice B1 m1 e1)).setCell ⟨sb, 3, none⟩ (.bool bd) = y := ⟨_, rfl⟩
      have hF5 : Fr (fun x => x = sb) wa w5 := by rw [← hw5]; exact (((Fr.set (X := fun x => x = sb) wa ⟨sb, 0, none⟩ _ rfl).trans (Fr.set (X := fun x => x = sb) _ ⟨sb, 1, none⟩ _ rfl)).trans (Fr.set (X := fun x => x = sb) _ ⟨sb, 2, none⟩ _ rfl)).trans (Fr.set (X := fun x => x = sb) _ ⟨sb, 3, none⟩ _ rfl)
      have hB5 : Blk w5 sb [.slice A1 n1 c1, .bool true, .slice B1 m1 e1, .bool bd] 86 := by rw [← hw5]; exact (((hBa.set 0 _).set 1 _).set 2 _).set 3 _
      have hb5 : Below wr.heap.size wr w5 := hF5.below hba (by omega) (fun x hx => by omega)
      have hz5 : w5.heap.size = sb + 1 := by rw [← hw5]; simp [hza]
      have HSa := HSt.out _ hba
      have HS5 := HSt.out _ hb5
      have Hwa := hide hwa
      have Hw5 := hide hw5
      clear hwa hw5
      refine all_one (fuel := 1) (i := 10) (by kernel_rfl) rfl rfl (fun Kk hK => ?_)
      go_simp
      try rw [hsb]
      try rw [Hwa.out]
      refine hK _ _ ⟨HSa, ?_⟩
      clear hK Kk
      refine all_one (fuel := 0) (i := 11) (by kernel_rfl) rfl rfl (fun Kk hK => ?_)
      go_simp
      try rw [Hw5.out]
      refine hK _ _ ⟨HS5, ?_⟩
      clear hK Kk
      refine wpAnyH_done (by kernel_rfl) ?_ _
      have y05 := below_cell08 hb5 y0
      have y15 := below_cell08 hb5 y1
      have q05 := below_cell08 hb5 q0
      have q15 := below_cell08 hb5 q1
      have q25 := below_cell08 hb5 q2
      have b50 := hB5.cell (j := 0) rfl
      have b51 := hB5.cell (j := 1) rfl
      have b52 := hB5.cell (j := 2) rfl
      have b53 := hB5.cell (j := 3) rfl
      have jj0 := hB5.frozen 0
      have jj1 := hB5.frozen 1
      have jj2 := hB5.frozen 2
      have jj3 := hB5.frozen 3
      have Hb5 := hide hb5
      have Hz5 := hide hz5
      have Hsb := hide hsb
      clear y0 y1 q0 q1 q2 v0 v1 v2 v3 hca hS0 HSa HS5 hba hBa hza i0 i1 i2 i3 j0 j1 j2 j3 hF5 Hwa Hw5 hb5
      by_cases hkt : (k : Int) = torn
      · have u1 : ((k : Int) == torn) = true := by simp [hkt]
        rw [if_pos hkt, if_pos hkt] at HST
        clear hkt
        obtain ⟨C, hC⟩ : ∃ C : Nat, min (max cut 0) (S : Int) = (C : Int) := ⟨(min (max cut 0) (S : Int)).toNat, by omega⟩
        have hCS : C ≤ S := by omega
        go_wp2_with fail
        have hS0 : w5.drew.cell? ⟨gb, 2, none⟩ = some (.int .i64 cut) ∧ w5.drew.cell? ⟨t, 0, none⟩ = some (.int .i64 (S : Int)) := ⟨q25, y05⟩
        refine wp_region_held_drew (S := fun Z => Z.cell? ⟨gb, 2, none⟩ = some (.int .i64 cut) ∧ Z.cell? ⟨t, 0, none⟩ = some (.int .i64 (S : Int))) (by kernel_rfl) hS0 (fun _ => ?_)
        refine wpAnyH_take (fuel := 8) (i := 0) (v := .pointer (some ⟨gb, 2, none⟩)) rfl (by kernel_rfl) (by kernel_rfl) (by kernel_rfl) (fun _ _ _ h => h) (Or.inl ⟨by rfl, fun Z hZ => ?_⟩) hS0 ?_
        · obtain ⟨z1, z2⟩ := hZ
          go_simp
        refine wpAnyH_take (fuel := 7) (i := 1) (v := .int .i64 cut) rfl (by kernel_rfl) (by kernel_rfl) (by kernel_rfl) (fun _ _ _ h => h) (Or.inl ⟨by rfl, fun Z hZ => ?_⟩) hS0 ?_
        · obtain ⟨z1, z2⟩ := hZ
          go_simp
        refine wpAnyH_take (fuel := 6) (i := 3) (v := .pointer (some ⟨t, 0, none⟩)) rfl (by kernel_rfl) (by kernel_rfl) (by kernel_rfl) (fun _ _ _ h => h) (Or.inl ⟨by rfl, fun Z hZ => ?_⟩) hS0 ?_
        · obtain ⟨z1, z2⟩ := hZ
          go_simp
        refine wpAnyH_take (fuel := 5) (i := 4) (v := .pointer (some ⟨t, 0, none⟩)) rfl (by kernel_rfl) (by kernel_rfl) (by kernel_rfl) (fun _ _ _ h => h) (Or.inl ⟨by rfl, fun Z hZ => ?_⟩) hS0 ?_
        · obtain ⟨z1, z2⟩ := hZ
          go_simp
        refine wpAnyH_take (fuel := 4) (i := 5) (v := .pointer (some ⟨t, 0, none⟩)) rfl (by kernel_rfl) (by kernel_rfl) (by kernel_rfl) (fun _ _ _ h => h) (Or.inl ⟨by rfl, fun Z hZ => ?_⟩) hS0 ?_
        · obtain ⟨z1, z2⟩ := hZ
          go_simp
        refine wpAnyH_take (fuel := 3) (i := 6) (v := .int .i64 (S : Int)) rfl (by kernel_rfl) (by kernel_rfl) (by kernel_rfl) (fun _ _ _ h => h) (Or.inl ⟨by rfl, fun Z hZ => ?_⟩) hS0 ?_
        · obtain ⟨z1, z2⟩ := hZ
          go_simp
        refine all_one (fuel := 2) (i := 2) (by kernel_rfl) rfl rfl (fun Kk hK => ?_)
        go_simp
        refine hK _ _ ⟨hS0, ?_⟩
        clear hK Kk
        refine all_one (fuel := 1) (i := 7) (by kernel_rfl) rfl rfl (fun Kk hK => ?_)
        go_simp
        refine hK _ _ ⟨hS0, ?_⟩
        clear hK Kk
        refine all_one (fuel := 0) (i := 8) (by kernel_rfl) rfl rfl (fun Kk hK => ?_)
        go_simp
        refine hK _ _ ⟨hS0, ?_⟩
        clear hK Kk
        refine wpAnyH_done (by kernel_rfl) ?_ _
        try rw [hC]
        cases bd with
        | true =>
          rw [if_pos rfl] at HST
          clear hS0
          go_wp2_with fail
          obtain ⟨wc, hwc⟩ : ∃ y, ((((w5).setCell ⟨sb, 1, none⟩ (.bool false)).setCell ⟨sb, 2, none⟩ (.slice none 0 0)).drew).drew = y := ⟨_, rfl⟩
          have hBc : Blk wc sb [.slice A1 n1 c1, .bool false, .slice none 0 0, .bool true] 86 := by rw [← hwc]; exact ((hB5.set 1 (.bool false)).set 2 (.slice none 0 0))
          have hFc : Fr (fun x => x = sb) (w5) wc := by rw [← hwc]; exact (((Fr.refl (fun x => x = sb) (w5)).trans (Fr.set (X := fun x => x = sb) _ ⟨sb, 1, none⟩ _ rfl)).trans (Fr.set (X := fun x => x = sb) _ ⟨sb, 2, none⟩ _ rfl)).drew.drew
          have hbc : Below wr.heap.size wr wc := hFc.below (Hb5.out) (Hb5.out).size (fun x hx => by have := Hsb.out; omega)
          have hSc : wc.cell? ⟨t, 1, none⟩ = some (.slice (some ⟨f, 0, none⟩) N cb) ∧ wc.cell? ⟨g, k, none⟩ = some (.int .i64 (i : Int)) ∧ wc.cell? ⟨sb, 0, none⟩ = some (.slice A1 n1 c1) ∧ wc.cell? ⟨sb, 1, none⟩ = some (.bool false) ∧ wc.cell? ⟨sb, 2, none⟩ = some (.slice none 0 0) ∧ wc.cell? ⟨sb, 3, none⟩ = some (.bool true) := ⟨(HSt.out _ hbc).1, (HSt.out _ hbc).2.1, hBc.cell (j := 0) rfl, hBc.cell (j := 1) rfl, hBc.cell (j := 2) rfl, hBc.cell (j := 3) rfl⟩
          obtain ⟨hP, hPF⟩ := HD.out.lay4 hbc HIN.out (A := A1) (n := n1) (c := c1) (b := fi) (z := true) (by rw [HS.out]; exact hfl) (Hbn.out.1) (Hbn.out.2.1) (Hbn.out.2.2.1) (Hbn.out.2.2.2.1.below hbc) (Hbn.out.2.2.2.2)
          have hrow := HD.out.below hbc
          have hj0 := hrow.row.frozen (i * 4)
          have hj1 := hrow.row.frozen (i * 4 + 1)
          have hj2 := hrow.row.frozen (i * 4 + 2)
          have hj3 := hrow.row.frozen (i * 4 + 3)
          obtain ⟨_, _, _, _, _, _, r0, r1, r2, r3, _⟩ := hrow.at_ HIN.out
          obtain ⟨wf, hwf⟩ : ∃ y, (((wc.setCell ⟨f, i * 4, none⟩ (.slice A1 n1 c1)).setCell ⟨f, i * 4 + 1, none⟩ (.bool false)).setCell ⟨f, i * 4 + 2, none⟩ (.slice none 0 0)).setCell ⟨f, i * 4 + 3, none⟩ (.bool true) = y := ⟨_, rfl⟩
          have hwf4 : w4 wc f i (.slice A1 n1 c1) (.bool false) (.slice none 0 0) (.bool true) = wf := hwf
          rw [hwf4] at hP hPF
          have hFf : Fr (fun x => x = f) wc wf := by
            rw [← hwf]
            exact (((Fr.set (X := fun x => x = f) wc ⟨f, i * 4, none⟩ _ rfl).trans (Fr.set (X := fun x => x = f) _ ⟨f, i * 4 + 1, none⟩ _ rfl)).trans (Fr.set (X := fun x => x = f) _ ⟨f, i * 4 + 2, none⟩ _ rfl)).trans (Fr.set (X := fun x => x = f) _ ⟨f, i * 4 + 3, none⟩ _ rfl)
          have hnt : t ≠ f := HD.out.ne
          have hsbf : sb ≠ f := by have := Hsb.out; omega
          have hgf : g ≠ f := by omega
          have hSf : wf.cell? ⟨t, 1, none⟩ = some (.slice (some ⟨f, 0, none⟩) N cb) ∧ wf.cell? ⟨g, k, none⟩ = some (.int .i64 (i : Int)) ∧ wf.cell? ⟨sb, 0, none⟩ = some (.slice A1 n1 c1) ∧ wf.cell? ⟨sb, 1, none⟩ = some (.bool false) ∧ wf.cell? ⟨sb, 2, none⟩ = some (.slice none 0 0) ∧ wf.cell? ⟨sb, 3, none⟩ = some (.bool true) := ⟨hFf.cell hSc.1 hnt, hFf.cell hSc.2.1 hgf, hFf.cell hSc.2.2.1 hsbf, hFf.cell hSc.2.2.2.1 hsbf, hFf.cell hSc.2.2.2.2.1 hsbf, hFf.cell hSc.2.2.2.2.2 hsbf⟩
          have HP := hide hP
          have HF9 := hide (HFk.out.trans hPF)
          have Hr9 := hide (Hr.out.fr hPF (fun _ a ha hx => by injection ha with ha; subst ha; rcases hx with h | h <;> have h' : g = _ := h <;> omega))
          have HG9 := hide (HG.out.fr hPF hnG)
          have HK9 := hide (HKk.out.fr hPF (fun hne x hx => HK.out hne x hx))
          have Hwf := hide hwf
          have HSc := hide hSc
          have HSf := hide hSf
          clear hP hPF hBc hFc hbc hrow hwf hwf4 hFf hSc hSf hnt hsbf hgf
          have hS0 : ((((w5).setCell ⟨sb, 1, none⟩ (.bool false)).setCell ⟨sb, 2, none⟩ (.slice none 0 0)).drew).drew.cell? ⟨t, 1, none⟩ = some (.slice (some ⟨f, 0, none⟩) N cb) ∧ ((((w5).setCell ⟨sb, 1, none⟩ (.bool false)).setCell ⟨sb, 2, none⟩ (.slice none 0 0)).drew).drew.cell? ⟨g, k, none⟩ = some (.int .i64 (i : Int)) ∧ ((((w5).setCell ⟨sb, 1, none⟩ (.bool false)).setCell ⟨sb, 2, none⟩ (.slice none 0 0)).drew).drew.cell? ⟨sb, 0, none⟩ = some (.slice A1 n1 c1) ∧ ((((w5).setCell ⟨sb, 1, none⟩ (.bool false)).setCell ⟨sb, 2, none⟩ (.slice none 0 0)).drew).drew.cell? ⟨sb, 1, none⟩ = some (.bool false) ∧ ((((w5).setCell ⟨sb, 1, none⟩ (.bool false)).setCell ⟨sb, 2, none⟩ (.slice none 0 0)).drew).drew.cell? ⟨sb, 2, none⟩ = some (.slice none 0 0) ∧ ((((w5).setCell ⟨sb, 1, none⟩ (.bool false)).setCell ⟨sb, 2, none⟩ (.slice none 0 0)).drew).drew.cell? ⟨sb, 3, none⟩ = some (.bool true) := by rw [hwc]; exact HSc.out
          refine wp_region_held_drew (S := fun Z => Z.cell? ⟨t, 1, none⟩ = some (.slice (some ⟨f, 0, none⟩) N cb) ∧ Z.cell? ⟨g, k, none⟩ = some (.int .i64 (i : Int)) ∧ Z.cell? ⟨sb, 0, none⟩ = some (.slice A1 n1 c1) ∧ Z.cell? ⟨sb, 1, none⟩ = some (.bool false) ∧ Z.cell? ⟨sb, 2, none⟩ = some (.slice none 0 0) ∧ Z.cell? ⟨sb, 3, none⟩ = some (.bool true)) (by kernel_rfl) hS0 (fun _ => ?_)
          clear hS0
          rw [hwc]
          refine wpAnyH_take (fuel := 10) (i := 0) (v := .pointer (some ⟨t, 0, none⟩)) rfl (by kernel_rfl) (by kernel_rfl) (by kernel_rfl) (fun _ _ _ h => h) (Or.inl ⟨by rfl, fun Z hZ => ?_⟩) HSc.out ?_
          · obtain ⟨z1, z2, z3, z4, z5, z6⟩ := hZ
            go_simp
          refine wpAnyH_take (fuel := 9) (i := 1) (v := .pointer (some ⟨t, 0, none⟩)) rfl (by kernel_rfl) (by kernel_rfl) (by kernel_rfl) (fun _ _ _ h => h) (Or.inl ⟨by rfl, fun Z hZ => ?_⟩) HSc.out ?_
          · obtain ⟨z1, z2, z3, z4, z5, z6⟩ := hZ
            go_simp
          refine wpAnyH_take (fuel := 8) (i := 2) (v := .pointer (some ⟨t, 1, none⟩)) rfl (by kernel_rfl) (by kernel_rfl) (by kernel_rfl) (fun _ _ _ h => h) (Or.inl ⟨by rfl, fun Z hZ => ?_⟩) HSc.out ?_
          · obtain ⟨z1, z2, z3, z4, z5, z6⟩ := hZ
            go_simp
          refine wpAnyH_take (fuel := 7) (i := 3) (v := .slice (some ⟨f, 0, none⟩) N cb) rfl (by kernel_rfl) (by kernel_rfl) (by kernel_rfl) (fun _ _ _ h => h) (Or.inl ⟨by rfl, fun Z hZ => ?_⟩) HSc.out ?_
          · obtain ⟨z1, z2, z3, z4, z5, z6⟩ := hZ
            go_simp
          refine wpAnyH_take (fuel := 6) (i := 4) (v := .slice (some ⟨g, 0, none⟩) m c) rfl (by kernel_rfl) (by kernel_rfl) (by kernel_rfl) (fun _ _ _ h => h) (Or.inl ⟨by rfl, fun Z hZ => ?_⟩) HSc.out ?_
          · obtain ⟨z1, z2, z3, z4, z5, z6⟩ := hZ
            go_simp
          refine wpAnyH_take (fuel := 5) (i := 5) (v := .int .i64 (k : Int)) rfl (by kernel_rfl) (by kernel_rfl) (by kernel_rfl) (fun _ _ _ h => h) (Or.inl ⟨by rfl, fun Z hZ => ?_⟩) HSc.out ?_
          · obtain ⟨z1, z2, z3, z4, z5, z6⟩ := hZ
            go_simp
          refine wpAnyH_take (fuel := 4) (i := 6) (v := .pointer (some ⟨g, k, none⟩)) rfl (by kernel_rfl) (by kernel_rfl) (by kernel_rfl) (fun _ _ _ h => h) (Or.inl ⟨by rfl, fun Z hZ => ?_⟩) HSc.out ?_
          · obtain ⟨z1, z2, z3, z4, z5, z6⟩ := hZ
            go_simp
          refine wpAnyH_take (fuel := 3) (i := 7) (v := .int .i64 (i : Int)) rfl (by kernel_rfl) (by kernel_rfl) (by kernel_rfl) (fun _ _ _ h => h) (Or.inl ⟨by rfl, fun Z hZ => ?_⟩) HSc.out ?_
          · obtain ⟨z1, z2, z3, z4, z5, z6⟩ := hZ
            go_simp
          refine wpAnyH_take (fuel := 2) (i := 8) (v := .agg #[.slice A1 n1 c1, .bool false, .slice none 0 0, .bool true]) rfl (by kernel_rfl) (by kernel_rfl) (by kernel_rfl) (fun _ _ _ h => h) (Or.inl ⟨by rfl, fun Z hZ => ?_⟩) HSc.out ?_
          · obtain ⟨z1, z2, z3, z4, z5, z6⟩ := hZ
            go_simp
          refine wpAnyH_take (fuel := 1) (i := 9) (v := .pointer (some ⟨f, i * 4, none⟩)) rfl (by kernel_rfl) (by kernel_rfl) (by kernel_rfl) (fun _ _ _ h => h) (Or.inl ⟨by rfl, fun Z hZ => ?_⟩) HSc.out ?_
          · obtain ⟨z1, z2, z3, z4, z5, z6⟩ := hZ
            go_simp
          refine all_one (fuel := 0) (i := 10) (by kernel_rfl) rfl rfl (fun Kk hK => ?_)
          go_simp
          try rw [Hwf.out]
          refine hK _ _ ⟨HSf.out, ?_⟩
          clear hK Kk
          refine wpAnyH_done (by kernel_rfl) ?_ _
          go_wp2
          go_roundw
          case rel => exact ⟨k + 1, by go_num, by omega, by rw [HST.out]; exact HP.out, HF9.out, Hr9.out, HG9.out, HK9.out⟩
          case measure => simp [RowKit.intOf]; omega
        | false =>
          rw [if_neg (by decide)] at HST
          have hn1S : n1 ≤ S ∧ S ≤ n1 := by have := Hbn.out.1; omega
          have hm1S : m1 ≤ S ∧ S ≤ m1 := by have := HBn.out.1; omega
          have hnc1 : n1 ≤ c1 := Hbn.out.2.1
          have hme1 : m1 ≤ e1 := HBn.out.2.2.2.1
          have hCe : C ≤ e1 := by omega
          have hCn : C ≤ n1 := by omega
          have hCc : C ≤ c1 := by omega
          have hCm : C ≤ m1 := by omega
          have hTB : tornB S bs fi cut = bs.take C ++ fi.drop C := by unfold tornB; rw [hC]; rfl
          have hsbE : wr.heap.size = sb := Hsb.out
          obtain ⟨wd, hwd⟩ : ∃ y, w5.drew.drew = y := ⟨_, rfl⟩
          have hbd : Below wr.heap.size wr wd := by rw [← hwd]; exact Hb5.out.drew.drew
          have hzd : wd.heap.size = sb + 1 := by rw [← hwd]; exact Hz5.out
          have hBd : Blk wd sb [.slice A1 n1 c1, .bool true, .slice B1 m1 e1, .bool false] 86 := by rw [← hwd]; exact hB5
          obtain ⟨wz, hwz⟩ : ∃ y, wd.alloc (.cells #[] 5) = y := ⟨_, rfl⟩
          have hE : wz.ownsRow (sb + 1) 5 1 (.slice (some ⟨sb + 1, 0, none⟩) 0 0) 0 [] := by
            have := empty_own wd (sb + 1) (by omega)
            rw [hzd] at this
            rw [← hwz]; exact this
          have hbdz : Below (sb + 1) wd wz := by rw [← hwz]; exact (Below.refl _ _).alloc (by omega) _
          have hzz : wz.heap.size = sb + 2 := by rw [← hwz, World.size_alloc, hzd]
          have hBW : ∀ W, Below (sb + 1) wd W → Blk W sb [.slice A1 n1 c1, .bool true, .slice B1 m1 e1, .bool false] 86 := fun W hW => hBd.below (by rw [hzd]; exact hW)
          have hRW : ∀ W, Below (sb + 1) wd W → Below wr.heap.size wr W := fun W hW => hbd.trans (hW.mono (by omega))
          have hnew : ∀ W, Below (sb + 1) wd W → Rd W B1 (bys (bs.take C)) := fun W hW => by rw [bys_take]; exact (HBn.out.2.1.below (hRW W hW)).take C
          have hold : ∀ W, Below (sb + 1) wd W → Rd W (cutA A1 c1 C 1) (bys (fi.drop C)) := fun W hW => by
            have := (Hbn.out.2.2.2.1.below (hRW W hW)).cutA (n := n1) (k := C) (cap := c1) (by rw [bys_length, Hbn.out.1]; exact Nat.le_refl _) (by omega) hnc1
            rw [bys_drop]; exact this
          have HBW := hide hBW
          have HRW := hide hRW
          have Hnew := hide hnew
          have Hold := hide hold
          have d0 := hBd.cell (j := 0) rfl
          have d2 := hBd.cell (j := 2) rfl
          have z0 := (hBW _ hbdz).cell (j := 0) rfl
          have z2 := (hBW _ hbdz).cell (j := 2) rfl
          have Hwz := hide hwz
          clear hBW hRW hnew hold hwz hBd hS0
          go_wp2_with fail
          have hS0 : w5.drew.drew.cell? ⟨sb, 2, none⟩ = some (.slice B1 m1 e1) := by rw [hwd]; exact d2
          refine wp_region_held_drew (S := fun Z => Z.cell? ⟨sb, 2, none⟩ = some (.slice B1 m1 e1)) (by kernel_rfl) hS0 (fun _ => ?_)
          clear hS0
          rw [hwd]
          refine wpAnyH_take (fuel := 12) (i := 1) (v := .pointer (some ⟨sb, 2, none⟩)) rfl (by kernel_rfl) (by kernel_rfl) (by kernel_rfl) (fun _ _ _ h => h) (Or.inl ⟨by rfl, fun Z hZ => ?_⟩) d2 ?_
          · have z9 := hZ
            go_simp
          refine wpAnyH_take (fuel := 11) (i := 2) (v := .slice B1 m1 e1) rfl (by kernel_rfl) (by kernel_rfl) (by kernel_rfl) (fun _ _ _ h => h) (Or.inl ⟨by rfl, fun Z hZ => ?_⟩) d2 ?_
          · have z9 := hZ
            go_simp
          refine wpAnyH_take (fuel := 10) (i := 3) (v := .int .i64 (C : Int)) rfl (by kernel_rfl) (by kernel_rfl) (by kernel_rfl) (fun _ _ _ h => h) (Or.inl ⟨by rfl, fun Z hZ => ?_⟩) d2 ?_
          · have z9 := hZ
            go_simp
          refine wpAnyH_take (fuel := 9) (i := 4) (v := .slice B1 C e1) rfl (by kernel_rfl) (by kernel_rfl) (by kernel_rfl) (fun _ _ _ h => h) (Or.inl ⟨by rfl, fun Z hZ => ?_⟩) d2 ?_
          · have z9 := hZ
            go_simp
          refine wpAnyH_take (fuel := 8) (i := 6) (v := .pointer (some ⟨sb, 0, none⟩)) rfl (by kernel_rfl) (by kernel_rfl) (by kernel_rfl) (fun _ _ _ h => h) (Or.inl ⟨by rfl, fun Z hZ => ?_⟩) d2 ?_
          · have z9 := hZ
            go_simp
          refine wpAnyH_take (fuel := 7) (i := 8) (v := .int .i64 (C : Int)) rfl (by kernel_rfl) (by kernel_rfl) (by kernel_rfl) (fun _ _ _ h => h) (Or.inl ⟨by rfl, fun Z hZ => ?_⟩) d2 ?_
          · have z9 := hZ
            go_simp
          refine all_two (fuel := 6) (i := 0) (j := 7) (by kernel_rfl) rfl rfl rfl rfl (fun Kk hK => ?_) (fun Kk hK => ?_)
          · go_simp
            try rw [hzd]
            try rw [Hwz.out]
            refine hK _ _ ⟨z2, ?_⟩
            clear hK Kk
            refine all_two (fuel := 5) (i := 5) (j := 7) (by kernel_rfl) rfl rfl rfl rfl (fun Kk hK => ?_) (fun Kk hK => ?_)
            · refine oper_own rfl tBytes (base := sb + 1) (e := 5) (by rfl) hE (A := B1) (m := C) (c := e1) (by rfl) (by rw [bys_length, List.length_take]; omega) (Hnew.out _ hbdz) (bys_one _) (by omega) (by omega) (by omega) ?_
              intro v1 w3 hO1 hg1 hv1
              rw [Nat.zero_add, List.nil_append] at hO1
              have hb3 : Below (sb + 1) wd w3 := hbdz.grown hg1 (by omega) (fun k hk => by simp [Value.ownBlock] at hk; omega)
              have hz3 := hg1.size
              have t0 := (HBW.out _ hb3).cell (j := 0) rfl
              have t2 := (HBW.out _ hb3).cell (j := 2) rfl
              obtain ⟨A3, c3, rfl, _⟩ := own_out hO1
              refine hK _ _ ⟨t2, ?_⟩
              clear hK Kk
              refine all_one (fuel := 4) (i := 7) (by kernel_rfl) rfl rfl (fun Kk hK => ?_)
              have xx := t0
              go_simp
              refine hK _ _ ⟨t2, ?_⟩
              clear hK Kk xx
              refine wpAnyH_take (fuel := 3) (i := 9) (v := .slice (cutA A1 c1 C 1) (n1 - C) (c1 - C)) rfl (by kernel_rfl) (by kernel_rfl) (by kernel_rfl) (fun _ _ _ h => h) (Or.inl ⟨by rfl, fun Z hZ => ?_⟩) t2 ?_
              · go_simp
              refine all_one (fuel := 2) (i := 10) (by kernel_rfl) rfl rfl (fun Kk hK => ?_)
              refine oper_own rfl tBytes (base := sb + 1) (e := 5) (by rfl) hO1 (A := cutA A1 c1 C 1) (m := n1 - C) (c := c1 - C) (by rfl) (by rw [bys_length, List.length_drop]; omega) (Hold.out _ hb3) (bys_one _) (by omega) (by omega) (by omega) ?_
              intro v2 w4' hO2 hg2 hv2
              rw [show C + (n1 - C) = S by omega, ← bys_append] at hO2
              have lo1 := own_out hO1
              have hb4 : Below (sb + 1) wd w4' := hb3.grown hg2 (by omega) (fun k hk => by
                obtain ⟨A0, c0, h0, _, _, _, _, hlo⟩ := lo1
                injection h0 with h0 _ _
                cases A3 with
                | none => simp [Value.ownBlock] at hk
                | some a3 => simp [Value.ownBlock] at hk; have := (hlo a3 h0.symm).1; omega)
              obtain ⟨A4, c4, rfl, _, hc4, hcm4, hr4, ha4⟩ := own_out hO2
              have hB4 := HBW.out _ hb4
              have hR4 := HRW.out _ hb4
              have hz4 := hg2.size
              have s0 := hB4.cell (j := 0) rfl
              have s1 := hB4.cell (j := 1) rfl
              have s2 := hB4.cell (j := 2) rfl
              have s3 := hB4.cell (j := 3) rfl
              have js0 := hB4.frozen 0
              have js1 := hB4.frozen 1
              have js2 := hB4.frozen 2
              refine hK _ _ ⟨s2, ?_⟩
              clear hK Kk
              refine all_one (fuel := 1) (i := 11) (by kernel_rfl) rfl rfl (fun Kk hK => ?_)
              go_simp
              refine hK _ _ ⟨s2, ?_⟩
              clear hK Kk
              refine all_one (fuel := 0) (i := 12) (by kernel_rfl) rfl rfl (fun Kk hK => ?_)
              go_simp
              refine hK _ _ ⟨(hB4.set 0 _).cell (j := 2) rfl, ?_⟩
              clear hK Kk
              refine wpAnyH_done (by kernel_rfl) ?_ _
              rw [HS.out, hTB] at HST
              have hl4 : (bs.take C ++ fi.drop C).length = S := by rw [List.length_append, List.length_take, List.length_drop]; omega
              obtain ⟨nb, hnb⟩ : ∃ nb, bs.take C ++ fi.drop C = nb := ⟨_, rfl⟩
              rw [hnb] at HST hl4 hr4
              have hc4' : c4 ≤ 9223372036854775807 := by unfold maxLen at hcm4; omega
              have hlo4 : ∀ a, A4 = some a → sb + 1 ≤ a.block := fun a ha => (ha4 a ha).1
              have hQ4 : ∀ a, A4 = some a → Q a.block := fun a ha => HQ.out _ (by have := hlo4 a ha; have := Hg.out; omega)
              have hr4' : ∀ wc, Fr (fun x => x = sb) w4' wc → Rd wc A4 (bys nb) := fun wc hF => hr4.fr hF (fun _ a ha hx => by have := hlo4 a ha; have hx' : a.block = sb := hx; omega)
              clear hO1 hO2 hg1 hg2 hv1 hv2 hr4 ha4 lo1 hE hnb hTB
              go_wp2_with fail
              obtain ⟨wc, hwc⟩ : ∃ y, (((((w4').setCell ⟨sb, 0, none⟩ (.slice A4 S c4)).setCell ⟨sb, 1, none⟩ (.bool false)).setCell ⟨sb, 2, none⟩ (.slice none 0 0))).drew = y := ⟨_, rfl⟩
              have hBc : Blk wc sb [.slice A4 S c4, .bool false, .slice none 0 0, .bool false] 86 := by rw [← hwc]; exact (((hB4.set 0 (.slice A4 S c4)).set 1 (.bool false)).set 2 (.slice none 0 0))
              have hFc : Fr (fun x => x = sb) (w4') wc := by rw [← hwc]; exact ((((Fr.refl (fun x => x = sb) (w4')).trans (Fr.set (X := fun x => x = sb) _ ⟨sb, 0, none⟩ _ rfl)).trans (Fr.set (X := fun x => x = sb) _ ⟨sb, 1, none⟩ _ rfl)).trans (Fr.set (X := fun x => x = sb) _ ⟨sb, 2, none⟩ _ rfl)).drew
              have hbc : Below wr.heap.size wr wc := hFc.below (hR4) (hR4).size (fun x hx => by have := Hsb.out; omega)
              have hSc : wc.cell? ⟨t, 1, none⟩ = some (.slice (some ⟨f, 0, none⟩) N cb) ∧ wc.cell? ⟨g, k, none⟩ = some (.int .i64 (i : Int)) ∧ wc.cell? ⟨sb, 0, none⟩ = some (.slice A4 S c4) ∧ wc.cell? ⟨sb, 1, none⟩ = some (.bool false) ∧ wc.cell? ⟨sb, 2, none⟩ = some (.slice none 0 0) ∧ wc.cell? ⟨sb, 3, none⟩ = some (.bool false) := ⟨(HSt.out _ hbc).1, (HSt.out _ hbc).2.1, hBc.cell (j := 0) rfl, hBc.cell (j := 1) rfl, hBc.cell (j := 2) rfl, hBc.cell (j := 3) rfl⟩
              obtain ⟨hP, hPF⟩ := HD.out.lay4 hbc HIN.out (A := A4) (n := S) (c := c4) (b := nb) (z := false) (by rw [HS.out]; exact hl4) (hl4) (hc4) (hc4') (hr4' _ hFc) (hQ4)
              have hrow := HD.out.below hbc
              have hj0 := hrow.row.frozen (i * 4)
              have hj1 := hrow.row.frozen (i * 4 + 1)
              have hj2 := hrow.row.frozen (i * 4 + 2)
              have hj3 := hrow.row.frozen (i * 4 + 3)
              obtain ⟨_, _, _, _, _, _, r0, r1, r2, r3, _⟩ := hrow.at_ HIN.out
              obtain ⟨wf, hwf⟩ : ∃ y, (((wc.setCell ⟨f, i * 4, none⟩ (.slice A4 S c4)).setCell ⟨f, i * 4 + 1, none⟩ (.bool false)).setCell ⟨f, i * 4 + 2, none⟩ (.slice none 0 0)).setCell ⟨f, i * 4 + 3, none⟩ (.bool false) = y := ⟨_, rfl⟩
              have hwf4 : w4 wc f i (.slice A4 S c4) (.bool false) (.slice none 0 0) (.bool false) = wf := hwf
              rw [hwf4] at hP hPF
              have hFf : Fr (fun x => x = f) wc wf := by
                rw [← hwf]
                exact (((Fr.set (X := fun x => x = f) wc ⟨f, i * 4, none⟩ _ rfl).trans (Fr.set (X := fun x => x = f) _ ⟨f, i * 4 + 1, none⟩ _ rfl)).trans (Fr.set (X := fun x => x = f) _ ⟨f, i * 4 + 2, none⟩ _ rfl)).trans (Fr.set (X := fun x => x = f) _ ⟨f, i * 4 + 3, none⟩ _ rfl)
              have hnt : t ≠ f := HD.out.ne
              have hsbf : sb ≠ f := by have := Hsb.out; omega
              have hgf : g ≠ f := by omega
              have hSf : wf.cell? ⟨t, 1, none⟩ = some (.slice (some ⟨f, 0, none⟩) N cb) ∧ wf.cell? ⟨g, k, none⟩ = some (.int .i64 (i : Int)) ∧ wf.cell? ⟨sb, 0, none⟩ = some (.slice A4 S c4) ∧ wf.cell? ⟨sb, 1, none⟩ = some (.bool false) ∧ wf.cell? ⟨sb, 2, none⟩ = some (.slice none 0 0) ∧ wf.cell? ⟨sb, 3, none⟩ = some (.bool false) := ⟨hFf.cell hSc.1 hnt, hFf.cell hSc.2.1 hgf, hFf.cell hSc.2.2.1 hsbf, hFf.cell hSc.2.2.2.1 hsbf, hFf.cell hSc.2.2.2.2.1 hsbf, hFf.cell hSc.2.2.2.2.2 hsbf⟩
              have HP := hide hP
              have HF9 := hide (HFk.out.trans hPF)
              have Hr9 := hide (Hr.out.fr hPF (fun _ a ha hx => by injection ha with ha; subst ha; rcases hx with h | h <;> have h' : g = _ := h <;> omega))
              have HG9 := hide (HG.out.fr hPF hnG)
              have HK9 := hide (HKk.out.fr hPF (fun hne x hx => HK.out hne x hx))
              have Hwf := hide hwf
              have HSc := hide hSc
              have HSf := hide hSf
              clear hP hPF hBc hFc hbc hrow hwf hwf4 hFf hSc hSf hnt hsbf hgf
              have hS0 : (((((w4').setCell ⟨sb, 0, none⟩ (.slice A4 S c4)).setCell ⟨sb, 1, none⟩ (.bool false)).setCell ⟨sb, 2, none⟩ (.slice none 0 0))).drew.cell? ⟨t, 1, none⟩ = some (.slice (some ⟨f, 0, none⟩) N cb) ∧ (((((w4').setCell ⟨sb, 0, none⟩ (.slice A4 S c4)).setCell ⟨sb, 1, none⟩ (.bool false)).setCell ⟨sb, 2, none⟩ (.slice none 0 0))).drew.cell? ⟨g, k, none⟩ = some (.int .i64 (i : Int)) ∧ (((((w4').setCell ⟨sb, 0, none⟩ (.slice A4 S c4)).setCell ⟨sb, 1, none⟩ (.bool false)).setCell ⟨sb, 2, none⟩ (.slice none 0 0))).drew.cell? ⟨sb, 0, none⟩ = some (.slice A4 S c4) ∧ (((((w4').setCell ⟨sb, 0, none⟩ (.slice A4 S c4)).setCell ⟨sb, 1, none⟩ (.bool false)).setCell ⟨sb, 2, none⟩ (.slice none 0 0))).drew.cell? ⟨sb, 1, none⟩ = some (.bool false) ∧ (((((w4').setCell ⟨sb, 0, none⟩ (.slice A4 S c4)).setCell ⟨sb, 1, none⟩ (.bool false)).setCell ⟨sb, 2, none⟩ (.slice none 0 0))).drew.cell? ⟨sb, 2, none⟩ = some (.slice none 0 0) ∧ (((((w4').setCell ⟨sb, 0, none⟩ (.slice A4 S c4)).setCell ⟨sb, 1, none⟩ (.bool false)).setCell ⟨sb, 2, none⟩ (.slice none 0 0))).drew.cell? ⟨sb, 3, none⟩ = some (.bool false) := by rw [hwc]; exact HSc.out
              refine wp_region_held_drew (S := fun Z => Z.cell? ⟨t, 1, none⟩ = some (.slice (some ⟨f, 0, none⟩) N cb) ∧ Z.cell? ⟨g, k, none⟩ = some (.int .i64 (i : Int)) ∧ Z.cell? ⟨sb, 0, none⟩ = some (.slice A4 S c4) ∧ Z.cell? ⟨sb, 1, none⟩ = some (.bool false) ∧ Z.cell? ⟨sb, 2, none⟩ = some (.slice none 0 0) ∧ Z.cell? ⟨sb, 3, none⟩ = some (.bool false)) (by kernel_rfl) hS0 (fun _ => ?_)
              clear hS0
              rw [hwc]
              refine wpAnyH_take (fuel := 10) (i := 0) (v := .pointer (some ⟨t, 0, none⟩)) rfl (by kernel_rfl) (by kernel_rfl) (by kernel_rfl) (fun _ _ _ h => h) (Or.inl ⟨by rfl, fun Z hZ => ?_⟩) HSc.out ?_
              · obtain ⟨z1, z2, z3, z4, z5, z6⟩ := hZ
                go_simp
              refine wpAnyH_take (fuel := 9) (i := 1) (v := .pointer (some ⟨t, 0, none⟩)) rfl (by kernel_rfl) (by kernel_rfl) (by kernel_rfl) (fun _ _ _ h => h) (Or.inl ⟨by rfl, fun Z hZ => ?_⟩) HSc.out ?_
              · obtain ⟨z1, z2, z3, z4, z5, z6⟩ := hZ
                go_simp
              refine wpAnyH_take (fuel := 8) (i := 2) (v := .pointer (some ⟨t, 1, none⟩)) rfl (by kernel_rfl) (by kernel_rfl) (by kernel_rfl) (fun _ _ _ h => h) (Or.inl ⟨by rfl, fun Z hZ => ?_⟩) HSc.out ?_
              · obtain ⟨z1, z2, z3, z4, z5, z6⟩ := hZ
                go_simp
              refine wpAnyH_take (fuel := 7) (i := 3) (v := .slice (some ⟨f, 0, none⟩) N cb) rfl (by kernel_rfl) (by kernel_rfl) (by kernel_rfl) (fun _ _ _ h => h) (Or.inl ⟨by rfl, fun Z hZ => ?_⟩) HSc.out ?_
              · obtain ⟨z1, z2, z3, z4, z5, z6⟩ := hZ
                go_simp
              refine wpAnyH_take (fuel := 6) (i := 4) (v := .slice (some ⟨g, 0, none⟩) m c) rfl (by kernel_rfl) (by kernel_rfl) (by kernel_rfl) (fun _ _ _ h => h) (Or.inl ⟨by rfl, fun Z hZ => ?_⟩) HSc.out ?_
              · obtain ⟨z1, z2, z3, z4, z5, z6⟩ := hZ
                go_simp
              refine wpAnyH_take (fuel := 5) (i := 5) (v := .int .i64 (k : Int)) rfl (by kernel_rfl) (by kernel_rfl) (by kernel_rfl) (fun _ _ _ h => h) (Or.inl ⟨by rfl, fun Z hZ => ?_⟩) HSc.out ?_
              · obtain ⟨z1, z2, z3, z4, z5, z6⟩ := hZ
                go_simp
              refine wpAnyH_take (fuel := 4) (i := 6) (v := .pointer (some ⟨g, k, none⟩)) rfl (by kernel_rfl) (by kernel_rfl) (by kernel_rfl) (fun _ _ _ h => h) (Or.inl ⟨by rfl, fun Z hZ => ?_⟩) HSc.out ?_
              · obtain ⟨z1, z2, z3, z4, z5, z6⟩ := hZ
                go_simp
              refine wpAnyH_take (fuel := 3) (i := 7) (v := .int .i64 (i : Int)) rfl (by kernel_rfl) (by kernel_rfl) (by kernel_rfl) (fun _ _ _ h => h) (Or.inl ⟨by rfl, fun Z hZ => ?_⟩) HSc.out ?_
              · obtain ⟨z1, z2, z3, z4, z5, z6⟩ := hZ
                go_simp
              refine wpAnyH_take (fuel := 2) (i := 8) (v := .agg #[.slice A4 S c4, .bool false, .slice none 0 0, .bool false]) rfl (by kernel_rfl) (by kernel_rfl) (by kernel_rfl) (fun _ _ _ h => h) (Or.inl ⟨by rfl, fun Z hZ => ?_⟩) HSc.out ?_
              · obtain ⟨z1, z2, z3, z4, z5, z6⟩ := hZ
                go_simp
              refine wpAnyH_take (fuel := 1) (i := 9) (v := .pointer (some ⟨f, i * 4, none⟩)) rfl (by kernel_rfl) (by kernel_rfl) (by kernel_rfl) (fun _ _ _ h => h) (Or.inl ⟨by rfl, fun Z hZ => ?_⟩) HSc.out ?_
              · obtain ⟨z1, z2, z3, z4, z5, z6⟩ := hZ
                go_simp
              refine all_one (fuel := 0) (i := 10) (by kernel_rfl) rfl rfl (fun Kk hK => ?_)
              go_simp
              try rw [Hwf.out]
              refine hK _ _ ⟨HSf.out, ?_⟩
              clear hK Kk
              refine wpAnyH_done (by kernel_rfl) ?_ _
              go_wp2
              go_roundw
              case rel => exact ⟨k + 1, by go_num, by omega, by rw [HST.out]; exact HP.out, HF9.out, Hr9.out, HG9.out, HK9.out⟩
              case measure => simp [RowKit.intOf]; omega
            · have xx := z0
              go_simp
              refine hK _ _ ⟨z2, ?_⟩
              clear hK Kk xx
              refine wpAnyH_take (fuel := 4) (i := 9) (v := .slice (cutA A1 c1 C 1) (n1 - C) (c1 - C)) rfl (by kernel_rfl) (by kernel_rfl) (by kernel_rfl) (fun _ _ _ h => h) (Or.inl ⟨by rfl, fun Z hZ => ?_⟩) z2 ?_
              · go_simp
              refine all_one (fuel := 3) (i := 5) (by kernel_rfl) rfl rfl (fun Kk hK => ?_)
              refine oper_own rfl tBytes (base := sb + 1) (e := 5) (by rfl) hE (A := B1) (m := C) (c := e1) (by rfl) (by rw [bys_length, List.length_take]; omega) (Hnew.out _ hbdz) (bys_one _) (by omega) (by omega) (by omega) ?_
              intro v1 w3 hO1 hg1 hv1
              rw [Nat.zero_add, List.nil_append] at hO1
              have hb3 : Below (sb + 1) wd w3 := hbdz.grown hg1 (by omega) (fun k hk => by simp [Value.ownBlock] at hk; omega)
              have hz3 := hg1.size
              have t0 := (HBW.out _ hb3).cell (j := 0) rfl
              have t2 := (HBW.out _ hb3).cell (j := 2) rfl
              obtain ⟨A3, c3, rfl, _⟩ := own_out hO1
              refine hK _ _ ⟨t2, ?_⟩
              clear hK Kk
              refine all_one (fuel := 2) (i := 10) (by kernel_rfl) rfl rfl (fun Kk hK => ?_)
              refine oper_own rfl tBytes (base := sb + 1) (e := 5) (by rfl) hO1 (A := cutA A1 c1 C 1) (m := n1 - C) (c := c1 - C) (by rfl) (by rw [bys_length, List.length_drop]; omega) (Hold.out _ hb3) (bys_one _) (by omega) (by omega) (by omega) ?_
              intro v2 w4' hO2 hg2 hv2
              rw [show C + (n1 - C) = S by omega, ← bys_append] at hO2
              have lo1 := own_out hO1
              have hb4 : Below (sb + 1) wd w4' := hb3.grown hg2 (by omega) (fun k hk => by
                obtain ⟨A0, c0, h0, _, _, _, _, hlo⟩ := lo1
                injection h0 with h0 _ _
                cases A3 with
                | none => simp [Value.ownBlock] at hk
                | some a3 => simp [Value.ownBlock] at hk; have := (hlo a3 h0.symm).1; omega)
              obtain ⟨A4, c4, rfl, _, hc4, hcm4, hr4, ha4⟩ := own_out hO2
              have hB4 := HBW.out _ hb4
              have hR4 := HRW.out _ hb4
              have hz4 := hg2.size
              have s0 := hB4.cell (j := 0) rfl
              have s1 := hB4.cell (j := 1) rfl
              have s2 := hB4.cell (j := 2) rfl
              have s3 := hB4.cell (j := 3) rfl
              have js0 := hB4.frozen 0
              have js1 := hB4.frozen 1
              have js2 := hB4.frozen 2
              refine hK _ _ ⟨s2, ?_⟩
              clear hK Kk
              refine all_one (fuel := 1) (i := 11) (by kernel_rfl) rfl rfl (fun Kk hK => ?_)
              go_simp
              refine hK _ _ ⟨s2, ?_⟩
              clear hK Kk
              refine all_one (fuel := 0) (i := 12) (by kernel_rfl) rfl rfl (fun Kk hK => ?_)
              go_simp
              refine hK _ _ ⟨(hB4.set 0 _).cell (j := 2) rfl, ?_⟩
              clear hK Kk
              refine wpAnyH_done (by kernel_rfl) ?_ _
              rw [HS.out, hTB] at HST
              have hl4 : (bs.take C ++ fi.drop C).length = S := by rw [List.length_append, List.length_take, List.length_drop]; omega
              obtain ⟨nb, hnb⟩ : ∃ nb, bs.take C ++ fi.drop C = nb := ⟨_, rfl⟩
              rw [hnb] at HST hl4 hr4
              have hc4' : c4 ≤ 9223372036854775807 := by unfold maxLen at hcm4; omega
              have hlo4 : ∀ a, A4 = some a → sb + 1 ≤ a.block := fun a ha => (ha4 a ha).1
              have hQ4 : ∀ a, A4 = some a → Q a.block := fun a ha => HQ.out _ (by have := hlo4 a ha; have := Hg.out; omega)
              have hr4' : ∀ wc, Fr (fun x => x = sb) w4' wc → Rd wc A4 (bys nb) := fun wc hF => hr4.fr hF (fun _ a ha hx => by have := hlo4 a ha; have hx' : a.block = sb := hx; omega)
              clear hO1 hO2 hg1 hg2 hv1 hv2 hr4 ha4 lo1 hE hnb hTB
              go_wp2_with fail
              obtain ⟨wc, hwc⟩ : ∃ y, (((((w4').setCell ⟨sb, 0, none⟩ (.slice A4 S c4)).setCell ⟨sb, 1, none⟩ (.bool false)).setCell ⟨sb, 2, none⟩ (.slice none 0 0))).drew = y := ⟨_, rfl⟩
              have hBc : Blk wc sb [.slice A4 S c4, .bool false, .slice none 0 0, .bool false] 86 := by rw [← hwc]; exact (((hB4.set 0 (.slice A4 S c4)).set 1 (.bool false)).set 2 (.slice none 0 0))
              have hFc : Fr (fun x => x = sb) (w4') wc := by rw [← hwc]; exact ((((Fr.refl (fun x => x = sb) (w4')).trans (Fr.set (X := fun x => x = sb) _ ⟨sb, 0, none⟩ _ rfl)).trans (Fr.set (X := fun x => x = sb) _ ⟨sb, 1, none⟩ _ rfl)).trans (Fr.set (X := fun x => x = sb) _ ⟨sb, 2, none⟩ _ rfl)).drew
              have hbc : Below wr.heap.size wr wc := hFc.below (hR4) (hR4).size (fun x hx => by have := Hsb.out; omega)
              have hSc : wc.cell? ⟨t, 1, none⟩ = some (.slice (some ⟨f, 0, none⟩) N cb) ∧ wc.cell? ⟨g, k, none⟩ = some (.int .i64 (i : Int)) ∧ wc.cell? ⟨sb, 0, none⟩ = some (.slice A4 S c4) ∧ wc.cell? ⟨sb, 1, none⟩ = some (.bool false) ∧ wc.cell? ⟨sb, 2, none⟩ = some (.slice none 0 0) ∧ wc.cell? ⟨sb, 3, none⟩ = some (.bool false) := ⟨(HSt.out _ hbc).1, (HSt.out _ hbc).2.1, hBc.cell (j := 0) rfl, hBc.cell (j := 1) rfl, hBc.cell (j := 2) rfl, hBc.cell (j := 3) rfl⟩
              obtain ⟨hP, hPF⟩ := HD.out.lay4 hbc HIN.out (A := A4) (n := S) (c := c4) (b := nb) (z := false) (by rw [HS.out]; exact hl4) (hl4) (hc4) (hc4') (hr4' _ hFc) (hQ4)
              have hrow := HD.out.below hbc
              have hj0 := hrow.row.frozen (i * 4)
              have hj1 := hrow.row.frozen (i * 4 + 1)
              have hj2 := hrow.row.frozen (i * 4 + 2)
              have hj3 := hrow.row.frozen (i * 4 + 3)
              obtain ⟨_, _, _, _, _, _, r0, r1, r2, r3, _⟩ := hrow.at_ HIN.out
              obtain ⟨wf, hwf⟩ : ∃ y, (((wc.setCell ⟨f, i * 4, none⟩ (.slice A4 S c4)).setCell ⟨f, i * 4 + 1, none⟩ (.bool false)).setCell ⟨f, i * 4 + 2, none⟩ (.slice none 0 0)).setCell ⟨f, i * 4 + 3, none⟩ (.bool false) = y := ⟨_, rfl⟩
              have hwf4 : w4 wc f i (.slice A4 S c4) (.bool false) (.slice none 0 0) (.bool false) = wf := hwf
              rw [hwf4] at hP hPF
              have hFf : Fr (fun x => x = f) wc wf := by
                rw [← hwf]
                exact (((Fr.set (X := fun x => x = f) wc ⟨f, i * 4, none⟩ _ rfl).trans (Fr.set (X := fun x => x = f) _ ⟨f, i * 4 + 1, none⟩ _ rfl)).trans (Fr.set (X := fun x => x = f) _ ⟨f, i * 4 + 2, none⟩ _ rfl)).trans (Fr.set (X := fun x => x = f) _ ⟨f, i * 4 + 3, none⟩ _ rfl)
              have hnt : t ≠ f := HD.out.ne
              have hsbf : sb ≠ f := by have := Hsb.out; omega
              have hgf : g ≠ f := by omega
              have hSf : wf.cell? ⟨t, 1, none⟩ = some (.slice (some ⟨f, 0, none⟩) N cb) ∧ wf.cell? ⟨g, k, none⟩ = some (.int .i64 (i : Int)) ∧ wf.cell? ⟨sb, 0, none⟩ = some (.slice A4 S c4) ∧ wf.cell? ⟨sb, 1, none⟩ = some (.bool false) ∧ wf.cell? ⟨sb, 2, none⟩ = some (.slice none 0 0) ∧ wf.cell? ⟨sb, 3, none⟩ = some (.bool false) := ⟨hFf.cell hSc.1 hnt, hFf.cell hSc.2.1 hgf, hFf.cell hSc.2.2.1 hsbf, hFf.cell hSc.2.2.2.1 hsbf, hFf.cell hSc.2.2.2.2.1 hsbf, hFf.cell hSc.2.2.2.2.2 hsbf⟩
              have HP := hide hP
              have HF9 := hide (HFk.out.trans hPF)
              have Hr9 := hide (Hr.out.fr hPF (fun _ a ha hx => by injection ha with ha; subst ha; rcases hx with h | h <;> have h' : g = _ := h <;> omega))
              have HG9 := hide (HG.out.fr hPF hnG)
              have HK9 := hide (HKk.out.fr hPF (fun hne x hx => HK.out hne x hx))
              have Hwf := hide hwf
              have HSc := hide hSc
              have HSf := hide hSf
              clear hP hPF hBc hFc hbc hrow hwf hwf4 hFf hSc hSf hnt hsbf hgf
              have hS0 : (((((w4').setCell ⟨sb, 0, none⟩ (.slice A4 S c4)).setCell ⟨sb, 1, none⟩ (.bool false)).setCell ⟨sb, 2, none⟩ (.slice none 0 0))).drew.cell? ⟨t, 1, none⟩ = some (.slice (some ⟨f, 0, none⟩) N cb) ∧ (((((w4').setCell ⟨sb, 0, none⟩ (.slice A4 S c4)).setCell ⟨sb, 1, none⟩ (.bool false)).setCell ⟨sb, 2, none⟩ (.slice none 0 0))).drew.cell? ⟨g, k, none⟩ = some (.int .i64 (i : Int)) ∧ (((((w4').setCell ⟨sb, 0, none⟩ (.slice A4 S c4)).setCell ⟨sb, 1, none⟩ (.bool false)).setCell ⟨sb, 2, none⟩ (.slice none 0 0))).drew.cell? ⟨sb, 0, none⟩ = some (.slice A4 S c4) ∧ (((((w4').setCell ⟨sb, 0, none⟩ (.slice A4 S c4)).setCell ⟨sb, 1, none⟩ (.bool false)).setCell ⟨sb, 2, none⟩ (.slice none 0 0))).drew.cell? ⟨sb, 1, none⟩ = some (.bool false) ∧ (((((w4').setCell ⟨sb, 0, none⟩ (.slice A4 S c4)).setCell ⟨sb, 1, none⟩ (.bool false)).setCell ⟨sb, 2, none⟩ (.slice none 0 0))).drew.cell? ⟨sb, 2, none⟩ = some (.slice none 0 0) ∧ (((((w4').setCell ⟨sb, 0, none⟩ (.slice A4 S c4)).setCell ⟨sb, 1, none⟩ (.bool false)).setCell ⟨sb, 2, none⟩ (.slice none 0 0))).drew.cell? ⟨sb, 3, none⟩ = some (.bool false) := by rw [hwc]; exact HSc.out
              refine wp_region_held_drew (S := fun Z => Z.cell? ⟨t, 1, none⟩ = some (.slice (some ⟨f, 0, none⟩) N cb) ∧ Z.cell? ⟨g, k, none⟩ = some (.int .i64 (i : Int)) ∧ Z.cell? ⟨sb, 0, none⟩ = some (.slice A4 S c4) ∧ Z.cell? ⟨sb, 1, none⟩ = some (.bool false) ∧ Z.cell? ⟨sb, 2, none⟩ = some (.slice none 0 0) ∧ Z.cell? ⟨sb, 3, none⟩ = some (.bool false)) (by kernel_rfl) hS0 (fun _ => ?_)
              clear hS0
              rw [hwc]
              refine wpAnyH_take (fuel := 10) (i := 0) (v := .pointer (some ⟨t, 0, none⟩)) rfl (by kernel_rfl) (by kernel_rfl) (by kernel_rfl) (fun _ _ _ h => h) (Or.inl ⟨by rfl, fun Z hZ => ?_⟩) HSc.out ?_
              · obtain ⟨z1, z2, z3, z4, z5, z6⟩ := hZ
                go_simp
              refine wpAnyH_take (fuel := 9) (i := 1) (v := .pointer (some ⟨t, 0, none⟩)) rfl (by kernel_rfl) (by kernel_rfl) (by kernel_rfl) (fun _ _ _ h => h) (Or.inl ⟨by rfl, fun Z hZ => ?_⟩) HSc.out ?_
              · obtain ⟨z1, z2, z3, z4, z5, z6⟩ := hZ
                go_simp
              refine wpAnyH_take (fuel := 8) (i := 2) (v := .pointer (some ⟨t, 1, none⟩)) rfl (by kernel_rfl) (by kernel_rfl) (by kernel_rfl) (fun _ _ _ h => h) (Or.inl ⟨by rfl, fun Z hZ => ?_⟩) HSc.out ?_
              · obtain ⟨z1, z2, z3, z4, z5, z6⟩ := hZ
                go_simp
              refine wpAnyH_take (fuel := 7) (i := 3) (v := .slice (some ⟨f, 0, none⟩) N cb) rfl (by kernel_rfl) (by kernel_rfl) (by kernel_rfl) (fun _ _ _ h => h) (Or.inl ⟨by rfl, fun Z hZ => ?_⟩) HSc.out ?_
              · obtain ⟨z1, z2, z3, z4, z5, z6⟩ := hZ
                go_simp
              refine wpAnyH_take (fuel := 6) (i := 4) (v := .slice (some ⟨g, 0, none⟩) m c) rfl (by kernel_rfl) (by kernel_rfl) (by kernel_rfl) (fun _ _ _ h => h) (Or.inl ⟨by rfl, fun Z hZ => ?_⟩) HSc.out ?_
              · obtain ⟨z1, z2, z3, z4, z5, z6⟩ := hZ
                go_simp
              refine wpAnyH_take (fuel := 5) (i := 5) (v := .int .i64 (k : Int)) rfl (by kernel_rfl) (by kernel_rfl) (by kernel_rfl) (fun _ _ _ h => h) (Or.inl ⟨by rfl, fun Z hZ => ?_⟩) HSc.out ?_
              · obtain ⟨z1, z2, z3, z4, z5, z6⟩ := hZ
                go_simp
              refine wpAnyH_take (fuel := 4) (i := 6) (v := .pointer (some ⟨g, k, none⟩)) rfl (by kernel_rfl) (by kernel_rfl) (by kernel_rfl) (fun _ _ _ h => h) (Or.inl ⟨by rfl, fun Z hZ => ?_⟩) HSc.out ?_
              · obtain ⟨z1, z2, z3, z4, z5, z6⟩ := hZ
                go_simp
              refine wpAnyH_take (fuel := 3) (i := 7) (v := .int .i64 (i : Int)) rfl (by kernel_rfl) (by kernel_rfl) (by kernel_rfl) (fun _ _ _ h => h) (Or.inl ⟨by rfl, fun Z hZ => ?_⟩) HSc.out ?_
              · obtain ⟨z1, z2, z3, z4, z5, z6⟩ := hZ
                go_simp
              refine wpAnyH_take (fuel := 2) (i := 8) (v := .agg #[.slice A4 S c4, .bool false, .slice none 0 0, .bool false]) rfl (by kernel_rfl) (by kernel_rfl) (by kernel_rfl) (fun _ _ _ h => h) (Or.inl ⟨by rfl, fun Z hZ => ?_⟩) HSc.out ?_
              · obtain ⟨z1, z2, z3, z4, z5, z6⟩ := hZ
                go_simp
              refine wpAnyH_take (fuel := 1) (i := 9) (v := .pointer (some ⟨f, i * 4, none⟩)) rfl (by kernel_rfl) (by kernel_rfl) (by kernel_rfl) (fun _ _ _ h => h) (Or.inl ⟨by rfl, fun Z hZ => ?_⟩) HSc.out ?_
              · obtain ⟨z1, z2, z3, z4, z5, z6⟩ := hZ
                go_simp
              refine all_one (fuel := 0) (i := 10) (by kernel_rfl) rfl rfl (fun Kk hK => ?_)
              go_simp
              try rw [Hwf.out]
              refine hK _ _ ⟨HSf.out, ?_⟩
              clear hK Kk
              refine wpAnyH_done (by kernel_rfl) ?_ _
              go_wp2
              go_roundw
              case rel => exact ⟨k + 1, by go_num, by omega, by rw [HST.out]; exact HP.out, HF9.out, Hr9.out, HG9.out, HK9.out⟩
              case measure => simp [RowKit.intOf]; omega
          · have xx := d0
            go_simp
            refine hK _ _ ⟨d2, ?_⟩
            clear hK Kk xx
            refine wpAnyH_take (fuel := 5) (i := 9) (v := .slice (cutA A1 c1 C 1) (n1 - C) (c1 - C)) rfl (by kernel_rfl) (by kernel_rfl) (by kernel_rfl) (fun _ _ _ h => h) (Or.inl ⟨by rfl, fun Z hZ => ?_⟩) d2 ?_
            · go_simp
            refine all_one (fuel := 4) (i := 0) (by kernel_rfl) rfl rfl (fun Kk hK => ?_)
            go_simp
            try rw [hzd]
            try rw [Hwz.out]
            refine hK _ _ ⟨z2, ?_⟩
            clear hK Kk
            refine all_one (fuel := 3) (i := 5) (by kernel_rfl) rfl rfl (fun Kk hK => ?_)
            refine oper_own rfl tBytes (base := sb + 1) (e := 5) (by rfl) hE (A := B1) (m := C) (c := e1) (by rfl) (by rw [bys_length, List.length_take]; omega) (Hnew.out _ hbdz) (bys_one _) (by omega) (by omega) (by omega) ?_
            intro v1 w3 hO1 hg1 hv1
            rw [Nat.zero_add, List.nil_append] at hO1
            have hb3 : Below (sb + 1) wd w3 := hbdz.grown hg1 (by omega) (fun k hk => by simp [Value.ownBlock] at hk; omega)
            have hz3 := hg1.size
            have t0 := (HBW.out _ hb3).cell (j := 0) rfl
            have t2 := (HBW.out _ hb3).cell (j := 2) rfl
            obtain ⟨A3, c3, rfl, _⟩ := own_out hO1
            refine hK _ _ ⟨t2, ?_⟩
            clear hK Kk
            refine all_one (fuel := 2) (i := 10) (by kernel_rfl) rfl rfl (fun Kk hK => ?_)
            refine oper_own rfl tBytes (base := sb + 1) (e := 5) (by rfl) hO1 (A := cutA A1 c1 C 1) (m := n1 - C) (c := c1 - C) (by rfl) (by rw [bys_length, List.length_drop]; omega) (Hold.out _ hb3) (bys_one _) (by omega) (by omega) (by omega) ?_
            intro v2 w4' hO2 hg2 hv2
            rw [show C + (n1 - C) = S by omega, ← bys_append] at hO2
            have lo1 := own_out hO1
            have hb4 : Below (sb + 1) wd w4' := hb3.grown hg2 (by omega) (fun k hk => by
              obtain ⟨A0, c0, h0, _, _, _, _, hlo⟩ := lo1
              injection h0 with h0 _ _
              cases A3 with
              | none => simp [Value.ownBlock] at hk
              | some a3 => simp [Value.ownBlock] at hk; have := (hlo a3 h0.symm).1; omega)
            obtain ⟨A4, c4, rfl, _, hc4, hcm4, hr4, ha4⟩ := own_out hO2
            have hB4 := HBW.out _ hb4
            have hR4 := HRW.out _ hb4
            have hz4 := hg2.size
            have s0 := hB4.cell (j := 0) rfl
            have s1 := hB4.cell (j := 1) rfl
            have s2 := hB4.cell (j := 2) rfl
            have s3 := hB4.cell (j := 3) rfl
            have js0 := hB4.frozen 0
            have js1 := hB4.frozen 1
            have js2 := hB4.frozen 2
            refine hK _ _ ⟨s2, ?_⟩
            clear hK Kk
            refine all_one (fuel := 1) (i := 11) (by kernel_rfl) rfl rfl (fun Kk hK => ?_)
            go_simp
            refine hK _ _ ⟨s2, ?_⟩
            clear hK Kk
            refine all_one (fuel := 0) (i := 12) (by kernel_rfl) rfl rfl (fun Kk hK => ?_)
            go_simp
            refine hK _ _ ⟨(hB4.set 0 _).cell (j := 2) rfl, ?_⟩
            clear hK Kk
            refine wpAnyH_done (by kernel_rfl) ?_ _
            rw [HS.out, hTB] at HST
            have hl4 : (bs.take C ++ fi.drop C).length = S := by rw [List.length_append, List.length_take, List.length_drop]; omega
            obtain ⟨nb, hnb⟩ : ∃ nb, bs.take C ++ fi.drop C = nb := ⟨_, rfl⟩
            rw [hnb] at HST hl4 hr4
            have hc4' : c4 ≤ 9223372036854775807 := by unfold maxLen at hcm4; omega
            have hlo4 : ∀ a, A4 = some a → sb + 1 ≤ a.block := fun a ha => (ha4 a ha).1
            have hQ4 : ∀ a, A4 = some a → Q a.block := fun a ha => HQ.out _ (by have := hlo4 a ha; have := Hg.out; omega)
            have hr4' : ∀ wc, Fr (fun x => x = sb) w4' wc → Rd wc A4 (bys nb) := fun wc hF => hr4.fr hF (fun _ a ha hx => by have := hlo4 a ha; have hx' : a.block = sb := hx; omega)
            clear hO1 hO2 hg1 hg2 hv1 hv2 hr4 ha4 lo1 hE hnb hTB
            go_wp2_with fail
            obtain ⟨wc, hwc⟩ : ∃ y, (((((w4').setCell ⟨sb, 0, none⟩ (.slice A4 S c4)).setCell ⟨sb, 1, none⟩ (.bool false)).setCell ⟨sb, 2, none⟩ (.slice none 0 0))).drew = y := ⟨_, rfl⟩
            have hBc : Blk wc sb [.slice A4 S c4, .bool false, .slice none 0 0, .bool false] 86 := by rw [← hwc]; exact (((hB4.set 0 (.slice A4 S c4)).set 1 (.bool false)).set 2 (.slice none 0 0))
            have hFc : Fr (fun x => x = sb) (w4') wc := by rw [← hwc]; exact ((((Fr.refl (fun x => x = sb) (w4')).trans (Fr.set (X := fun x => x = sb) _ ⟨sb, 0, none⟩ _ rfl)).trans (Fr.set (X := fun x => x = sb) _ ⟨sb, 1, none⟩ _ rfl)).trans (Fr.set (X := fun x => x = sb) _ ⟨sb, 2, none⟩ _ rfl)).drew
            have hbc : Below wr.heap.size wr wc := hFc.below (hR4) (hR4).size (fun x hx => by have := Hsb.out; omega)
            have hSc : wc.cell? ⟨t, 1, none⟩ = some (.slice (some ⟨f, 0, none⟩) N cb) ∧ wc.cell? ⟨g, k, none⟩ = some (.int .i64 (i : Int)) ∧ wc.cell? ⟨sb, 0, none⟩ = some (.slice A4 S c4) ∧ wc.cell? ⟨sb, 1, none⟩ = some (.bool false) ∧ wc.cell? ⟨sb, 2, none⟩ = some (.slice none 0 0) ∧ wc.cell? ⟨sb, 3, none⟩ = some (.bool false) := ⟨(HSt.out _ hbc).1, (HSt.out _ hbc).2.1, hBc.cell (j := 0) rfl, hBc.cell (j := 1) rfl, hBc.cell (j := 2) rfl, hBc.cell (j := 3) rfl⟩
            obtain ⟨hP, hPF⟩ := HD.out.lay4 hbc HIN.out (A := A4) (n := S) (c := c4) (b := nb) (z := false) (by rw [HS.out]; exact hl4) (hl4) (hc4) (hc4') (hr4' _ hFc) (hQ4)
            have hrow := HD.out.below hbc
            have hj0 := hrow.row.frozen (i * 4)
            have hj1 := hrow.row.frozen (i * 4 + 1)
            have hj2 := hrow.row.frozen (i * 4 + 2)
            have hj3 := hrow.row.frozen (i * 4 + 3)
            obtain ⟨_, _, _, _, _, _, r0, r1, r2, r3, _⟩ := hrow.at_ HIN.out
            obtain ⟨wf, hwf⟩ : ∃ y, (((wc.setCell ⟨f, i * 4, none⟩ (.slice A4 S c4)).setCell ⟨f, i * 4 + 1, none⟩ (.bool false)).setCell ⟨f, i * 4 + 2, none⟩ (.slice none 0 0)).setCell ⟨f, i * 4 + 3, none⟩ (.bool false) = y := ⟨_, rfl⟩
            have hwf4 : w4 wc f i (.slice A4 S c4) (.bool false) (.slice none 0 0) (.bool false) = wf := hwf
            rw [hwf4] at hP hPF
            have hFf : Fr (fun x => x = f) wc wf := by
              rw [← hwf]
              exact (((Fr.set (X := fun x => x = f) wc ⟨f, i * 4, none⟩ _ rfl).trans (Fr.set (X := fun x => x = f) _ ⟨f, i * 4 + 1, none⟩ _ rfl)).trans (Fr.set (X := fun x => x = f) _ ⟨f, i * 4 + 2, none⟩ _ rfl)).trans (Fr.set (X := fun x => x = f) _ ⟨f, i * 4 + 3, none⟩ _ rfl)
            have hnt : t ≠ f := HD.out.ne
            have hsbf : sb ≠ f := by have := Hsb.out; omega
            have hgf : g ≠ f := by omega
            have hSf : wf.cell? ⟨t, 1, none⟩ = some (.slice (some ⟨f, 0, none⟩) N cb) ∧ wf.cell? ⟨g, k, none⟩ = some (.int .i64 (i : Int)) ∧ wf.cell? ⟨sb, 0, none⟩ = some (.slice A4 S c4) ∧ wf.cell? ⟨sb, 1, none⟩ = some (.bool false) ∧ wf.cell? ⟨sb, 2, none⟩ = some (.slice none 0 0) ∧ wf.cell? ⟨sb, 3, none⟩ = some (.bool false) := ⟨hFf.cell hSc.1 hnt, hFf.cell hSc.2.1 hgf, hFf.cell hSc.2.2.1 hsbf, hFf.cell hSc.2.2.2.1 hsbf, hFf.cell hSc.2.2.2.2.1 hsbf, hFf.cell hSc.2.2.2.2.2 hsbf⟩
            have HP := hide hP
            have HF9 := hide (HFk.out.trans hPF)
            have Hr9 := hide (Hr.out.fr hPF (fun _ a ha hx => by injection ha with ha; subst ha; rcases hx with h | h <;> have h' : g = _ := h <;> omega))
            have HG9 := hide (HG.out.fr hPF hnG)
            have HK9 := hide (HKk.out.fr hPF (fun hne x hx => HK.out hne x hx))
            have Hwf := hide hwf
            have HSc := hide hSc
            have HSf := hide hSf
            clear hP hPF hBc hFc hbc hrow hwf hwf4 hFf hSc hSf hnt hsbf hgf
            have hS0 : (((((w4').setCell ⟨sb, 0, none⟩ (.slice A4 S c4)).setCell ⟨sb, 1, none⟩ (.bool false)).setCell ⟨sb, 2, none⟩ (.slice none 0 0))).drew.cell? ⟨t, 1, none⟩ = some (.slice (some ⟨f, 0, none⟩) N cb) ∧ (((((w4').setCell ⟨sb, 0, none⟩ (.slice A4 S c4)).setCell ⟨sb, 1, none⟩ (.bool false)).setCell ⟨sb, 2, none⟩ (.slice none 0 0))).drew.cell? ⟨g, k, none⟩ = some (.int .i64 (i : Int)) ∧ (((((w4').setCell ⟨sb, 0, none⟩ (.slice A4 S c4)).setCell ⟨sb, 1, none⟩ (.bool false)).setCell ⟨sb, 2, none⟩ (.slice none 0 0))).drew.cell? ⟨sb, 0, none⟩ = some (.slice A4 S c4) ∧ (((((w4').setCell ⟨sb, 0, none⟩ (.slice A4 S c4)).setCell ⟨sb, 1, none⟩ (.bool false)).setCell ⟨sb, 2, none⟩ (.slice none 0 0))).drew.cell? ⟨sb, 1, none⟩ = some (.bool false) ∧ (((((w4').setCell ⟨sb, 0, none⟩ (.slice A4 S c4)).setCell ⟨sb, 1, none⟩ (.bool false)).setCell ⟨sb, 2, none⟩ (.slice none 0 0))).drew.cell? ⟨sb, 2, none⟩ = some (.slice none 0 0) ∧ (((((w4').setCell ⟨sb, 0, none⟩ (.slice A4 S c4)).setCell ⟨sb, 1, none⟩ (.bool false)).setCell ⟨sb, 2, none⟩ (.slice none 0 0))).drew.cell? ⟨sb, 3, none⟩ = some (.bool false) := by rw [hwc]; exact HSc.out
            refine wp_region_held_drew (S := fun Z => Z.cell? ⟨t, 1, none⟩ = some (.slice (some ⟨f, 0, none⟩) N cb) ∧ Z.cell? ⟨g, k, none⟩ = some (.int .i64 (i : Int)) ∧ Z.cell? ⟨sb, 0, none⟩ = some (.slice A4 S c4) ∧ Z.cell? ⟨sb, 1, none⟩ = some (.bool false) ∧ Z.cell? ⟨sb, 2, none⟩ = some (.slice none 0 0) ∧ Z.cell? ⟨sb, 3, none⟩ = some (.bool false)) (by kernel_rfl) hS0 (fun _ => ?_)
            clear hS0
            rw [hwc]
            refine wpAnyH_take (fuel := 10) (i := 0) (v := .pointer (some ⟨t, 0, none⟩)) rfl (by kernel_rfl) (by kernel_rfl) (by kernel_rfl) (fun _ _ _ h => h) (Or.inl ⟨by rfl, fun Z hZ => ?_⟩) HSc.out ?_
            · obtain ⟨z1, z2, z3, z4, z5, z6⟩ := hZ
              go_simp
            refine wpAnyH_take (fuel := 9) (i := 1) (v := .pointer (some ⟨t, 0, none⟩)) rfl (by kernel_rfl) (by kernel_rfl) (by kernel_rfl) (fun _ _ _ h => h) (Or.inl ⟨by rfl, fun Z hZ => ?_⟩) HSc.out ?_
            · obtain ⟨z1, z2, z3, z4, z5, z6⟩ := hZ
              go_simp
            refine wpAnyH_take (fuel := 8) (i := 2) (v := .pointer (some ⟨t, 1, none⟩)) rfl (by kernel_rfl) (by kernel_rfl) (by kernel_rfl) (fun _ _ _ h => h) (Or.inl ⟨by rfl, fun Z hZ => ?_⟩) HSc.out ?_
            · obtain ⟨z1, z2, z3, z4, z5, z6⟩ := hZ
              go_simp
            refine wpAnyH_take (fuel := 7) (i := 3) (v := .slice (some ⟨f, 0, none⟩) N cb) rfl (by kernel_rfl) (by kernel_rfl) (by kernel_rfl) (fun _ _ _ h => h) (Or.inl ⟨by rfl, fun Z hZ => ?_⟩) HSc.out ?_
            · obtain ⟨z1, z2, z3, z4, z5, z6⟩ := hZ
              go_simp
            refine wpAnyH_take (fuel := 6) (i := 4) (v := .slice (some ⟨g, 0, none⟩) m c) rfl (by kernel_rfl) (by kernel_rfl) (by kernel_rfl) (fun _ _ _ h => h) (Or.inl ⟨by rfl, fun Z hZ => ?_⟩) HSc.out ?_
            · obtain ⟨z1, z2, z3, z4, z5, z6⟩ := hZ
              go_simp
            refine wpAnyH_take (fuel := 5) (i := 5) (v := .int .i64 (k : Int)) rfl (by kernel_rfl) (by kernel_rfl) (by kernel_rfl) (fun _ _ _ h => h) (Or.inl ⟨by rfl, fun Z hZ => ?_⟩) HSc.out ?_
            · obtain ⟨z1, z2, z3, z4, z5, z6⟩ := hZ
              go_simp
            refine wpAnyH_take (fuel := 4) (i := 6) (v := .pointer (some ⟨g, k, none⟩)) rfl (by kernel_rfl) (by kernel_rfl) (by kernel_rfl) (fun _ _ _ h => h) (Or.inl ⟨by rfl, fun Z hZ => ?_⟩) HSc.out ?_
            · obtain ⟨z1, z2, z3, z4, z5, z6⟩ := hZ
              go_simp
            refine wpAnyH_take (fuel := 3) (i := 7) (v := .int .i64 (i : Int)) rfl (by kernel_rfl) (by kernel_rfl) (by kernel_rfl) (fun _ _ _ h => h) (Or.inl ⟨by rfl, fun Z hZ => ?_⟩) HSc.out ?_
            · obtain ⟨z1, z2, z3, z4, z5, z6⟩ := hZ
              go_simp
            refine wpAnyH_take (fuel := 2) (i := 8) (v := .agg #[.slice A4 S c4, .bool false, .slice none 0 0, .bool false]) rfl (by kernel_rfl) (by kernel_rfl) (by kernel_rfl) (fun _ _ _ h => h) (Or.inl ⟨by rfl, fun Z hZ => ?_⟩) HSc.out ?_
            · obtain ⟨z1, z2, z3, z4, z5, z6⟩ := hZ
              go_simp
            refine wpAnyH_take (fuel := 1) (i := 9) (v := .pointer (some ⟨f, i * 4, none⟩)) rfl (by kernel_rfl) (by kernel_rfl) (by kernel_rfl) (fun _ _ _ h => h) (Or.inl ⟨by rfl, fun Z hZ => ?_⟩) HSc.out ?_
            · obtain ⟨z1, z2, z3, z4, z5, z6⟩ := hZ
              go_simp
            refine all_one (fuel := 0) (i := 10) (by kernel_rfl) rfl rfl (fun Kk hK => ?_)
            go_simp
            try rw [Hwf.out]
            refine hK _ _ ⟨HSf.out, ?_⟩
            clear hK Kk
            refine wpAnyH_done (by kernel_rfl) ?_ _
            go_wp2
            go_roundw
            case rel => exact ⟨k + 1, by go_num, by omega, by rw [HST.out]; exact HP.out, HF9.out, Hr9.out, HG9.out, HK9.out⟩
            case measure => simp [RowKit.intOf]; omega
      · have u1 : ((k : Int) == torn) = false := by simp [hkt]
        rw [if_neg hkt, if_neg hkt] at HST
        clear hkt
        by_cases hkk : k < kn
        · have hkl2 : k < keep.length := by rw [hkn]; exact hkk
          obtain ⟨ak, rfl, hck⟩ := (HKk.out.below Hb5.out) k _ (bls_get hkl2)
          have hgd : keep.getD k false = keep[k] := by simp [List.getD_eq_getElem?_getD, List.getElem?_eq_getElem hkl2]
          rw [hgd] at HST
          obtain ⟨kb, hkb⟩ : ∃ kb, keep[k] = kb := ⟨_, rfl⟩
          rw [hkb] at hck HST
          clear hgd hkb hkl2
          cases kb with
          | true =>
            rw [if_pos rfl, if_pos rfl] at HST
            go_wp2_with fail
            obtain ⟨wc, hwc⟩ : ∃ y, ((((((w5).setCell ⟨sb, 0, none⟩ (.slice B1 m1 e1)).setCell ⟨sb, 3, none⟩ (.bool false)).setCell ⟨sb, 1, none⟩ (.bool false)).setCell ⟨sb, 2, none⟩ (.slice none 0 0))).drew = y := ⟨_, rfl⟩
            have hBc : Blk wc sb [.slice B1 m1 e1, .bool false, .slice none 0 0, .bool false] 86 := by rw [← hwc]; exact ((((hB5.set 0 (.slice B1 m1 e1)).set 3 (.bool false)).set 1 (.bool false)).set 2 (.slice none 0 0))
            have hFc : Fr (fun x => x = sb) (w5) wc := by rw [← hwc]; exact (((((Fr.refl (fun x => x = sb) (w5)).trans (Fr.set (X := fun x => x = sb) _ ⟨sb, 0, none⟩ _ rfl)).trans (Fr.set (X := fun x => x = sb) _ ⟨sb, 3, none⟩ _ rfl)).trans (Fr.set (X := fun x => x = sb) _ ⟨sb, 1, none⟩ _ rfl)).trans (Fr.set (X := fun x => x = sb) _ ⟨sb, 2, none⟩ _ rfl)).drew
            have hbc : Below wr.heap.size wr wc := hFc.below (Hb5.out) (Hb5.out).size (fun x hx => by have := Hsb.out; omega)
            have hSc : wc.cell? ⟨t, 1, none⟩ = some (.slice (some ⟨f, 0, none⟩) N cb) ∧ wc.cell? ⟨g, k, none⟩ = some (.int .i64 (i : Int)) ∧ wc.cell? ⟨sb, 0, none⟩ = some (.slice B1 m1 e1) ∧ wc.cell? ⟨sb, 1, none⟩ = some (.bool false) ∧ wc.cell? ⟨sb, 2, none⟩ = some (.slice none 0 0) ∧ wc.cell? ⟨sb, 3, none⟩ = some (.bool false) := ⟨(HSt.out _ hbc).1, (HSt.out _ hbc).2.1, hBc.cell (j := 0) rfl, hBc.cell (j := 1) rfl, hBc.cell (j := 2) rfl, hBc.cell (j := 3) rfl⟩
            obtain ⟨hP, hPF⟩ := HD.out.lay4 hbc HIN.out (A := B1) (n := m1) (c := e1) (b := bs) (z := false) (by rw [HS.out]; exact hbl) (HBn.out.1) (HBn.out.2.2.2.1) (HBn.out.2.2.2.2) (HBn.out.2.1.below hbc) (HBn.out.2.2.1)
            have hrow := HD.out.below hbc
            have hj0 := hrow.row.frozen (i * 4)
            have hj1 := hrow.row.frozen (i * 4 + 1)
            have hj2 := hrow.row.frozen (i * 4 + 2)
            have hj3 := hrow.row.frozen (i * 4 + 3)
            obtain ⟨_, _, _, _, _, _, r0, r1, r2, r3, _⟩ := hrow.at_ HIN.out
            obtain ⟨wf, hwf⟩ : ∃ y, (((wc.setCell ⟨f, i * 4, none⟩ (.slice B1 m1 e1)).setCell ⟨f, i * 4 + 1, none⟩ (.bool false)).setCell ⟨f, i * 4 + 2, none⟩ (.slice none 0 0)).setCell ⟨f, i * 4 + 3, none⟩ (.bool false) = y := ⟨_, rfl⟩
            have hwf4 : w4 wc f i (.slice B1 m1 e1) (.bool false) (.slice none 0 0) (.bool false) = wf := hwf
            rw [hwf4] at hP hPF
            have hFf : Fr (fun x => x = f) wc wf := by
              rw [← hwf]
              exact (((Fr.set (X := fun x => x = f) wc ⟨f, i * 4, none⟩ _ rfl).trans (Fr.set (X := fun x => x = f) _ ⟨f, i * 4 + 1, none⟩ _ rfl)).trans (Fr.set (X := fun x => x = f) _ ⟨f, i * 4 + 2, none⟩ _ rfl)).trans (Fr.set (X := fun x => x = f) _ ⟨f, i * 4 + 3, none⟩ _ rfl)
            have hnt : t ≠ f := HD.out.ne
            have hsbf : sb ≠ f := by have := Hsb.out; omega
            have hgf : g ≠ f := by omega
            have hSf : wf.cell? ⟨t, 1, none⟩ = some (.slice (some ⟨f, 0, none⟩) N cb) ∧ wf.cell? ⟨g, k, none⟩ = some (.int .i64 (i : Int)) ∧ wf.cell? ⟨sb, 0, none⟩ = some (.slice B1 m1 e1) ∧ wf.cell? ⟨sb, 1, none⟩ = some (.bool false) ∧ wf.cell? ⟨sb, 2, none⟩ = some (.slice none 0 0) ∧ wf.cell? ⟨sb, 3, none⟩ = some (.bool false) := ⟨hFf.cell hSc.1 hnt, hFf.cell hSc.2.1 hgf, hFf.cell hSc.2.2.1 hsbf, hFf.cell hSc.2.2.2.1 hsbf, hFf.cell hSc.2.2.2.2.1 hsbf, hFf.cell hSc.2.2.2.2.2 hsbf⟩
            have HP := hide hP
            have HF9 := hide (HFk.out.trans hPF)
            have Hr9 := hide (Hr.out.fr hPF (fun _ a ha hx => by injection ha with ha; subst ha; rcases hx with h | h <;> have h' : g = _ := h <;> omega))
            have HG9 := hide (HG.out.fr hPF hnG)
            have HK9 := hide (HKk.out.fr hPF (fun hne x hx => HK.out hne x hx))
            have Hwf := hide hwf
            have HSc := hide hSc
            have HSf := hide hSf
            clear hP hPF hBc hFc hbc hrow hwf hwf4 hFf hSc hSf hnt hsbf hgf
            have hS0 : ((((((w5).setCell ⟨sb, 0, none⟩ (.slice B1 m1 e1)).setCell ⟨sb, 3, none⟩ (.bool false)).setCell ⟨sb, 1, none⟩ (.bool false)).setCell ⟨sb, 2, none⟩ (.slice none 0 0))).drew.cell? ⟨t, 1, none⟩ = some (.slice (some ⟨f, 0, none⟩) N cb) ∧ ((((((w5).setCell ⟨sb, 0, none⟩ (.slice B1 m1 e1)).setCell ⟨sb, 3, none⟩ (.bool false)).setCell ⟨sb, 1, none⟩ (.bool false)).setCell ⟨sb, 2, none⟩ (.slice none 0 0))).drew.cell? ⟨g, k, none⟩ = some (.int .i64 (i : Int)) ∧ ((((((w5).setCell ⟨sb, 0, none⟩ (.slice B1 m1 e1)).setCell ⟨sb, 3, none⟩ (.bool false)).setCell ⟨sb, 1, none⟩ (.bool false)).setCell ⟨sb, 2, none⟩ (.slice none 0 0))).drew.cell? ⟨sb, 0, none⟩ = some (.slice B1 m1 e1) ∧ ((((((w5).setCell ⟨sb, 0, none⟩ (.slice B1 m1 e1)).setCell ⟨sb, 3, none⟩ (.bool false)).setCell ⟨sb, 1, none⟩ (.bool false)).setCell ⟨sb, 2, none⟩ (.slice none 0 0))).drew.cell? ⟨sb, 1, none⟩ = some (.bool false) ∧ ((((((w5).setCell ⟨sb, 0, none⟩ (.slice B1 m1 e1)).setCell ⟨sb, 3, none⟩ (.bool false)).setCell ⟨sb, 1, none⟩ (.bool false)).setCell ⟨sb, 2, none⟩ (.slice none 0 0))).drew.cell? ⟨sb, 2, none⟩ = some (.slice none 0 0) ∧ ((((((w5).setCell ⟨sb, 0, none⟩ (.slice B1 m1 e1)).setCell ⟨sb, 3, none⟩ (.bool false)).setCell ⟨sb, 1, none⟩ (.bool false)).setCell ⟨sb, 2, none⟩ (.slice none 0 0))).drew.cell? ⟨sb, 3, none⟩ = some (.bool false) := by rw [hwc]; exact HSc.out
            refine wp_region_held_drew (S := fun Z => Z.cell? ⟨t, 1, none⟩ = some (.slice (some ⟨f, 0, none⟩) N cb) ∧ Z.cell? ⟨g, k, none⟩ = some (.int .i64 (i : Int)) ∧ Z.cell? ⟨sb, 0, none⟩ = some (.slice B1 m1 e1) ∧ Z.cell? ⟨sb, 1, none⟩ = some (.bool false) ∧ Z.cell? ⟨sb, 2, none⟩ = some (.slice none 0 0) ∧ Z.cell? ⟨sb, 3, none⟩ = some (.bool false)) (by kernel_rfl) hS0 (fun _ => ?_)
            clear hS0
            rw [hwc]
            refine wpAnyH_take (fuel := 10) (i := 0) (v := .pointer (some ⟨t, 0, none⟩)) rfl (by kernel_rfl) (by kernel_rfl) (by kernel_rfl) (fun _ _ _ h => h) (Or.inl ⟨by rfl, fun Z hZ => ?_⟩) HSc.out ?_
            · obtain ⟨z1, z2, z3, z4, z5, z6⟩ := hZ
              go_simp
            refine wpAnyH_take (fuel := 9) (i := 1) (v := .pointer (some ⟨t, 0, none⟩)) rfl (by kernel_rfl) (by kernel_rfl) (by kernel_rfl) (fun _ _ _ h => h) (Or.inl ⟨by rfl, fun Z hZ => ?_⟩) HSc.out ?_
            · obtain ⟨z1, z2, z3, z4, z5, z6⟩ := hZ
              go_simp
            refine wpAnyH_take (fuel := 8) (i := 2) (v := .pointer (some ⟨t, 1, none⟩)) rfl (by kernel_rfl) (by kernel_rfl) (by kernel_rfl) (fun _ _ _ h => h) (Or.inl ⟨by rfl, fun Z hZ => ?_⟩) HSc.out ?_
            · obtain ⟨z1, z2, z3, z4, z5, z6⟩ := hZ
              go_simp
            refine wpAnyH_take (fuel := 7) (i := 3) (v := .slice (some ⟨f, 0, none⟩) N cb) rfl (by kernel_rfl) (by kernel_rfl) (by kernel_rfl) (fun _ _ _ h => h) (Or.inl ⟨by rfl, fun Z hZ => ?_⟩) HSc.out ?_
            · obtain ⟨z1, z2, z3, z4, z5, z6⟩ := hZ
              go_simp
            refine wpAnyH_take (fuel := 6) (i := 4) (v := .slice (some ⟨g, 0, none⟩) m c) rfl (by kernel_rfl) (by kernel_rfl) (by kernel_rfl) (fun _ _ _ h => h) (Or.inl ⟨by rfl, fun Z hZ => ?_⟩) HSc.out ?_
            · obtain ⟨z1, z2, z3, z4, z5, z6⟩ := hZ
              go_simp
            refine wpAnyH_take (fuel := 5) (i := 5) (v := .int .i64 (k : Int)) rfl (by kernel_rfl) (by kernel_rfl) (by kernel_rfl) (fun _ _ _ h => h) (Or.inl ⟨by rfl, fun Z hZ => ?_⟩) HSc.out ?_
            · obtain ⟨z1, z2, z3, z4, z5, z6⟩ := hZ
              go_simp
            refine wpAnyH_take (fuel := 4) (i := 6) (v := .pointer (some ⟨g, k, none⟩)) rfl (by kernel_rfl) (by kernel_rfl) (by kernel_rfl) (fun _ _ _ h => h) (Or.inl ⟨by rfl, fun Z hZ => ?_⟩) HSc.out ?_
            · obtain ⟨z1, z2, z3, z4, z5, z6⟩ := hZ
              go_simp
            refine wpAnyH_take (fuel := 3) (i := 7) (v := .int .i64 (i : Int)) rfl (by kernel_rfl) (by kernel_rfl) (by kernel_rfl) (fun _ _ _ h => h) (Or.inl ⟨by rfl, fun Z hZ => ?_⟩) HSc.out ?_
            · obtain ⟨z1, z2, z3, z4, z5, z6⟩ := hZ
              go_simp
            refine wpAnyH_take (fuel := 2) (i := 8) (v := .agg #[.slice B1 m1 e1, .bool false, .slice none 0 0, .bool false]) rfl (by kernel_rfl) (by kernel_rfl) (by kernel_rfl) (fun _ _ _ h => h) (Or.inl ⟨by rfl, fun Z hZ => ?_⟩) HSc.out ?_
            · obtain ⟨z1, z2, z3, z4, z5, z6⟩ := hZ
              go_simp
            refine wpAnyH_take (fuel := 1) (i := 9) (v := .pointer (some ⟨f, i * 4, none⟩)) rfl (by kernel_rfl) (by kernel_rfl) (by kernel_rfl) (fun _ _ _ h => h) (Or.inl ⟨by rfl, fun Z hZ => ?_⟩) HSc.out ?_
            · obtain ⟨z1, z2, z3, z4, z5, z6⟩ := hZ
              go_simp
            refine all_one (fuel := 0) (i := 10) (by kernel_rfl) rfl rfl (fun Kk hK => ?_)
            go_simp
            try rw [Hwf.out]
            refine hK _ _ ⟨HSf.out, ?_⟩
            clear hK Kk
            refine wpAnyH_done (by kernel_rfl) ?_ _
            go_wp2
            go_roundw
            case rel => exact ⟨k + 1, by go_num, by omega, by rw [HST.out]; exact HP.out, HF9.out, Hr9.out, HG9.out, HK9.out⟩
            case measure => simp [RowKit.intOf]; omega
          | false =>
            rw [if_neg (by decide), if_neg (by decide)] at HST
            go_wp2_with fail
            obtain ⟨wc, hwc⟩ : ∃ y, ((((w5).setCell ⟨sb, 1, none⟩ (.bool false)).setCell ⟨sb, 2, none⟩ (.slice none 0 0))).drew = y := ⟨_, rfl⟩
            have hBc : Blk wc sb [.slice A1 n1 c1, .bool false, .slice none 0 0, .bool bd] 86 := by rw [← hwc]; exact ((hB5.set 1 (.bool false)).set 2 (.slice none 0 0))
            have hFc : Fr (fun x => x = sb) (w5) wc := by rw [← hwc]; exact (((Fr.refl (fun x => x = sb) (w5)).trans (Fr.set (X := fun x => x = sb) _ ⟨sb, 1, none⟩ _ rfl)).trans (Fr.set (X := fun x => x = sb) _ ⟨sb, 2, none⟩ _ rfl)).drew
            have hbc : Below wr.heap.size wr wc := hFc.below (Hb5.out) (Hb5.out).size (fun x hx => by have := Hsb.out; omega)
            have hSc : wc.cell? ⟨t, 1, none⟩ = some (.slice (some ⟨f, 0, none⟩) N cb) ∧ wc.cell? ⟨g, k, none⟩ = some (.int .i64 (i : Int)) ∧ wc.cell? ⟨sb, 0, none⟩ = some (.slice A1 n1 c1) ∧ wc.cell? ⟨sb, 1, none⟩ = some (.bool false) ∧ wc.cell? ⟨sb, 2, none⟩ = some (.slice none 0 0) ∧ wc.cell? ⟨sb, 3, none⟩ = some (.bool bd) := ⟨(HSt.out _ hbc).1, (HSt.out _ hbc).2.1, hBc.cell (j := 0) rfl, hBc.cell (j := 1) rfl, hBc.cell (j := 2) rfl, hBc.cell (j := 3) rfl⟩
            obtain ⟨hP, hPF⟩ := HD.out.lay4 hbc HIN.out (A := A1) (n := n1) (c := c1) (b := fi) (z := bd) (by rw [HS.out]; exact hfl) (Hbn.out.1) (Hbn.out.2.1) (Hbn.out.2.2.1) (Hbn.out.2.2.2.1.below hbc) (Hbn.out.2.2.2.2)
            have hrow := HD.out.below hbc
            have hj0 := hrow.row.frozen (i * 4)
            have hj1 := hrow.row.frozen (i * 4 + 1)
            have hj2 := hrow.row.frozen (i * 4 + 2)
            have hj3 := hrow.row.frozen (i * 4 + 3)
            obtain ⟨_, _, _, _, _, _, r0, r1, r2, r3, _⟩ := hrow.at_ HIN.out
            obtain ⟨wf, hwf⟩ : ∃ y, (((wc.setCell ⟨f, i * 4, none⟩ (.slice A1 n1 c1)).setCell ⟨f, i * 4 + 1, none⟩ (.bool false)).setCell ⟨f, i * 4 + 2, none⟩ (.slice none 0 0)).setCell ⟨f, i * 4 + 3, none⟩ (.bool bd) = y := ⟨_, rfl⟩
            have hwf4 : w4 wc f i (.slice A1 n1 c1) (.bool false) (.slice none 0 0) (.bool bd) = wf := hwf
            rw [hwf4] at hP hPF
            have hFf : Fr (fun x => x = f) wc wf := by
              rw [← hwf]
              exact (((Fr.set (X := fun x => x = f) wc ⟨f, i * 4, none⟩ _ rfl).trans (Fr.set (X := fun x => x = f) _ ⟨f, i * 4 + 1, none⟩ _ rfl)).trans (Fr.set (X := fun x => x = f) _ ⟨f, i * 4 + 2, none⟩ _ rfl)).trans (Fr.set (X := fun x => x = f) _ ⟨f, i * 4 + 3, none⟩ _ rfl)
            have hnt : t ≠ f := HD.out.ne
            have hsbf : sb ≠ f := by have := Hsb.out; omega
            have hgf : g ≠ f := by omega
            have hSf : wf.cell? ⟨t, 1, none⟩ = some (.slice (some ⟨f, 0, none⟩) N cb) ∧ wf.cell? ⟨g, k, none⟩ = some (.int .i64 (i : Int)) ∧ wf.cell? ⟨sb, 0, none⟩ = some (.slice A1 n1 c1) ∧ wf.cell? ⟨sb, 1, none⟩ = some (.bool false) ∧ wf.cell? ⟨sb, 2, none⟩ = some (.slice none 0 0) ∧ wf.cell? ⟨sb, 3, none⟩ = some (.bool bd) := ⟨hFf.cell hSc.1 hnt, hFf.cell hSc.2.1 hgf, hFf.cell hSc.2.2.1 hsbf, hFf.cell hSc.2.2.2.1 hsbf, hFf.cell hSc.2.2.2.2.1 hsbf, hFf.cell hSc.2.2.2.2.2 hsbf⟩
            have HP := hide hP
            have HF9 := hide (HFk.out.trans hPF)
            have Hr9 := hide (Hr.out.fr hPF (fun _ a ha hx => by injection ha with ha; subst ha; rcases hx with h | h <;> have h' : g = _ := h <;> omega))
            have HG9 := hide (HG.out.fr hPF hnG)
            have HK9 := hide (HKk.out.fr hPF (fun hne x hx => HK.out hne x hx))
            have Hwf := hide hwf
            have HSc := hide hSc
            have HSf := hide hSf
            clear hP hPF hBc hFc hbc hrow hwf hwf4 hFf hSc hSf hnt hsbf hgf
            have hS0 : ((((w5).setCell ⟨sb, 1, none⟩ (.bool false)).setCell ⟨sb, 2, none⟩ (.slice none 0 0))).drew.cell? ⟨t, 1, none⟩ = some (.slice (some ⟨f, 0, none⟩) N cb) ∧ ((((w5).setCell ⟨sb, 1, none⟩ (.bool false)).setCell ⟨sb, 2, none⟩ (.slice none 0 0))).drew.cell? ⟨g, k, none⟩ = some (.int .i64 (i : Int)) ∧ ((((w5).setCell ⟨sb, 1, none⟩ (.bool false)).setCell ⟨sb, 2, none⟩ (.slice none 0 0))).drew.cell? ⟨sb, 0, none⟩ = some (.slice A1 n1 c1) ∧ ((((w5).setCell ⟨sb, 1, none⟩ (.bool false)).setCell ⟨sb, 2, none⟩ (.slice none 0 0))).drew.cell? ⟨sb, 1, none⟩ = some (.bool false) ∧ ((((w5).setCell ⟨sb, 1, none⟩ (.bool false)).setCell ⟨sb, 2, none⟩ (.slice none 0 0))).drew.cell? ⟨sb, 2, none⟩ = some (.slice none 0 0) ∧ ((((w5).setCell ⟨sb, 1, none⟩ (.bool false)).setCell ⟨sb, 2, none⟩ (.slice none 0 0))).drew.cell? ⟨sb, 3, none⟩ = some (.bool bd) := by rw [hwc]; exact HSc.out
            refine wp_region_held_drew (S := fun Z => Z.cell? ⟨t, 1, none⟩ = some (.slice (some ⟨f, 0, none⟩) N cb) ∧ Z.cell? ⟨g, k, none⟩ = some (.int .i64 (i : Int)) ∧ Z.cell? ⟨sb, 0, none⟩ = some (.slice A1 n1 c1) ∧ Z.cell? ⟨sb, 1, none⟩ = some (.bool false) ∧ Z.cell? ⟨sb, 2, none⟩ = some (.slice none 0 0) ∧ Z.cell? ⟨sb, 3, none⟩ = some (.bool bd)) (by kernel_rfl) hS0 (fun _ => ?_)
            clear hS0
            rw [hwc]
            refine wpAnyH_take (fuel := 10) (i := 0) (v := .pointer (some ⟨t, 0, none⟩)) rfl (by kernel_rfl) (by kernel_rfl) (by kernel_rfl) (fun _ _ _ h => h) (Or.inl ⟨by rfl, fun Z hZ => ?_⟩) HSc.out ?_
            · obtain ⟨z1, z2, z3, z4, z5, z6⟩ := hZ
              go_simp
            refine wpAnyH_take (fuel := 9) (i := 1) (v := .pointer (some ⟨t, 0, none⟩)) rfl (by kernel_rfl) (by kernel_rfl) (by kernel_rfl) (fun _ _ _ h => h) (Or.inl ⟨by rfl, fun Z hZ => ?_⟩) HSc.out ?_
            · obtain ⟨z1, z2, z3, z4, z5, z6⟩ := hZ
              go_simp
            refine wpAnyH_take (fuel := 8) (i := 2) (v := .pointer (some ⟨t, 1, none⟩)) rfl (by kernel_rfl) (by kernel_rfl) (by kernel_rfl) (fun _ _ _ h => h) (Or.inl ⟨by rfl, fun Z hZ => ?_⟩) HSc.out ?_
            · obtain ⟨z1, z2, z3, z4, z5, z6⟩ := hZ
              go_simp
            refine wpAnyH_take (fuel := 7) (i := 3) (v := .slice (some ⟨f, 0, none⟩) N cb) rfl (by kernel_rfl) (by kernel_rfl) (by kernel_rfl) (fun _ _ _ h => h) (Or.inl ⟨by rfl, fun Z hZ => ?_⟩) HSc.out ?_
            · obtain ⟨z1, z2, z3, z4, z5, z6⟩ := hZ
              go_simp
            refine wpAnyH_take (fuel := 6) (i := 4) (v := .slice (some ⟨g, 0, none⟩) m c) rfl (by kernel_rfl) (by kernel_rfl) (by kernel_rfl) (fun _ _ _ h => h) (Or.inl ⟨by rfl, fun Z hZ => ?_⟩) HSc.out ?_
            · obtain ⟨z1, z2, z3, z4, z5, z6⟩ := hZ
              go_simp
            refine wpAnyH_take (fuel := 5) (i := 5) (v := .int .i64 (k : Int)) rfl (by kernel_rfl) (by kernel_rfl) (by kernel_rfl) (fun _ _ _ h => h) (Or.inl ⟨by rfl, fun Z hZ => ?_⟩) HSc.out ?_
            · obtain ⟨z1, z2, z3, z4, z5, z6⟩ := hZ
              go_simp
            refine wpAnyH_take (fuel := 4) (i := 6) (v := .pointer (some ⟨g, k, none⟩)) rfl (by kernel_rfl) (by kernel_rfl) (by kernel_rfl) (fun _ _ _ h => h) (Or.inl ⟨by rfl, fun Z hZ => ?_⟩) HSc.out ?_
            · obtain ⟨z1, z2, z3, z4, z5, z6⟩ := hZ
              go_simp
            refine wpAnyH_take (fuel := 3) (i := 7) (v := .int .i64 (i : Int)) rfl (by kernel_rfl) (by kernel_rfl) (by kernel_rfl) (fun _ _ _ h => h) (Or.inl ⟨by rfl, fun Z hZ => ?_⟩) HSc.out ?_
            · obtain ⟨z1, z2, z3, z4, z5, z6⟩ := hZ
              go_simp
            refine wpAnyH_take (fuel := 2) (i := 8) (v := .agg #[.slice A1 n1 c1, .bool false, .slice none 0 0, .bool bd]) rfl (by kernel_rfl) (by kernel_rfl) (by kernel_rfl) (fun _ _ _ h => h) (Or.inl ⟨by rfl, fun Z hZ => ?_⟩) HSc.out ?_
            · obtain ⟨z1, z2, z3, z4, z5, z6⟩ := hZ
              go_simp
            refine wpAnyH_take (fuel := 1) (i := 9) (v := .pointer (some ⟨f, i * 4, none⟩)) rfl (by kernel_rfl) (by kernel_rfl) (by kernel_rfl) (fun _ _ _ h => h) (Or.inl ⟨by rfl, fun Z hZ => ?_⟩) HSc.out ?_
            · obtain ⟨z1, z2, z3, z4, z5, z6⟩ := hZ
              go_simp
            refine all_one (fuel := 0) (i := 10) (by kernel_rfl) rfl rfl (fun Kk hK => ?_)
            go_simp
            try rw [Hwf.out]
            refine hK _ _ ⟨HSf.out, ?_⟩
            clear hK Kk
            refine wpAnyH_done (by kernel_rfl) ?_ _
            go_wp2
            go_roundw
            case rel => exact ⟨k + 1, by go_num, by omega, by rw [HST.out]; exact HP.out, HF9.out, Hr9.out, HG9.out, HK9.out⟩
            case measure => simp [RowKit.intOf]; omega
        · have q3 : decide (k < kn) = false := decide_eq_false hkk
          have hgd : keep.getD k false = false := by
            rw [List.getD_eq_getElem?_getD, List.getElem?_eq_none (by rw [hkn]; omega)]; rfl
          rw [hgd, if_neg (by decide), if_neg (by decide)] at HST
          clear hgd
          go_wp2_with fail
          obtain ⟨wc, hwc⟩ : ∃ y, ((((w5).setCell ⟨sb, 1, none⟩ (.bool false)).setCell ⟨sb, 2, none⟩ (.slice none 0 0))).drew = y := ⟨_, rfl⟩
          have hBc : Blk wc sb [.slice A1 n1 c1, .bool false, .slice none 0 0, .bool bd] 86 := by rw [← hwc]; exact ((hB5.set 1 (.bool false)).set 2 (.slice none 0 0))
          have hFc : Fr (fun x => x = sb) (w5) wc := by rw [← hwc]; exact (((Fr.refl (fun x => x = sb) (w5)).trans (Fr.set (X := fun x => x = sb) _ ⟨sb, 1, none⟩ _ rfl)).trans (Fr.set (X := fun x => x = sb) _ ⟨sb, 2, none⟩ _ rfl)).drew
          have hbc : Below wr.heap.size wr wc := hFc.below (Hb5.out) (Hb5.out).size (fun x hx => by have := Hsb.out; omega)
          have hSc : wc.cell? ⟨t, 1, none⟩ = some (.slice (some ⟨f, 0, none⟩) N cb) ∧ wc.cell? ⟨g, k, none⟩ = some (.int .i64 (i : Int)) ∧ wc.cell? ⟨sb, 0, none⟩ = some (.slice A1 n1 c1) ∧ wc.cell? ⟨sb, 1, none⟩ = some (.bool false) ∧ wc.cell? ⟨sb, 2, none⟩ = some (.slice none 0 0) ∧ wc.cell? ⟨sb, 3, none⟩ = some (.bool bd) := ⟨(HSt.out _ hbc).1, (HSt.out _ hbc).2.1, hBc.cell (j := 0) rfl, hBc.cell (j := 1) rfl, hBc.cell (j := 2) rfl, hBc.cell (j := 3) rfl⟩
          obtain ⟨hP, hPF⟩ := HD.out.lay4 hbc HIN.out (A := A1) (n := n1) (c := c1) (b := fi) (z := bd) (by rw [HS.out]; exact hfl) (Hbn.out.1) (Hbn.out.2.1) (Hbn.out.2.2.1) (Hbn.out.2.2.2.1.below hbc) (Hbn.out.2.2.2.2)
          have hrow := HD.out.below hbc
          have hj0 := hrow.row.frozen (i * 4)
          have hj1 := hrow.row.frozen (i * 4 + 1)
          have hj2 := hrow.row.frozen (i * 4 + 2)
          have hj3 := hrow.row.frozen (i * 4 + 3)
          obtain ⟨_, _, _, _, _, _, r0, r1, r2, r3, _⟩ := hrow.at_ HIN.out
          obtain ⟨wf, hwf⟩ : ∃ y, (((wc.setCell ⟨f, i * 4, none⟩ (.slice A1 n1 c1)).setCell ⟨f, i * 4 + 1, none⟩ (.bool false)).setCell ⟨f, i * 4 + 2, none⟩ (.slice none 0 0)).setCell ⟨f, i * 4 + 3, none⟩ (.bool bd) = y := ⟨_, rfl⟩
          have hwf4 : w4 wc f i (.slice A1 n1 c1) (.bool false) (.slice none 0 0) (.bool bd) = wf := hwf
          rw [hwf4] at hP hPF
          have hFf : Fr (fun x => x = f) wc wf := by
            rw [← hwf]
            exact (((Fr.set (X := fun x => x = f) wc ⟨f, i * 4, none⟩ _ rfl).trans (Fr.set (X := fun x => x = f) _ ⟨f, i * 4 + 1, none⟩ _ rfl)).trans (Fr.set (X := fun x => x = f) _ ⟨f, i * 4 + 2, none⟩ _ rfl)).trans (Fr.set (X := fun x => x = f) _ ⟨f, i * 4 + 3, none⟩ _ rfl)
          have hnt : t ≠ f := HD.out.ne
          have hsbf : sb ≠ f := by have := Hsb.out; omega
          have hgf : g ≠ f := by omega
          have hSf : wf.cell? ⟨t, 1, none⟩ = some (.slice (some ⟨f, 0, none⟩) N cb) ∧ wf.cell? ⟨g, k, none⟩ = some (.int .i64 (i : Int)) ∧ wf.cell? ⟨sb, 0, none⟩ = some (.slice A1 n1 c1) ∧ wf.cell? ⟨sb, 1, none⟩ = some (.bool false) ∧ wf.cell? ⟨sb, 2, none⟩ = some (.slice none 0 0) ∧ wf.cell? ⟨sb, 3, none⟩ = some (.bool bd) := ⟨hFf.cell hSc.1 hnt, hFf.cell hSc.2.1 hgf, hFf.cell hSc.2.2.1 hsbf, hFf.cell hSc.2.2.2.1 hsbf, hFf.cell hSc.2.2.2.2.1 hsbf, hFf.cell hSc.2.2.2.2.2 hsbf⟩
          have HP := hide hP
          have HF9 := hide (HFk.out.trans hPF)
          have Hr9 := hide (Hr.out.fr hPF (fun _ a ha hx => by injection ha with ha; subst ha; rcases hx with h | h <;> have h' : g = _ := h <;> omega))
          have HG9 := hide (HG.out.fr hPF hnG)
          have HK9 := hide (HKk.out.fr hPF (fun hne x hx => HK.out hne x hx))
          have Hwf := hide hwf
          have HSc := hide hSc
          have HSf := hide hSf
          clear hP hPF hBc hFc hbc hrow hwf hwf4 hFf hSc hSf hnt hsbf hgf
          have hS0 : ((((w5).setCell ⟨sb, 1, none⟩ (.bool false)).setCell ⟨sb, 2, none⟩ (.slice none 0 0))).drew.cell? ⟨t, 1, none⟩ = some (.slice (some ⟨f, 0, none⟩) N cb) ∧ ((((w5).setCell ⟨sb, 1, none⟩ (.bool false)).setCell ⟨sb, 2, none⟩ (.slice none 0 0))).drew.cell? ⟨g, k, none⟩ = some (.int .i64 (i : Int)) ∧ ((((w5).setCell ⟨sb, 1, none⟩ (.bool false)).setCell ⟨sb, 2, none⟩ (.slice none 0 0))).drew.cell? ⟨sb, 0, none⟩ = some (.slice A1 n1 c1) ∧ ((((w5).setCell ⟨sb, 1, none⟩ (.bool false)).setCell ⟨sb, 2, none⟩ (.slice none 0 0))).drew.cell? ⟨sb, 1, none⟩ = some (.bool false) ∧ ((((w5).setCell ⟨sb, 1, none⟩ (.bool false)).setCell ⟨sb, 2, none⟩ (.slice none 0 0))).drew.cell? ⟨sb, 2, none⟩ = some (.slice none 0 0) ∧ ((((w5).setCell ⟨sb, 1, none⟩ (.bool false)).setCell ⟨sb, 2, none⟩ (.slice none 0 0))).drew.cell? ⟨sb, 3, none⟩ = some (.bool bd) := by rw [hwc]; exact HSc.out
          refine wp_region_held_drew (S := fun Z => Z.cell? ⟨t, 1, none⟩ = some (.slice (some ⟨f, 0, none⟩) N cb) ∧ Z.cell? ⟨g, k, none⟩ = some (.int .i64 (i : Int)) ∧ Z.cell? ⟨sb, 0, none⟩ = some (.slice A1 n1 c1) ∧ Z.cell? ⟨sb, 1, none⟩ = some (.bool false) ∧ Z.cell? ⟨sb, 2, none⟩ = some (.slice none 0 0) ∧ Z.cell? ⟨sb, 3, none⟩ = some (.bool bd)) (by kernel_rfl) hS0 (fun _ => ?_)
          clear hS0
          rw [hwc]
          refine wpAnyH_take (fuel := 10) (i := 0) (v := .pointer (some ⟨t, 0, none⟩)) rfl (by kernel_rfl) (by kernel_rfl) (by kernel_rfl) (fun _ _ _ h => h) (Or.inl ⟨by rfl, fun Z hZ => ?_⟩) HSc.out ?_
          · obtain ⟨z1, z2, z3, z4, z5, z6⟩ := hZ
            go_simp
          refine wpAnyH_take (fuel := 9) (i := 1) (v := .pointer (some ⟨t, 0, none⟩)) rfl (by kernel_rfl) (by kernel_rfl) (by kernel_rfl) (fun _ _ _ h => h) (Or.inl ⟨by rfl, fun Z hZ => ?_⟩) HSc.out ?_
          · obtain ⟨z1, z2, z3, z4, z5, z6⟩ := hZ
            go_simp
          refine wpAnyH_take (fuel := 8) (i := 2) (v := .pointer (some ⟨t, 1, none⟩)) rfl (by kernel_rfl) (by kernel_rfl) (by kernel_rfl) (fun _ _ _ h => h) (Or.inl ⟨by rfl, fun Z hZ => ?_⟩) HSc.out ?_
          · obtain ⟨z1, z2, z3, z4, z5, z6⟩ := hZ
            go_simp
          refine wpAnyH_take (fuel := 7) (i := 3) (v := .slice (some ⟨f, 0, none⟩) N cb) rfl (by kernel_rfl) (by kernel_rfl) (by kernel_rfl) (fun _ _ _ h => h) (Or.inl ⟨by rfl, fun Z hZ => ?_⟩) HSc.out ?_
          · obtain ⟨z1, z2, z3, z4, z5, z6⟩ := hZ
            go_simp
          refine wpAnyH_take (fuel := 6) (i := 4) (v := .slice (some ⟨g, 0, none⟩) m c) rfl (by kernel_rfl) (by kernel_rfl) (by kernel_rfl) (fun _ _ _ h => h) (Or.inl ⟨by rfl, fun Z hZ => ?_⟩) HSc.out ?_
          · obtain ⟨z1, z2, z3, z4, z5, z6⟩ := hZ
            go_simp
          refine wpAnyH_take (fuel := 5) (i := 5) (v := .int .i64 (k : Int)) rfl (by kernel_rfl) (by kernel_rfl) (by kernel_rfl) (fun _ _ _ h => h) (Or.inl ⟨by rfl, fun Z hZ => ?_⟩) HSc.out ?_
          · obtain ⟨z1, z2, z3, z4, z5, z6⟩ := hZ
            go_simp
          refine wpAnyH_take (fuel := 4) (i := 6) (v := .pointer (some ⟨g, k, none⟩)) rfl (by kernel_rfl) (by kernel_rfl) (by kernel_rfl) (fun _ _ _ h => h) (Or.inl ⟨by rfl, fun Z hZ => ?_⟩) HSc.out ?_
          · obtain ⟨z1, z2, z3, z4, z5, z6⟩ := hZ
            go_simp
          refine wpAnyH_take (fuel := 3) (i := 7) (v := .int .i64 (i : Int)) rfl (by kernel_rfl) (by kernel_rfl) (by kernel_rfl) (fun _ _ _ h => h) (Or.inl ⟨by rfl, fun Z hZ => ?_⟩) HSc.out ?_
          · obtain ⟨z1, z2, z3, z4, z5, z6⟩ := hZ
            go_simp
          refine wpAnyH_take (fuel := 2) (i := 8) (v := .agg #[.slice A1 n1 c1, .bool false, .slice none 0 0, .bool bd]) rfl (by kernel_rfl) (by kernel_rfl) (by kernel_rfl) (fun _ _ _ h => h) (Or.inl ⟨by rfl, fun Z hZ => ?_⟩) HSc.out ?_
          · obtain ⟨z1, z2, z3, z4, z5, z6⟩ := hZ
            go_simp
          refine wpAnyH_take (fuel := 1) (i := 9) (v := .pointer (some ⟨f, i * 4, none⟩)) rfl (by kernel_rfl) (by kernel_rfl) (by kernel_rfl) (fun _ _ _ h => h) (Or.inl ⟨by rfl, fun Z hZ => ?_⟩) HSc.out ?_
          · obtain ⟨z1, z2, z3, z4, z5, z6⟩ := hZ
            go_simp
          refine all_one (fuel := 0) (i := 10) (by kernel_rfl) rfl rfl (fun Kk hK => ?_)
          go_simp
          try rw [Hwf.out]
          refine hK _ _ ⟨HSf.out, ?_⟩
          clear hK Kk
          refine wpAnyH_done (by kernel_rfl) ?_ _
          go_wp2
          go_roundw
          case rel => exact ⟨k + 1, by go_num, by omega, by rw [HST.out]; exact HP.out, HF9.out, Hr9.out, HG9.out, HK9.out⟩
          case measure => simp [RowKit.intOf]; omega
    · have hke : k = m := by omega
      subst hke
      have HFU := hide (rfuse08_any hDk (-1) (by omega))
      have HFk := hide hFk
      clear hDk hFk hrk hGk hKk
      go_wp2_with fail
      refine HFU.out.mono ?_
      rintro x w9 ⟨rfl, hD9, hF9, _⟩
      have hfi : fuseI (-1) = -1 := by decide
      rw [hfi, HDN.out] at hD9
      have H := hide (And.intro hD9 (HFk.out.trans (hF9.mono (fun x hx => .inl hx))))
      clear hD9 hF9 HFU
      go_wp2
      refine bodyPost_end (results_none rfl _ _ _) rfl ?_
      exact ⟨rfl, ⟨_, H.out.1⟩, H.out.2⟩
end
end Go.Proofs.Ytdianokikhggnaa
