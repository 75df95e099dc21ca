/- The document's disk: Write. -/
import Derived.Test.YtdianokikhggnaaF08u
import Derived.Test.YtdianokikhggnaaF08g
namespace Go.Proofs.Ytdianokikhggnaa
set_option maxRecDepth 20000
open Go.RowKit Go.Px Go.Maps
set_option linter.unusedVariables false
section
variable {w w' : World} {Q Q' X : Nat → Prop} {t f : Nat} {cs cs' : List Value} {d d' : Dk}
theorem RDIs.putNew (h : RDIs w Q t f cs d) {i : Nat} (hi : i < d.fast.length) {A : Option Addr} {n c : Nat} {bs : List UInt8} (hB : Blk w' f ((cs.set (i * 4 + 1) (.bool true)).set (i * 4 + 2) (.slice A n c)) 86) (hF : Fr (fun x => x = f) w w') (hb : bs.length = d.size) (hbn : bs.length = n) (hnc : n ≤ c) (hc : c ≤ 9223372036854775807) (hr : Rd w' A (bys bs)) (hA : ∀ a, A = some a → Q a.block) : RDIs w' Q t f ((cs.set (i * 4 + 1) (.bool true)).set (i * 4 + 2) (.slice A n c)) (d.putL (i : Int) (some bs)) := by
  have hlen := h.len
  refine h.upd hi hB hF (by simp) (fun j hj => by rw [List.getElem?_set_ne (by omega), List.getElem?_set_ne (by omega)]) (fun hi' => ?_) rfl rfl rfl (fun j _ => rfl) (fun x hx => if_neg hx) (fun x hx => rfl) ?_
  · rw [show (d.putL (i : Int) (some bs)).loose (i : Int) = some bs from if_pos rfl]
    obtain ⟨A1, n1, c1, B1, m1, e1, g1, g2, g3, g4, g5, g6, g7, g8, g9, _⟩ := h.sec i hi
    refine ⟨A1, n1, c1, A, n, c, ?_, ?_, ?_, ?_, g5, g6, g7, g8.fr hF (fun _ a ha e => (h.out _ (g9 a ha)).2 e), g9, hnc, hc, fun b hb' => by injection hb' with hb'; subst hb'; exact ⟨hbn, hr, hA⟩⟩
    · rw [List.getElem?_set_ne (by omega), List.getElem?_set_ne (by omega)]; exact g1
    · rw [List.getElem?_set_ne (by omega), List.getElem?_set_self (by omega)]; rfl
    · rw [List.getElem?_set_self (by simp; omega)]
    · rw [List.getElem?_set_ne (by omega), List.getElem?_set_ne (by omega)]; exact g4
  · have o := h.ok
    refine ⟨o.s1, o.s2, o.n1, o.n2, o.fl, fun x b hx => ?_, o.ba, o.f1, o.f2⟩
    have hx' : (if x = (i : Int) then some bs else d.loose x) = some b := hx
    split at hx'
    · rename_i e; subst e; injection hx' with hx'; subst hx'; exact ⟨by omega, by show (i : Int) < (d.fast.length : Int); omega, hb⟩
    · exact o.lo x b hx'
set_option maxHeartbeats 3200000 in
theorem rwrite08_ok (h : RDIs w Q t f cs d) (hQ : ∀ b, w.heap.size ≤ b → Q b) (i : Int) (A : Option Addr) (m c : Nat) (b : List UInt8) (hm : b.length = m) (hmc : m ≤ c) (hc : c ≤ 9223372036854775807) (hrb : Rd w A (bys b)) (hA : bys b ≠ [] → ∀ a, A = some a → ¬ ROwn t f a.block) (he : d.writeE i b = 0) :
    Calls Try.prog 27 #[.pointer (some ⟨t, 0, none⟩), .int .i64 i, .slice A m c] w fun e w' => e = .returned (.int .i64 0) ∧ (∃ cs', RDIs w' Q t f cs' (d.write i b)) ∧ Fr (ROwn t f) w w' := by
  obtain ⟨cc, b1, _⟩ := h.blk
  have x0 := b1.cell (j := 0) rfl
  have x1 := b1.cell (j := 1) rfl
  have hN := h.ok.n2
  have hs1 := h.ok.s1
  have hs2 := h.ok.s2
  have hBU := fun (W : World) (hW : Below w.heap.size w W) => rpower08_any (h.below hW)
  obtain ⟨hr0, hin, hbe⟩ := Dk.writeE_ok he
  simp only [hbe] at hBU
  have hwr : d.write i b = d.burnt.lay i.toNat b (b.length / d.size) := by unfold Dk.write; rw [if_pos he]
  obtain ⟨hb1, hb2, hb3, hb4⟩ := d.burnt_same
  obtain ⟨g1, g2, g3, g4⟩ := hin
  obtain ⟨I, rfl⟩ : ∃ I : Nat, i = (I : Int) := ⟨i.toNat, by omega⟩
  rw [Int.toNat_natCast] at hwr
  have hlts := h.lts
  obtain ⟨d', hd'⟩ : ∃ d', d.burnt = d' := ⟨_, rfl⟩
  simp only [hd'] at hBU
  rw [hd'] at hwr hb1 hb2
  have hBU' : ∀ W, Below w.heap.size w W → Calls Try.prog 47 #[.pointer (some ⟨t, 0, none⟩)] W fun e w' => e = .returned (.bool true) ∧ RDIs w' Q t f cs d' ∧ Fr (fun x => x = t) W w' ∧ w'.heap.size = W.heap.size := hBU
  have HBU := hide hBU'
  obtain ⟨n, hn⟩ : ∃ n, m / d.size = n := ⟨_, rfl⟩
  rw [hm] at hr0 g2 g4 hwr
  rw [hn] at g2 g4 hwr
  rw [hwr]
  have hmn : m = n * d.size := by
    have := Nat.div_add_mod m d.size
    rw [hn, hr0, Nat.mul_comm] at this; omega
  obtain ⟨S, hSe⟩ : ∃ S, d.size = S := ⟨_, rfl⟩
  obtain ⟨N, hNe⟩ : ∃ N, d.fast.length = N := ⟨_, rfl⟩
  have hdS : d'.size = S := by rw [hb1, hSe]
  have hdN : d'.fast.length = N := by rw [hb2, hNe]
  rw [hNe] at g3 g4 hN x1
  rw [hSe] at hs1 hs2 x0 hr0 hn hmn
  have hS0 : (S : Int) ≠ 0 := by omega
  have hrem : ((m : Int).tmod (S : Int)) = 0 := by
    show ((m % S : Nat) : Int) = 0
    rw [hr0]; rfl
  have hquo : ((m : Int).tdiv (S : Int)) = (n : Int) := by
    show ((m / S : Nat) : Int) = _
    rw [hn]
  have hIn : I + n ≤ N := by omega
  have hw0 : IntKind.i64.wrap (n : Int) = (n : Int) := by rw [IntKind.wrap_i64]; omega
  have q1 : decide ((I : Int) < 0) = false := decide_eq_false (by omega)
  have q2 : decide (N < I) = false := decide_eq_false (by omega)
  have hw : IntKind.i64.wrap ((N : Int) - (I : Int)) = (N : Int) - (I : Int) := by rw [IntKind.wrap_i64]; omega
  have q3 : decide ((N : Int) - (I : Int) < (n : Int)) = false := decide_eq_false (by omega)
  have HQ := hide hQ
  have Hm := hide hm
  have Hmn := hide hmn
  have HdS := hide hdS
  have HdN := hide hdN
  have hmb : m ≤ 536870912 := by
    rw [hmn]
    have : n * S ≤ 65536 * 8192 := Nat.mul_le_mul (by omega) hs2
    omega
  have HA := hide hA
  clear h b1 hm hQ hr0 hn hmn hdS hdN hSe hNe he hBU hBU' hwr hb1 hb2 hb3 hb4 hbe hd' g1 g2 g3 g4 hA
  go_enter Try.func27, Try.ntmps27
  go_wp2_with fail
  go_quiet (fail)
  have hbq : Below w.heap.size w (w.drewN nq) := ⟨rfl, rfl, rfl, Nat.le_refl _, fun _ _ => rfl⟩
  obtain ⟨wq, hwq⟩ : ∃ y, w.drewN nq = y := ⟨_, rfl⟩
  rw [hwq] at hbq ⊢
  have HBQ := hide (HBU.out wq hbq)
  clear HBU hwq
  go_wp2_with fail
  refine HBQ.out.mono ?_
  rintro x w2 ⟨rfl, hD2, hF2, hz2⟩
  have hF02 : Fr (ROwn t f) w w2 := (Fr.of_below hbq).trans (rown_t hF2)
  have hr2 : Rd w2 A (bys b) := hrb.fr hF02 (fun hne a ha => HA.out hne a ha)
  clear HBQ hF2
  go_wp2_with fail
  go_loopw [7] (fun s W => ∃ p : Nat, s = .int .i64 (p : Int) ∧ p ≤ n ∧ (∃ cs, RDIs W Q t f cs (d'.lay I b p)) ∧ Fr (ROwn t f) w W ∧ Rd W A (bys b)) (fun s _ => n - (RowKit.intOf s).toNat)
  case atStart => exact ⟨0, rfl, by omega, ⟨_, hD2⟩, hF02, hr2⟩
  case round =>
    obtain ⟨p, rfl, hpn, ⟨csp, hDp⟩, hFp, hrp⟩ := hrel
    obtain ⟨l1, l2, l3, l4⟩ := d'.lay_same I b p
    obtain ⟨cp, bp, _⟩ := hDp.blk
    have y0 := bp.cell (j := 0) rfl
    have y1 := bp.cell (j := 1) rfl
    rw [l1, HdS.out] at y0
    rw [l2, HdN.out] at y1
    obtain ⟨a, ha⟩ : ∃ a, p * S = a := ⟨_, rfl⟩
    have hw5 : IntKind.i64.wrap ((p : Int) * (S : Int)) = (a : Int) := by
      have : p * S ≤ n * S := Nat.mul_le_mul_right _ hpn
      rw [← Int.natCast_mul, ha, IntKind.wrap_i64]
      have := Hmn.out
      omega
    by_cases hlp : p < n
    · obtain ⟨a2, ha2⟩ : ∃ a2, (p + 1) * S = a2 := ⟨_, rfl⟩
      have haS : a2 = a + S := by rw [← ha, ← ha2, Nat.succ_mul]
      have ham : a2 ≤ m := by rw [← ha2, Hmn.out]; exact Nat.mul_le_mul_right _ hlp
      have ham' : a < m := by omega
      have haa : a ≤ a2 := by omega
      have hac : a2 ≤ c := by omega
      have hw6 : IntKind.i64.wrap (((p : Int) + 1) * (S : Int)) = (a2 : Int) := by rw [show ((p : Int) + 1) = ((p + 1 : Nat) : Int) by omega, ← Int.natCast_mul, ha2, IntKind.wrap_i64]; omega
      obtain ⟨x, hx⟩ : ∃ x, I + p = x := ⟨_, rfl⟩
      have hw8 : IntKind.i64.wrap ((I : Int) + (p : Int)) = (x : Int) := by rw [IntKind.wrap_i64]; omega
      have hxN : x < N := by omega
      have hxd : x < (d'.lay I b p).fast.length := by rw [l2, HdN.out]; exact hxN
      obtain ⟨_, _, _, B0, m0, e0, p0, p1, p2, p3, _⟩ := hDp.at_ hxd
      have hsub : a2 - a = S := by omega
      have Hsub := hide hsub
      have HaS := hide haS
      have Ha := hide ha
      have Ha2 := hide ha2
      have Hx := hide hx
      have j1 := hDp.row.frozen (x * 4 + 1)
      -- the first store
      obtain ⟨w3, hw3⟩ : ∃ y, wr.setCell ⟨f, x * 4 + 1, none⟩ (.bool true) = y := ⟨_, rfl⟩
      have B3 : Blk w3 f (csp.set (x * 4 + 1) (.bool true)) 86 := by rw [← hw3]; exact hDp.row.set (x * 4 + 1) (.bool true)
      have F3 : Fr (fun y => y = f) wr w3 := by rw [← hw3]; exact Fr.set (X := fun y => y = f) wr ⟨f, x * 4 + 1, none⟩ _ rfl
      have hz3 : w3.heap.size = wr.heap.size := by rw [← hw3]; simp
      have t0 := F3.cell y0 (show ¬ t = f from hDp.ne)
      have t1 := F3.cell y1 (show ¬ t = f from hDp.ne)
      have hr3 : Rd w3 A (bys b) := hrp.fr F3 (fun hne a ha e => HA.out hne a ha (.inr e))
      have Hw3 := hide hw3
      have HDp := hide hDp
      have HFp := hide hFp
      have HZ3 := hide hz3
      clear hz3 haS hsub ha ha2 hx hw3 hDp bp hFp
      go_wp2_with fail
      rw [Hw3.out]
      have hS0 : w3.drew.cell? ⟨t, 0, none⟩ = some (.int .i64 (S : Int)) ∧ w3.drew.cell? ⟨t, 1, none⟩ = some (.slice (some ⟨f, 0, none⟩) N cp) := ⟨t0, t1⟩
      refine wp_region_held_drew (S := fun Z => Z.cell? ⟨t, 0, none⟩ = some (.int .i64 (S : Int)) ∧ Z.cell? ⟨t, 1, none⟩ = some (.slice (some ⟨f, 0, none⟩) N cp)) (by kernel_rfl) hS0 (fun _ => ?_)
      refine wpAnyH_take (fuel := 26) (i := 0) (v := .pointer (some ⟨t, 0, none⟩)) rfl (by kernel_rfl) (by kernel_rfl) (by kernel_rfl) (fun _ _ _ h => h) (Or.inl ⟨by rfl, fun Z hZ => ?_⟩) hS0 ?_
      · obtain ⟨z1, z2⟩ := hZ
        go_simp
      refine wpAnyH_take (i := 1) (v := .pointer (some ⟨t, 0, none⟩)) rfl (by kernel_rfl) (by kernel_rfl) (by kernel_rfl) (fun _ _ _ h => h) (Or.inl ⟨by rfl, fun Z hZ => ?_⟩) hS0 ?_
      · obtain ⟨z1, z2⟩ := hZ
        go_simp
      refine wpAnyH_take (i := 2) (v := .pointer (some ⟨t, 1, none⟩)) rfl (by kernel_rfl) (by kernel_rfl) (by kernel_rfl) (fun _ _ _ h => h) (Or.inl ⟨by rfl, fun Z hZ => ?_⟩) hS0 ?_
      · obtain ⟨z1, z2⟩ := hZ
        go_simp
      refine wpAnyH_take (i := 3) (v := .slice (some ⟨f, 0, none⟩) N cp) rfl (by kernel_rfl) (by kernel_rfl) (by kernel_rfl) (fun _ _ _ h => h) (Or.inl ⟨by rfl, fun Z hZ => ?_⟩) hS0 ?_
      · obtain ⟨z1, z2⟩ := hZ
        go_simp
      refine wpAnyH_take (i := 4) (v := .int .i64 (I : Int)) rfl (by kernel_rfl) (by kernel_rfl) (by kernel_rfl) (fun _ _ _ h => h) (Or.inl ⟨by rfl, fun Z hZ => ?_⟩) hS0 ?_
      · obtain ⟨z1, z2⟩ := hZ
        go_simp
      refine wpAnyH_take (i := 5) (v := .int .i64 (p : Int)) rfl (by kernel_rfl) (by kernel_rfl) (by kernel_rfl) (fun _ _ _ h => h) (Or.inl ⟨by rfl, fun Z hZ => ?_⟩) hS0 ?_
      · obtain ⟨z1, z2⟩ := hZ
        go_simp
      refine wpAnyH_take (i := 6) (v := .int .i64 (x : Int)) rfl (by kernel_rfl) (by kernel_rfl) (by kernel_rfl) (fun _ _ _ h => h) (Or.inl ⟨by rfl, fun Z hZ => ?_⟩) hS0 ?_
      · obtain ⟨z1, z2⟩ := hZ
        go_simp
      refine wpAnyH_take (i := 8) (v := .slice A m c) rfl (by kernel_rfl) (by kernel_rfl) (by kernel_rfl) (fun _ _ _ h => h) (Or.inl ⟨by rfl, fun Z hZ => ?_⟩) hS0 ?_
      · obtain ⟨z1, z2⟩ := hZ
        go_simp
      refine wpAnyH_take (i := 9) (v := .int .i64 (p : Int)) rfl (by kernel_rfl) (by kernel_rfl) (by kernel_rfl) (fun _ _ _ h => h) (Or.inl ⟨by rfl, fun Z hZ => ?_⟩) hS0 ?_
      · obtain ⟨z1, z2⟩ := hZ
        go_simp
      refine wpAnyH_take (i := 10) (v := .pointer (some ⟨t, 0, none⟩)) rfl (by kernel_rfl) (by kernel_rfl) (by kernel_rfl) (fun _ _ _ h => h) (Or.inl ⟨by rfl, fun Z hZ => ?_⟩) hS0 ?_
      · obtain ⟨z1, z2⟩ := hZ
        go_simp
      refine wpAnyH_take (i := 11) (v := .pointer (some ⟨t, 0, none⟩)) rfl (by kernel_rfl) (by kernel_rfl) (by kernel_rfl) (fun _ _ _ h => h) (Or.inl ⟨by rfl, fun Z hZ => ?_⟩) hS0 ?_
      · obtain ⟨z1, z2⟩ := hZ
        go_simp
      refine wpAnyH_take (i := 12) (v := .pointer (some ⟨t, 0, none⟩)) rfl (by kernel_rfl) (by kernel_rfl) (by kernel_rfl) (fun _ _ _ h => h) (Or.inl ⟨by rfl, fun Z hZ => ?_⟩) hS0 ?_
      · obtain ⟨z1, z2⟩ := hZ
        go_simp
      refine wpAnyH_take (i := 13) (v := .int .i64 (S : Int)) rfl (by kernel_rfl) (by kernel_rfl) (by kernel_rfl) (fun _ _ _ h => h) (Or.inl ⟨by rfl, fun Z hZ => ?_⟩) hS0 ?_
      · obtain ⟨z1, z2⟩ := hZ
        go_simp
      refine wpAnyH_take (i := 14) (v := .int .i64 (a : Int)) rfl (by kernel_rfl) (by kernel_rfl) (by kernel_rfl) (fun _ _ _ h => h) (Or.inl ⟨by rfl, fun Z hZ => ?_⟩) hS0 ?_
      · obtain ⟨z1, z2⟩ := hZ
        go_simp
      refine wpAnyH_take (i := 15) (v := .int .i64 (p : Int)) rfl (by kernel_rfl) (by kernel_rfl) (by kernel_rfl) (fun _ _ _ h => h) (Or.inl ⟨by rfl, fun Z hZ => ?_⟩) hS0 ?_
      · obtain ⟨z1, z2⟩ := hZ
        go_simp
      refine wpAnyH_take (i := 16) (v := .int .i64 ((p : Int) + 1)) rfl (by kernel_rfl) (by kernel_rfl) (by kernel_rfl) (fun _ _ _ h => h) (Or.inl ⟨by rfl, fun Z hZ => ?_⟩) hS0 ?_
      · obtain ⟨z1, z2⟩ := hZ
        go_simp
        rw [IntKind.wrap_i64]; omega
      refine wpAnyH_take (i := 17) (v := .pointer (some ⟨t, 0, none⟩)) rfl (by kernel_rfl) (by kernel_rfl) (by kernel_rfl) (fun _ _ _ h => h) (Or.inl ⟨by rfl, fun Z hZ => ?_⟩) hS0 ?_
      · obtain ⟨z1, z2⟩ := hZ
        go_simp
      refine wpAnyH_take (i := 18) (v := .pointer (some ⟨t, 0, none⟩)) rfl (by kernel_rfl) (by kernel_rfl) (by kernel_rfl) (fun _ _ _ h => h) (Or.inl ⟨by rfl, fun Z hZ => ?_⟩) hS0 ?_
      · obtain ⟨z1, z2⟩ := hZ
        go_simp
      refine wpAnyH_take (i := 19) (v := .pointer (some ⟨t, 0, none⟩)) rfl (by kernel_rfl) (by kernel_rfl) (by kernel_rfl) (fun _ _ _ h => h) (Or.inl ⟨by rfl, fun Z hZ => ?_⟩) hS0 ?_
      · obtain ⟨z1, z2⟩ := hZ
        go_simp
      refine wpAnyH_take (i := 20) (v := .int .i64 (S : Int)) rfl (by kernel_rfl) (by kernel_rfl) (by kernel_rfl) (fun _ _ _ h => h) (Or.inl ⟨by rfl, fun Z hZ => ?_⟩) hS0 ?_
      · obtain ⟨z1, z2⟩ := hZ
        go_simp
      refine wpAnyH_take (i := 21) (v := .int .i64 (a2 : Int)) rfl (by kernel_rfl) (by kernel_rfl) (by kernel_rfl) (fun _ _ _ h => h) (Or.inl ⟨by rfl, fun Z hZ => ?_⟩) hS0 ?_
      · obtain ⟨z1, z2⟩ := hZ
        go_simp
      refine wpAnyH_take (i := 22) (v := .slice (cutA A c a 1) (a2 - a) (c - a)) rfl (by kernel_rfl) (by kernel_rfl) (by kernel_rfl) (fun _ _ _ h => h) (Or.inl ⟨by rfl, fun Z hZ => ?_⟩) hS0 ?_
      · obtain ⟨z1, z2⟩ := hZ
        go_simp
      obtain ⟨wd, hwd⟩ : ∃ y, w3.drew = y := ⟨_, rfl⟩
      have hdd : Below w3.heap.size w3 wd := by rw [← hwd]; exact (Below.refl _ _).drew
      have hzd : wd.heap.size = w3.heap.size := by rw [← hwd]; rfl
      have hbe : Below w3.heap.size w3 (wd.alloc (.cells #[] 5)) := hdd.alloc (by omega) _
      have hcl : ∀ Z, Below w3.heap.size w3 Z → (Z.cell? ⟨t, 0, none⟩ = some (.int .i64 (S : Int)) ∧ Z.cell? ⟨t, 1, none⟩ = some (.slice (some ⟨f, 0, none⟩) N cp)) := fun Z hZ => ⟨below_cell08 hZ t0, below_cell08 hZ t1⟩
      have hpl : Rd w3 (cutA A c a 1) (bys (secB S b p)) := by
        have h1 := hr3.cutA (n := m) (k := a) (cap := c) (by rw [bys_length, Hm.out]; exact Nat.le_refl _) (by omega) hmc
        have h2 := h1.take S
        unfold secB
        rw [Ha.out, bys_take, bys_drop]
        exact h2
      have hsl : (secB S b p).length = S := secB_len (by rw [Ha2.out, Hm.out]; exact ham)
      have hE := empty_own wd w3.heap.size (by omega)
      rw [hzd] at hE
      have HSe := hcl _ hbe
      have Hwd := hide hwd
      rw [hwd]
      clear hwd
      refine all_one (fuel := 4) (i := 7) (by kernel_rfl) rfl rfl (fun Kk hK => ?_)
      go_simp
      refine hK _ _ ⟨HSe, ?_⟩
      clear hK Kk
      refine all_one (fuel := 3) (i := 23) (by kernel_rfl) rfl rfl (fun Kk hK => ?_)
      refine oper_own rfl tBytes (base := w3.heap.size) (e := 5) (by rfl) hE (A := cutA A c a 1) (m := a2 - a) (c := c - a) (by rfl) (by rw [bys_length, hsl, Hsub.out, Nat.mul_one]) (hpl.below hbe) (bys_one _) (by rw [Hsub.out]; omega) (by rw [Hsub.out]; omega) (by simp; omega) ?_
      intro v2 w5 hO2 hg2 hv2
      rw [Nat.zero_add, List.nil_append, Hsub.out] at hO2
      have hb5 : Below w3.heap.size w3 w5 := hbe.grown hg2 (by simp; omega) (fun k hk => by simp [Value.ownBlock] at hk; omega)
      have HS5 := hcl _ hb5
      obtain ⟨A4, c4, rfl, _, hc4, hcm4, hr4, ha4⟩ := own_out hO2
      refine hK _ _ ⟨HS5, ?_⟩
      clear hK Kk
      have hxd' : x < (d'.lay I b p).fast.length := hxd
      have hB5 : Blk w5 f (csp.set (x * 4 + 1) (.bool true)) 86 := B3.below hb5
      have hl4 := HDp.out.len
      have hN4 : x * 4 + 2 < csp.length := by omega
      obtain ⟨B9, m9, e9, s2⟩ : ∃ B9 m9 e9, csp[x * 4 + 2]? = some (.slice B9 m9 e9) := by
        obtain ⟨_, _, _, B9, m9, e9, _, _, s2, _⟩ := HDp.out.sec x hxd
        exact ⟨B9, m9, e9, s2⟩
      have z2 : w5.cell? ⟨f, x * 4 + 2, none⟩ = some (.slice B9 m9 e9) := hB5.cell (by rw [List.getElem?_set_ne (by omega)]; exact s2)
      have jz := hB5.frozen (x * 4 + 2)
      obtain ⟨w6, hw6⟩ : ∃ y, w5.setCell ⟨f, x * 4 + 2, none⟩ (.slice A4 S c4) = y := ⟨_, rfl⟩
      have hB6 : Blk w6 f ((csp.set (x * 4 + 1) (.bool true)).set (x * 4 + 2) (.slice A4 S c4)) 86 := by rw [← hw6]; exact hB5.set (x * 4 + 2) (.slice A4 S c4)
      have hF56 : Fr (fun y => y = f) w5 w6 := by rw [← hw6]; exact Fr.set (X := fun y => y = f) w5 ⟨f, x * 4 + 2, none⟩ _ rfl
      have hF6 : Fr (fun y => y = f) wr w6 := (F3.trans (Fr.of_below hb5)).trans hF56
      have hr6 : Rd w6 A4 (bys (secB S b p)) := hr4.fr hF56 (fun _ a ha e => by have := (ha4 a ha).1; have := HDp.out.lts.2; have := HZ3.out; omega)
      have hput := HDp.out.putNew hxd hB6 hF6 (by rw [hsl, (d'.lay_same I b p).1, HdS.out]) hsl hc4 (by unfold maxLen at hcm4; omega) hr6 (fun a ha => HQ.out _ (by have := (ha4 a ha).1; have := HZ3.out; have := HFp.out.size; omega))
      have hput' : RDIs w6 Q t f ((csp.set (x * 4 + 1) (.bool true)).set (x * 4 + 2) (.slice A4 S c4)) (d'.lay I b (p + 1)) := by
        show RDIs _ _ _ _ _ ((d'.lay I b p).putL ((I + p : Nat) : Int) (some (secB d'.size b p)))
        rw [Hx.out, HdS.out]; exact hput
      have HPU := hide (show ∃ cs, RDIs w6 Q t f cs (d'.lay I b (p + 1)) from ⟨_, hput'⟩)
      have HFU := hide (HFp.out.trans (rown_f (t := t) hF6))
      have hrp6 : Rd w6 A (bys b) := (hr3.below hb5).fr hF56 (fun hne a ha e => HA.out hne a ha (.inr e))
      have HRU := hide hrp6
      have hne : t ≠ f := HDp.out.ne
      have HS6 : (w6.cell? ⟨t, 0, none⟩ = some (.int .i64 (S : Int)) ∧ w6.cell? ⟨t, 1, none⟩ = some (.slice (some ⟨f, 0, none⟩) N cp)) := ⟨hF56.cell HS5.1 hne, hF56.cell HS5.2 hne⟩
      have Hw6 := hide hw6
      clear hput hput' hF6 hF56 hB6 hB5 hr6 hrp6 hr4 ha4 hv2 hg2 hO2 hE hw6
      refine all_one (fuel := 2) (i := 24) (by kernel_rfl) rfl rfl (fun Kk hK => ?_)
      go_simp
      refine hK _ _ ⟨HS5, ?_⟩
      clear hK Kk
      refine all_one (fuel := 1) (i := 25) (by kernel_rfl) rfl rfl (fun Kk hK => ?_)
      go_simp
      refine hK _ _ ⟨HS5, ?_⟩
      clear hK Kk
      refine all_one (fuel := 0) (i := 26) (by kernel_rfl) rfl rfl (fun Kk hK => ?_)
      go_simp
      rw [Hw6.out]
      refine hK _ _ ⟨HS6, ?_⟩
      clear hK Kk
      refine wpAnyH_done (by kernel_rfl) ?_ _
      go_wp2
      go_roundw
      case rel => exact ⟨p + 1, by go_num, by omega, HPU.out, HFU.out, HRU.out⟩
      case measure => simp [RowKit.intOf]; omega
    · have hpe : p = n := by omega
      subst hpe
      have ham : a = m := by rw [← ha, Hmn.out]
      have HD := hide (show ∃ cs', RDIs wr Q t f cs' (d'.lay I b p) from ⟨_, hDp⟩)
      have HF := hide hFp
      have q9 : decide ((a : Int) < (m : Int)) = false := decide_eq_false (by omega)
      clear hDp hFp bp
      go_wp2
      go_ret
      exact ⟨rfl, HD.out, HF.out⟩
end
end Go.Proofs.Ytdianokikhggnaa
