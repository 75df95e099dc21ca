/- The law TableOnce, walked (written by gen_g6h.py). -/
import Derived.Test.YtplodjccjobjbaaF06g
import Derived.Deep.QuietTactic
namespace Go.Proofs.Ytplodjccjobjbaa
open Go.RowKit Go.Px Go.Maps
set_option linter.unusedVariables false
def eqR (k : Nat) (ds : List UInt8) (k' : Nat) (ds' : List UInt8) : Bool := ((k : Int) == (k' : Int)) && (ds == ds')
theorem eqR_self (k : Nat) (ds : List UInt8) : eqR k ds k ds = true := by unfold eqR; simp
theorem bool_or (b : Bool) : b = true ∨ b = false := by cases b <;> simp
set_option maxHeartbeats 1600000 in
theorem rsames_any (k : Nat) (D : Option Addr) (d dc : Nat) (ds : List UInt8) (k' : Nat) (D' : Option Addr) (d' dc' : Nat) (ds' : List UInt8) (w : World) (hd : ds.length = d) (hd' : ds'.length = d') (hD : Rd w D (bys ds)) (hD' : Rd w D' (bys ds')) :
    Calls Try.prog 19 #[resv k D d dc, resv k' D' d' dc'] w fun e w' => e = .returned (.bool (eqR k ds k' ds')) ∧ Below w.heap.size w w' := by
  have hb0 : Below w.heap.size w ((w.alloc (.cells #[.int .u8 k, .slice D d dc] 33)).alloc (.cells #[.int .u8 k', .slice D' d' dc'] 33)) := ((Below.refl _ _).alloc (Nat.le_refl _) _).alloc (by simp) _
  have c1 := convB dc hd (hD.below hb0)
  have c2 := convB dc' hd' (hD'.below hb0)
  clear hd hd'
  rcases bool_or ((k : Int) == (k' : Int)) with q1 | q1
  · rcases bool_or (ds == ds') with q4 | q4
    all_goals
      have hF : eqR k ds k' ds' = (ds == ds') := by unfold eqR; rw [q1]; rfl
      rw [q4] at hF
      have HF := hide hF
      clear hF
      go_enter Try.func19, Try.ntmps19
      go_wp2
      go_ret
      exact ⟨by rw [HF.out]; rfl, hb0⟩
  · have HF := hide (show eqR k ds k' ds' = false by unfold eqR; rw [q1]; rfl)
    go_enter Try.func19, Try.ntmps19
    go_wp2
    go_ret
    exact ⟨by rw [HF.out]; rfl, hb0⟩
theorem tCalls : SlT Try.prog 23 35 5 56 := slT_mk Try.underlying23 (z := .agg #[.bool false, .int .i64 0, .int .i64 0, .int .u8 0, .slice none 0 0]) (by kernel_rfl) rfl (by decide)
theorem below_drewN {B : Nat} {w w' : World} (h : Below B w w') (n : Nat) : Below B w (w'.drewN n) := ⟨h.os, h.tape, h.output, h.size, h.block⟩
theorem cellB {w w' : World} (hb : Below w.heap.size w w') {a : Addr} {u : Value} (h : w.cell? a = some u) : w'.cell? a = some u := (hb.cell (p := a) (World.block_lt_of_cell? w _ h)).trans h
theorem own_lt {w : World} {base e size n : Nat} {v : Value} {xs : List Value} (h : w.ownsRow base e size v n xs) : ∀ g, v.ownBlock = some g → base ≤ g ∧ g < w.heap.size := by
  intro g hg
  rcases h.2 with ⟨rfl, _⟩ | ⟨g', cap, cur, rfl, hbg, hgg, _⟩
  · simp [Value.ownBlock] at hg
  · simp [Value.ownBlock] at hg
    subst hg
    exact ⟨hbg, (Array.getElem?_eq_some_iff.1 hgg).1⟩
theorem own_grown {w w' : World} {base e size n : Nat} {v : Value} {xs : List Value} {row : Option Nat} (h : w.ownsRow base e size v n xs) (hg : w.grownBy w' row) (hne : ∀ g, v.ownBlock = some g → row ≠ some g) : w'.ownsRow base e size v n xs := by
  refine ⟨h.1, ?_⟩
  rcases h.2 with h2 | ⟨g, cap, cur, rfl, hbg, hgg, r⟩
  · exact .inl h2
  · exact .inr ⟨g, cap, cur, rfl, hbg, (hg.block g (Array.getElem?_eq_some_iff.1 hgg).1 (fun e => hne g rfl e.symm)).trans hgg, r⟩
theorem Apart.fresh {w : World} {B t bm n : Nat} {D : DataW Value} {m : TM} (h : TabIs w B t bm n D m) {g : Nat} (hg : w.heap.size ≤ g) : Apart D m (some g) := by
  intro c s k bs A d dc hm hat hne a ha e
  have := h.at_ c
  rw [hm] at this
  obtain ⟨_, _, A', d', dc', q1, _, _, _, _, q6, _⟩ := this
  rw [hat] at q1
  injection q1 with q1
  injection q1 with q1
  have q2 := congrArg Array.toList q1
  simp at q2
  obtain ⟨q3, _, _⟩ := q2
  rw [← q3] at q6
  have := rd_ltB q6 hne a ha
  injection e with e
  omega
theorem Apart.none {D : DataW Value} {m : TM} : Apart D m none := fun c s k bs A d dc _ _ _ a _ e => by cases e
/-- Is there one of the same client between? -/
def LaterTo (L : Dne) (j kk : Nat) (c : Int) : Prop := ∃ j' e', j < j' ∧ j' < kk ∧ L[j']? = some e' ∧ e'.1 = c
theorem laterTo_all {L : Dne} {j : Nat} {c : Int} : LaterTo L j L.length c ↔ Later L j c := by
  constructor
  · rintro ⟨j', e', h1, _, h2, h3⟩; exact ⟨j', e', h1, h2, h3⟩
  · rintro ⟨j', e', h1, h2, h3⟩; exact ⟨j', e', h1, (List.getElem?_eq_some_iff.1 h2).1, h2, h3⟩
theorem laterTo_step {L : Dne} {j kk : Nat} {c : Int} {e : Int × Int × Nat × List UInt8} (hj : j < kk) (he : L[kk]? = some e) : LaterTo L j (kk + 1) c ↔ LaterTo L j kk c ∨ e.1 = c := by
  constructor
  · rintro ⟨j', e', h1, h2, h3, h4⟩
    by_cases hk : j' = kk
    · subst hk; rw [he] at h3; injection h3 with h3; subst h3; exact .inr h4
    · exact .inl ⟨j', e', h1, by omega, h3, h4⟩
  · rintro (⟨j', e', h1, h2, h3, h4⟩ | h)
    · exact ⟨j', e', h1, by omega, h3, h4⟩
    · exact ⟨kk, e, hj, by omega, he, h⟩
set_option maxRecDepth 20000 in
set_option maxHeartbeats 64000000 in
theorem tableOnce_walk (A0 : Option Addr) (n0 c0 : Nat) (w : World) (hn0 : n0 ≤ c0) (hc0 : c0 ≤ 9223372036854775807) (hcl : ∀ i, i < n0 → ∃ a x, A0 = some a ∧ CallAt w (a.add (i * 5)) x) :
    Calls Try.prog 4 #[.slice A0 n0 c0] w fun x w' => x = .returned (.bool true) ∧ Below w.heap.size w w' := by
  have HAw := hide awake06_any
  go_enter Try.func4, Try.ntmps4
  go_wp2_with fail
  go_fit (HAw.out w)
  rintro x w1 ⟨rfl, hb1⟩
  go_wp2_with fail
  go_fit (new06_any w1)
  rintro x w2 ⟨t, bm, rfl, hT2, hb2⟩
  obtain ⟨B, hB⟩ : ∃ x, w1.heap.size = x := ⟨_, rfl⟩
  rw [hB] at hT2 hb2
  have hB2 : B ≤ w2.heap.size := by have := hb2.size; omega
  have hwB : w.heap.size ≤ B := by have := hb1.size; omega
  have HBq := hide hB
  clear hB
  go_wp2
  go_loopw [4, 5] (fun o iv wr => ∃ (i : Nat) (L : Dne) (cs : List Value) (D : DataW Value) (m : TM), i ≤ n0 ∧ i ≤ 200 ∧ L.length ≤ i ∧ iv = .int .i64 i ∧ wr.ownsRow B 35 5 o L.length cs ∧ ClRows wr B cs L ∧ TabIs wr B t bm L.length D m ∧ Dn L m ∧ Apart D m o.ownBlock ∧ some t ≠ o.ownBlock ∧ some bm ≠ o.ownBlock ∧ Below B w1 wr ∧ B ≤ wr.heap.size) (fun _ iv _ => n0 - (intOf iv).toNat)
  case atStart => exact ⟨0, [], [], .map [], _, by omega, by omega, by simp, rfl, World.ownsRow_nil _ _ _ _, ClRows.nil, hT2, Dn.nil _, Apart.none, by simp [Value.ownBlock], by simp [Value.ownBlock], hb2, hB2⟩
  case round =>
    obtain ⟨i, L, cs, D, m, hi1, hi2, hLi, rfl, hown, hCl, hT, hDn, hAp, hot, hobm, hbw, hBr⟩ := hrel
    clear hT2 hb2
    by_cases hlt : i < n0 ∧ i < 200
    · obtain ⟨hlt1, hlt2⟩ := hlt
      obtain ⟨a, xx, rfl, hca⟩ := hcl i hlt1
      obtain ⟨c, s, k, bs⟩ := xx
      obtain ⟨dn, A, d, dc, hk, k0, k1, k2, k3, k4, hd, hdc, hdm, hr⟩ := hca
      simp only at hk k1 k2 k3 hd hr
      have hbw' : Below w1.heap.size w1 wr := by rw [HBq.out]; exact hbw
      have hb0w : Below w.heap.size w wr := hb1.trans (hbw.mono hwB)
      have d0 := cellB hb0w k0
      have d1 := cellB hb0w k1
      have d2 := cellB hb0w k2
      have d3 := cellB hb0w k3
      have d4 := cellB hb0w k4
      have hAB : bs ≠ [] → ∀ a, A = some a → a.block < B := fun hne a ha => by have := rd_ltB hr hne a ha; omega
      have hrw := hr.below hb0w
      obtain ⟨gC, hgC⟩ : ∃ x, wr.heap.size = x := ⟨_, rfl⟩
      obtain ⟨wA, hwA⟩ : ∃ x, wr.alloc (.cells #[.bool dn, .int .i64 c, .int .i64 s, .int .u8 k, .slice A d dc] 35) = x := ⟨_, rfl⟩
      have hCb : Blk wA gC [.bool dn, .int .i64 c, .int .i64 s, .int .u8 k, .slice A d dc] 35 := by rw [← hwA, ← hgC]; exact Blk.new wr [.bool dn, .int .i64 c, .int .i64 s, .int .u8 k, .slice A d dc] _
      have hbA : Below wr.heap.size wr wA := by rw [← hwA]; exact (Below.refl _ _).alloc (Nat.le_refl _) _
      have hTA := hT.below hbA
      have szA := hbA.size
      have tl := hT.blk.lt
      have bl := hT.own.lt
      have hBA : Below B w1 wA := hbw.trans (hbA.mono hBr)
      have HwA := hide hwA
      clear hwA k0 k1 k2 k3 k4
      have hlo := own_lt hown
      rcases put_two hTA c s k A d dc bs hk hd hdc hdm (hrw.below hbA) (by omega) with ⟨E, hE, C⟩ | ⟨hTk, C⟩
      · have q1 : (E == 0) = false := by simpa using hE
        have HC := hide C
        clear C hE
        go_wp2_with fail
        rw [HwA.out]
        go_fit HC.out
        rintro x w4 ⟨rfl, hb4⟩
        have hb14 : Below wr.heap.size wr w4 := hbA.trans (hb4.mono szA)
        have sz4 := hb14.size
        have hB4 := hbw.trans (hb14.mono hBr)
        go_wp2
        go_roundw
        case rel => exact ⟨i + 1, L, cs, D, m, by omega, by omega, by omega, by go_num, own_below hown hb14, hCl.keep (hb14.mono hBr), hT.below hb14, hDn, hAp, hot, hobm, hB4, by omega⟩
        case measure => simp [intOf]; omega
      · have HC := hide C
        have Hd := hide hd
        clear C hd
        go_wp2_with fail
        rw [HwA.out]
        go_fit HC.out
        rintro x w4 ⟨rfl, ⟨A4, c4, hT4, hA4⟩, hg4, sz4, hbb⟩
        have hB4 := hbb w1 hBA (by omega)
        have hBB : Below B wr w4 := hbb wr (hbA.mono hBr) (by omega)
        have hown4 := own_grown (own_below hown hbA) hg4 (fun g hg e => hobm (by rw [hg]; exact e))
        have hC4 : Blk w4 gC _ _ := (hg4.block gC hCb.lt (by intro e; injection e with e; omega)).trans hCb
        have hAp4 := hAp.put hTA (c := c) (s := s) (k := k) (bs := bs) (A := A4) (d := d) (dc := c4) (fun g hg => by have := (hlo g hg).2; omega) hA4
        obtain ⟨wN, hwN⟩ : ∃ x, w4.alloc (.cells #[.bool dn, .int .i64 c, .int .i64 s, .int .u8 k, .slice A d dc] 35) = x := ⟨_, rfl⟩
        have hbN : Below w4.heap.size w4 wN := by rw [← hwN]; exact (Below.refl _ _).alloc (Nat.le_refl _) _
        have hrN : Rd wN (some ⟨w4.heap.size, 0, none⟩) [.bool dn, .int .i64 c, .int .i64 s, .int .u8 k, .slice A d dc] := by rw [← hwN]; exact Rd.newN w4 [.bool dn, .int .i64 c, .int .i64 s, .int .u8 k, .slice A d dc] _ (0, 0)
        have szN := hbN.size
        have hTN := hT4.below hbN
        have hownN := own_below hown4 hbN
        have hloN := own_lt hownN
        have HwN := hide hwN
        have hCc := hC4.range
        have y0 := Blk.cell hC4 (j := 0) rfl
        have y1 := Blk.cell hC4 (j := 1) rfl
        have y2 := Blk.cell hC4 (j := 2) rfl
        have y3 := Blk.cell hC4 (j := 3) rfl
        have y4 := Blk.cell hC4 (j := 4) rfl
        clear hwN HC hbb
        go_wp2_with (first | (with_reducible refine stop_append rfl ?_) | (with_reducible refine stop_copy rfl ?_) | (with_reducible refine stop_make rfl ?_))
        rw [HwN.out]
        refine go_append (v := u4) rfl rfl tCalls rfl hownN rfl (m := 1) (news := [.bool dn, .int .i64 c, .int .i64 s, .int .u8 k, .slice A d dc]) rfl hrN (by intro u hu; simp at hu; rcases hu with rfl | rfl | rfl | rfl | rfl <;> rfl) (by omega) (by omega) (by omega) ?_
        intro v5 w5 hown5 hg5 hv5
        have sz5 := hg5.size
        have hT5 := hTN.grown hg5 hot hobm hAp4
        have hb5 : Below B w1 w5 := (hB4.trans (hbN.mono (by omega))).grown hg5 (by omega) (fun q hq => (hlo q hq).1)
        have hb5r : Below B wr w5 := (hBB.trans (hbN.mono (by omega))).grown hg5 (by omega) (fun q hq => (hlo q hq).1)
        have hCl5 := (hCl.keep hb5r).snoc (dn := dn) (c := c) (s := s) (k := k) (A := A) (dc := dc) hk Hd.out (rd_loB hrw hb5r hAB) hTk.1 hTk.2.1 hAB
        have hAp5 : Apart (D.put (.int .i64 c) (.held (entV s k A4 d c4))) (tmPut m c s k bs) v5.ownBlock := by
          rcases hv5 with e | e
          · rw [e]; exact hAp4
          · rw [e]; exact Apart.fresh hTN (Nat.le_refl _)
        have hot5 : some t ≠ v5.ownBlock := by
          rcases hv5 with e | e
          · rw [e]; exact hot
          · rw [e]; intro e2; injection e2 with e2; have := hTN.blk.lt; omega
        have hobm5 : some bm ≠ v5.ownBlock := by
          rcases hv5 with e | e
          · rw [e]; exact hobm
          · rw [e]; intro e2; injection e2 with e2; have := hTN.own.lt; omega
        go_wp2
        go_roundw
        case rel => exact ⟨i + 1, L ++ [(c, s, k, bs)], _, _, tmPut m c s k bs, by omega, by omega, by simp; omega, by go_num, by simpa using hown5, hCl5, by simpa using hT5, hDn.push hTk, hAp5, hot5, hobm5, hb5, by omega⟩
        case measure => simp [intOf]; omega
    · obtain ⟨A1, c1, rfl, hl1, hc1, hcm1, hr1, ha1⟩ := own_out hown
      have hll : cs.length = 5 * L.length := hCl.1
      rcases (show i = n0 ∨ (i < n0 ∧ i = 200) by omega) with rfl | ⟨hl2, rfl⟩
      · clear hlt hot hobm hAp
        obtain ⟨wR, hwR⟩ : ∃ x, x = wr := ⟨_, rfl⟩
        subst hwR
        go_wp2
        go_loopw [7] (fun iv wx => ∃ (j : Nat), j ≤ L.length ∧ iv = .int .i64 j ∧ Below wR.heap.size wR wx) (fun iv _ => L.length - (intOf iv).toNat)
        case atStart => exact ⟨0, by omega, rfl, Below.refl _ _⟩
        case round =>
          obtain ⟨j, hj, rfl, hbx⟩ := hrel
          obtain ⟨wX, hwX⟩ : ∃ x, x = wr := ⟨_, rfl⟩
          subst hwX
          by_cases hjl : j < L.length
          · obtain ⟨e, he⟩ : ∃ e, L[j]? = some e := ⟨_, List.getElem?_eq_getElem hjl⟩
            obtain ⟨dn, A, d, dc, p0, p1, p2, p3, p4, hk, hd, hr, hsc, hss, hAB⟩ := (hCl.keep (hbx.mono hBr)).2 j e he
            obtain ⟨s1, k1, b1, hm1, hle1, hla1, hno1⟩ := hDn j e he
            obtain ⟨a, rfl, hat⟩ := (hr1.below hbx).some_of (xs := cs) (by omega)
            have hTx := hT.below hbx
            have hrwr := hr1
            obtain ⟨c, s, k, bs⟩ := e
            simp only at p1 p2 p3 hk hd hr hsc hss hAB hm1 hle1 hla1 hno1
            have y1 := rd5_S (i := 0) hat p1
            have y2 := rd5_S (i := 1) hat p2
            have hjI : (j : Int) < (L.length : Int) := by omega
            have hHat : ∀ X, Below wR.heap.size wR X → ∀ q u, cs[q]? = some u → X.cell? (a.add q) = some u := fun X hX q u hu => (hr1.below hX).at_ hu
            have HHat := hide hHat
            have HCl := hide (show ∀ X, Below wR.heap.size wR X → Rd X A (bys bs) from fun X hX => by
              obtain ⟨dn', A', d', dc', _, _, _, _, p4', _, _, hr', _⟩ := (hCl.keep (hX.mono hBr)).2 j _ he
              rw [p4] at p4'; injection p4' with p4'; injection p4' with e1 e2 e3; subst e1; exact hr')
            have szx := hbx.size
            have HTB := hide (show ∀ X, Below wX.heap.size wX X → TabIs X B t bm L.length D m from fun X hX => hTx.below hX)
            have Mk := hide (show ∀ X, Below wX.heap.size wX X → (Below wX.heap.size wX X ∧ X.cell? ⟨(a.add (j * 5)).block, (a.add (j * 5)).off + 1, none⟩ = some (.int .i64 c) ∧ X.cell? ⟨(a.add (j * 5)).block, (a.add (j * 5)).off + 2, none⟩ = some (.int .i64 s)) from fun X hX => ⟨hX, cellB hX y1, cellB hX y2⟩)
            have MkA := hide (show ∀ X o, (Below wX.heap.size wX X ∧ X.cell? ⟨(a.add (j * 5)).block, (a.add (j * 5)).off + 1, none⟩ = some (.int .i64 c) ∧ X.cell? ⟨(a.add (j * 5)).block, (a.add (j * 5)).off + 2, none⟩ = some (.int .i64 s)) → (Below wX.heap.size wX (X.alloc o) ∧ (X.alloc o).cell? ⟨(a.add (j * 5)).block, (a.add (j * 5)).off + 1, none⟩ = some (.int .i64 c) ∧ (X.alloc o).cell? ⟨(a.add (j * 5)).block, (a.add (j * 5)).off + 2, none⟩ = some (.int .i64 s)) from fun X o h => Mk.out _ (h.1.alloc h.1.size _))
            have MkS := hide (show ∀ X g q u, wX.heap.size ≤ g → (Below wX.heap.size wX X ∧ X.cell? ⟨(a.add (j * 5)).block, (a.add (j * 5)).off + 1, none⟩ = some (.int .i64 c) ∧ X.cell? ⟨(a.add (j * 5)).block, (a.add (j * 5)).off + 2, none⟩ = some (.int .i64 s)) → (Below wX.heap.size wX (X.setCell ⟨g, q, none⟩ u) ∧ (X.setCell ⟨g, q, none⟩ u).cell? ⟨(a.add (j * 5)).block, (a.add (j * 5)).off + 1, none⟩ = some (.int .i64 c) ∧ (X.setCell ⟨g, q, none⟩ u).cell? ⟨(a.add (j * 5)).block, (a.add (j * 5)).off + 2, none⟩ = some (.int .i64 s)) from fun X g q u hg h => Mk.out _ (h.1.setCell (leBk hg) _))
            have S0 := Mk.out wX.drew (Below.refl _ _).drew
            by_cases hLa : Later L j c
            · have HA := hide (fun W (hW : TabIs W B t bm L.length D m) => ask_old hW c s s1 k1 b1 hsc hss hm1 (hla1 hLa))
              have Hd := hide hd
              have HLa := hide hLa
              clear hHat hd hno1 hla1 hLa hAB hle1 hm1
              go_wp2_with fail
              go_region_held_law (fun W => Below wX.heap.size wX W ∧ W.cell? ⟨(a.add (j * 5)).block, (a.add (j * 5)).off + 1, none⟩ = some (.int .i64 c) ∧ W.cell? ⟨(a.add (j * 5)).block, (a.add (j * 5)).off + 2, none⟩ = some (.int .i64 s)) (first | assumption | exact MkA.out _ _ (by assumption) | exact MkS.out _ _ _ _ (Nat.le_refl _) (MkS.out _ _ _ _ (Nat.le_refl _) (by assumption)) | exact MkS.out _ _ _ _ (by assumption) (MkS.out _ _ _ _ (by assumption) (by assumption)) | exact MkS.out _ _ _ _ (Nat.le_refl _) (by assumption) | exact MkS.out _ _ _ _ (by assumption) (by assumption)) (first
                | (go_at_call 18; refine (HA.out _ (HTB.out _ (by first | exact (Below.refl _ _).drew | exact ((Below.refl _ _).alloc (Nat.le_refl _) _).drew))).mono ?_; rintro x w4 ⟨A4, c4, rfl, hl4, hm4, hd4, hr4, ha4, hT4, hb4⟩; have hs4 := Mk.out w4 (by first | exact (⟨hb4.os, hb4.tape, hb4.output, hb4.size, hb4.block⟩ : Below wX.heap.size wX w4) | exact (((Below.refl _ _).alloc (Nat.le_refl _) _).drew).trans (hb4.mono (by simp))); have sz4 := (And.left hs4).size; (try have hZ4 := (show Blk ((wX.alloc (.cells #[.int .u8 0, .slice none 0 0] 33)).drew) wX.heap.size [.int .u8 0, .slice none 0 0] 33 from Blk.new _ _ _).below hb4); (try have z0 := hZ4.cell (j := 0) rfl); (try have z1 := hZ4.cell (j := 1) rfl); (try have f0 := hZ4.frozen 0); (try have f1 := hZ4.frozen 1)))
              all_goals
                go_wp2_with fail
                first
                | (obtain ⟨g9, hg9⟩ : ∃ x, w4.heap.size = x := ⟨_, rfl⟩
                   obtain ⟨w9, hw9⟩ : ∃ x, w4.alloc (.cells #[.int .u8 0, .slice A4 0 c4] 33) = x := ⟨_, rfl⟩
                   have hR9 : Blk w9 g9 [.int .u8 0, .slice A4 0 c4] 33 := by rw [← hw9, ← hg9]; exact Blk.new w4 [.int .u8 0, .slice A4 0 c4] _
                   have hb49 : Below w4.heap.size w4 w9 := by rw [← hw9]; exact (Below.refl _ _).alloc (Nat.le_refl _) _
                   have hb9 : Below wX.heap.size wX w9 := (And.left hs4).trans (hb49.mono sz4)
                   have hr49 : Rd w9 A4 (bys []) := hr4.below hb49
                   have Hw9 := hide hw9
                   clear hw9
                   rw [Hw9.out]
                   rw [hg9])
                | (obtain ⟨g9, hg9⟩ : ∃ x, wX.heap.size = x := ⟨_, rfl⟩
                   obtain ⟨w9, hw9⟩ : ∃ x, (w4.setCell ⟨wX.heap.size, 0, none⟩ (.int .u8 0)).setCell ⟨wX.heap.size, 1, none⟩ (.slice A4 0 c4) = x := ⟨_, rfl⟩
                   have hR9 : Blk w9 g9 [.int .u8 0, .slice A4 0 c4] 33 := by rw [← hw9, ← hg9]; exact (hZ4.set 0 _).set 1 _
                   have hb9 : Below wX.heap.size wX w9 := by rw [← hw9]; exact ((And.left hs4).setCell (leBk (Nat.le_refl _)) _).setCell (leBk (Nat.le_refl _)) _
                   have hr49 : Rd w9 A4 (bys []) := by rw [← hw9]; exact (hr4.upset (B := wX.heap.size + 1) (fun a ha => by simpa using ha4 a ha) (Nat.lt_succ_self _)).upset (B := wX.heap.size + 1) (fun a ha => by simpa using ha4 a ha) (Nat.lt_succ_self _)
                   have Hw9 := hide hw9
                   clear hw9 z0 z1 f0 f1 hZ4
                   rw [Hw9.out]
                   rw [hg9])
                have hbr9 : Below wR.heap.size wR w9 := hbx.trans (hb9.mono szx)
                clear y1 y2 hs4 S0
                go_loopw [11, 12] (fun lv kv wz => ∃ (kk : Nat) (b : Bool), j + 1 ≤ kk ∧ kk ≤ L.length ∧ kv = .int .i64 kk ∧ lv = .bool b ∧ (b = true ↔ ¬ LaterTo L j kk c) ∧ Below w9.heap.size w9 wz) (fun _ kv _ => L.length - (intOf kv).toNat)
                case atStart => exact ⟨j + 1, true, by omega, by omega, by go_num, rfl, ⟨fun _ ⟨j', e', h1, h2, _⟩ => by omega, fun _ => rfl⟩, Below.refl _ _⟩
                case round =>
                  obtain ⟨kk, b, hk1, hk2, rfl, rfl, hbk, hbz⟩ := hrel
                  have hbrz : Below wR.heap.size wR wr := hbr9.trans (hbz.mono hbr9.size)
                  have hatz := HHat.out _ hbrz
                  by_cases hkl : kk < L.length
                  · obtain ⟨e2, he2⟩ : ∃ e, L[kk]? = some e := ⟨_, List.getElem?_eq_getElem hkl⟩
                    obtain ⟨dn2, A2, d2, dc2, r0, r1, r2, r3, r4, _⟩ := (hCl.keep (hbrz.mono hBr)).2 kk e2 he2
                    have hst := laterTo_step (c := c) (show j < kk by omega) he2
                    obtain ⟨x2, s2, k2, b2⟩ := e2
                    simp only at r1 hst
                    have z1 := rd5_S (i := 0) hatz p1
                    have z2 := rd5_S (i := 0) hatz r1
                    have hkI : (kk : Int) < (L.length : Int) := by omega
                    cases b with
                    | true =>
                      by_cases hx : x2 = c
                      · have q1 : (x2 != c) = false := by simpa using hx
                        have hfin : (false = true ↔ ¬ LaterTo L j (kk + 1) c) := by rw [hst]; simp [hx]
                        have Hf := hide hfin
                        clear hfin hst hbk hx
                        go_wp2_with fail
                        go_quiet (fail)
                        go_wp2
                        go_roundw
                        case rel => exact ⟨kk + 1, false, by omega, by omega, by go_num, rfl, Hf.out, below_drewN hbz _⟩
                        case measure => simp [intOf]; omega
                      · have q1 : (x2 != c) = true := by simpa using hx
                        have hfin : ¬ LaterTo L j (kk + 1) c := by rw [hst]; have := hbk.1 rfl; simp [hx, this]
                        have Hf := hide hfin
                        clear hfin hst hbk hx
                        go_wp2_with fail
                        go_quiet (fail)
                        go_wp2
                        go_roundw
                        case rel => exact ⟨kk + 1, true, by omega, by omega, by go_num, rfl, ⟨fun _ => Hf.out, fun _ => rfl⟩, below_drewN hbz _⟩
                        case measure => simp [intOf]; omega
                    | false =>
                      have hfin : (false = true ↔ ¬ LaterTo L j (kk + 1) c) := by
                        rw [hst]
                        simp at hbk
                        simp [hbk]
                      have Hf := hide hfin
                      clear hfin hst hbk
                      go_wp2_with fail
                      go_quiet (fail)
                      go_wp2
                      go_roundw
                      case rel => exact ⟨kk + 1, false, by omega, by omega, by go_num, rfl, Hf.out, below_drewN hbz _⟩
                      case measure => simp [intOf]; omega
                  · obtain rfl : kk = L.length := by omega
                    rw [laterTo_all] at hbk
                    obtain rfl : b = false := by
                      cases b with
                      | true => exact absurd HLa.out (hbk.1 rfl)
                      | false => rfl
                    have sz9 := hbrz.size
                    clear hbk
                    go_wp2_with fail
                    go_quiet (fail)
                    go_wp2
                    go_roundw
                    case rel => exact ⟨j + 1, by omega, by go_num, below_drewN hbrz _⟩
                    case measure => simp [intOf]; omega
            · have hb := hno1 hLa
              injection hb with e1 e2
              injection e2 with e2 e3
              subst e1 e2 e3
              have HA := hide (fun W (hW : TabIs W B t bm L.length D m) => ask_again hW c s1 k1 b1 hsc hss hm1)
              have Hd := hide hd
              have HLa := hide hLa
              clear hHat hd hno1 hla1 hLa hAB hle1 hm1
              go_wp2_with fail
              go_region_held_law (fun W => Below wX.heap.size wX W ∧ W.cell? ⟨(a.add (j * 5)).block, (a.add (j * 5)).off + 1, none⟩ = some (.int .i64 c) ∧ W.cell? ⟨(a.add (j * 5)).block, (a.add (j * 5)).off + 2, none⟩ = some (.int .i64 s1)) (first | assumption | exact MkA.out _ _ (by assumption) | exact MkS.out _ _ _ _ (Nat.le_refl _) (MkS.out _ _ _ _ (Nat.le_refl _) (by assumption)) | exact MkS.out _ _ _ _ (by assumption) (MkS.out _ _ _ _ (by assumption) (by assumption)) | exact MkS.out _ _ _ _ (Nat.le_refl _) (by assumption) | exact MkS.out _ _ _ _ (by assumption) (by assumption)) (first
                | (go_at_call 18; refine (HA.out _ (HTB.out _ (by first | exact (Below.refl _ _).drew | exact ((Below.refl _ _).alloc (Nat.le_refl _) _).drew))).mono ?_; rintro x w4 ⟨A4, c4, rfl, hl4, hm4, hd4, hr4, ha4, hT4, hb4⟩; have hs4 := Mk.out w4 (by first | exact (⟨hb4.os, hb4.tape, hb4.output, hb4.size, hb4.block⟩ : Below wX.heap.size wX w4) | exact (((Below.refl _ _).alloc (Nat.le_refl _) _).drew).trans (hb4.mono (by simp))); have sz4 := (And.left hs4).size; (try have hZ4 := (show Blk ((wX.alloc (.cells #[.int .u8 0, .slice none 0 0] 33)).drew) wX.heap.size [.int .u8 0, .slice none 0 0] 33 from Blk.new _ _ _).below hb4); (try have z0 := hZ4.cell (j := 0) rfl); (try have z1 := hZ4.cell (j := 1) rfl); (try have f0 := hZ4.frozen 0); (try have f1 := hZ4.frozen 1)))
              all_goals
                go_wp2_with fail
                first
                | (obtain ⟨g9, hg9⟩ : ∃ x, w4.heap.size = x := ⟨_, rfl⟩
                   obtain ⟨w9, hw9⟩ : ∃ x, w4.alloc (.cells #[.int .u8 k1, .slice A4 b1.length c4] 33) = x := ⟨_, rfl⟩
                   have hR9 : Blk w9 g9 [.int .u8 k1, .slice A4 b1.length c4] 33 := by rw [← hw9, ← hg9]; exact Blk.new w4 [.int .u8 k1, .slice A4 b1.length c4] _
                   have hb49 : Below w4.heap.size w4 w9 := by rw [← hw9]; exact (Below.refl _ _).alloc (Nat.le_refl _) _
                   have hb9 : Below wX.heap.size wX w9 := (And.left hs4).trans (hb49.mono sz4)
                   have hr49 : Rd w9 A4 (bys b1) := hr4.below hb49
                   have Hw9 := hide hw9
                   clear hw9
                   rw [Hw9.out]
                   rw [hg9])
                | (obtain ⟨g9, hg9⟩ : ∃ x, wX.heap.size = x := ⟨_, rfl⟩
                   obtain ⟨w9, hw9⟩ : ∃ x, (w4.setCell ⟨wX.heap.size, 0, none⟩ (.int .u8 k1)).setCell ⟨wX.heap.size, 1, none⟩ (.slice A4 b1.length c4) = x := ⟨_, rfl⟩
                   have hR9 : Blk w9 g9 [.int .u8 k1, .slice A4 b1.length c4] 33 := by rw [← hw9, ← hg9]; exact (hZ4.set 0 _).set 1 _
                   have hb9 : Below wX.heap.size wX w9 := by rw [← hw9]; exact ((And.left hs4).setCell (leBk (Nat.le_refl _)) _).setCell (leBk (Nat.le_refl _)) _
                   have hr49 : Rd w9 A4 (bys b1) := by rw [← hw9]; exact (hr4.upset (B := wX.heap.size + 1) (fun a ha => by simpa using ha4 a ha) (Nat.lt_succ_self _)).upset (B := wX.heap.size + 1) (fun a ha => by simpa using ha4 a ha) (Nat.lt_succ_self _)
                   have Hw9 := hide hw9
                   clear hw9 z0 z1 f0 f1 hZ4
                   rw [Hw9.out]
                   rw [hg9])
                have hbr9 : Below wR.heap.size wR w9 := hbx.trans (hb9.mono szx)
                clear y1 y2 hs4 S0
                go_loopw [11, 12] (fun lv kv wz => ∃ (kk : Nat) (b : Bool), j + 1 ≤ kk ∧ kk ≤ L.length ∧ kv = .int .i64 kk ∧ lv = .bool b ∧ (b = true ↔ ¬ LaterTo L j kk c) ∧ Below w9.heap.size w9 wz) (fun _ kv _ => L.length - (intOf kv).toNat)
                case atStart => exact ⟨j + 1, true, by omega, by omega, by go_num, rfl, ⟨fun _ ⟨j', e', h1, h2, _⟩ => by omega, fun _ => rfl⟩, Below.refl _ _⟩
                case round =>
                  obtain ⟨kk, b, hk1, hk2, rfl, rfl, hbk, hbz⟩ := hrel
                  have hbrz : Below wR.heap.size wR wr := hbr9.trans (hbz.mono hbr9.size)
                  have hatz := HHat.out _ hbrz
                  by_cases hkl : kk < L.length
                  · obtain ⟨e2, he2⟩ : ∃ e, L[kk]? = some e := ⟨_, List.getElem?_eq_getElem hkl⟩
                    obtain ⟨dn2, A2, d2, dc2, r0, r1, r2, r3, r4, _⟩ := (hCl.keep (hbrz.mono hBr)).2 kk e2 he2
                    have hst := laterTo_step (c := c) (show j < kk by omega) he2
                    obtain ⟨x2, s2, k2, b2⟩ := e2
                    simp only at r1 hst
                    have z1 := rd5_S (i := 0) hatz p1
                    have z2 := rd5_S (i := 0) hatz r1
                    have hkI : (kk : Int) < (L.length : Int) := by omega
                    cases b with
                    | true =>
                      by_cases hx : x2 = c
                      · have q1 : (x2 != c) = false := by simpa using hx
                        have hfin : (false = true ↔ ¬ LaterTo L j (kk + 1) c) := by rw [hst]; simp [hx]
                        have Hf := hide hfin
                        clear hfin hst hbk hx
                        go_wp2_with fail
                        go_quiet (fail)
                        go_wp2
                        go_roundw
                        case rel => exact ⟨kk + 1, false, by omega, by omega, by go_num, rfl, Hf.out, below_drewN hbz _⟩
                        case measure => simp [intOf]; omega
                      · have q1 : (x2 != c) = true := by simpa using hx
                        have hfin : ¬ LaterTo L j (kk + 1) c := by rw [hst]; have := hbk.1 rfl; simp [hx, this]
                        have Hf := hide hfin
                        clear hfin hst hbk hx
                        go_wp2_with fail
                        go_quiet (fail)
                        go_wp2
                        go_roundw
                        case rel => exact ⟨kk + 1, true, by omega, by omega, by go_num, rfl, ⟨fun _ => Hf.out, fun _ => rfl⟩, below_drewN hbz _⟩
                        case measure => simp [intOf]; omega
                    | false =>
                      have hfin : (false = true ↔ ¬ LaterTo L j (kk + 1) c) := by
                        rw [hst]
                        simp at hbk
                        simp [hbk]
                      have Hf := hide hfin
                      clear hfin hst hbk
                      go_wp2_with fail
                      go_quiet (fail)
                      go_wp2
                      go_roundw
                      case rel => exact ⟨kk + 1, false, by omega, by omega, by go_num, rfl, Hf.out, below_drewN hbz _⟩
                      case measure => simp [intOf]; omega
                  · obtain rfl : kk = L.length := by omega
                    rw [laterTo_all] at hbk
                    obtain rfl : b = true := by
                      cases b with
                      | true => rfl
                      | false => exact absurd (hbk.2 HLa.out) (by simp)
                    have sz9 := hbrz.size
                    clear hbk
                    have x0 := (hR9.below hbz).cell (j := 0) rfl
                    have x1 := (hR9.below hbz).cell (j := 1) rfl
                    have z3 := rd5_S (i := 2) hatz p3
                    have z4 := rd5_S (i := 3) hatz p4
                    have hrz := hr49.below hbz
                    have hrA := HCl.out _ hbrz
                    have Mk2 := hide (show ∀ X, Below wr.heap.size wr X → (Below wr.heap.size wr X ∧ X.cell? ⟨g9, 0, none⟩ = some (.int .u8 k1) ∧ X.cell? ⟨g9, 1, none⟩ = some (.slice A4 b1.length c4) ∧ X.cell? ⟨(a.add (j * 5)).block, (a.add (j * 5)).off + 3, none⟩ = some (.int .u8 k1) ∧ X.cell? ⟨(a.add (j * 5)).block, (a.add (j * 5)).off + 4, none⟩ = some (.slice A d dc)) from fun X hX => ⟨hX, cellB hX x0, cellB hX x1, cellB hX z3, cellB hX z4⟩)
                    have S2 := Mk2.out wr.drew (Below.refl _ _).drew
                    clear hR9 hCl hDn HCl hr1 hrwr hTx hT HTB Mk MkA MkS HA hatz hat hbz
                    go_wp2_with fail
                    first
                      | (go_region_held_law (fun W => Below wr.heap.size wr W ∧ W.cell? ⟨g9, 0, none⟩ = some (.int .u8 k1) ∧ W.cell? ⟨g9, 1, none⟩ = some (.slice A4 b1.length c4) ∧ W.cell? ⟨(a.add (j * 5)).block, (a.add (j * 5)).off + 3, none⟩ = some (.int .u8 k1) ∧ W.cell? ⟨(a.add (j * 5)).block, (a.add (j * 5)).off + 4, none⟩ = some (.slice A d dc)) (assumption) (first
                          | (go_at_call 19; refine (rsames_any k1 A4 b1.length c4 b1 k1 A d dc b1 _ rfl Hd.out (by exact hrz.drew) (by exact hrA.drew)).mono ?_; rw [eqR_self]; rintro x wq ⟨rfl, hbq⟩; have hsq := Mk2.out wq (⟨hbq.os, hbq.tape, hbq.output, hbq.size, hbq.block⟩ : Below wr.heap.size wr wq))))
                      | fail
                    all_goals
                      have hbq' : Below wR.heap.size wR wq := ⟨hbq.os.trans hbrz.os, hbq.tape.trans hbrz.tape, hbq.output.trans hbrz.output, Nat.le_trans hbrz.size hbq.size, fun q hq => (hbq.block q (Nat.lt_of_lt_of_le hq hbrz.size)).trans (hbrz.block q hq)⟩
                      go_wp2
                      go_roundw
                      case rel => exact ⟨j + 1, by omega, by go_num, hbq'⟩
                      case measure => simp [intOf]; omega
          · obtain rfl : j = L.length := by omega
            go_wp2
            go_ret
            exact ⟨rfl, hb1.trans ((hbw.trans (hbx.mono hBr)).mono hwB)⟩
      · clear hlt hot hobm hAp
        obtain ⟨wR, hwR⟩ : ∃ x, x = wr := ⟨_, rfl⟩
        subst hwR
        go_wp2
        go_loopw [7] (fun iv wx => ∃ (j : Nat), j ≤ L.length ∧ iv = .int .i64 j ∧ Below wR.heap.size wR wx) (fun iv _ => L.length - (intOf iv).toNat)
        case atStart => exact ⟨0, by omega, rfl, Below.refl _ _⟩
        case round =>
          obtain ⟨j, hj, rfl, hbx⟩ := hrel
          obtain ⟨wX, hwX⟩ : ∃ x, x = wr := ⟨_, rfl⟩
          subst hwX
          by_cases hjl : j < L.length
          · obtain ⟨e, he⟩ : ∃ e, L[j]? = some e := ⟨_, List.getElem?_eq_getElem hjl⟩
            obtain ⟨dn, A, d, dc, p0, p1, p2, p3, p4, hk, hd, hr, hsc, hss, hAB⟩ := (hCl.keep (hbx.mono hBr)).2 j e he
            obtain ⟨s1, k1, b1, hm1, hle1, hla1, hno1⟩ := hDn j e he
            obtain ⟨a, rfl, hat⟩ := (hr1.below hbx).some_of (xs := cs) (by omega)
            have hTx := hT.below hbx
            have hrwr := hr1
            obtain ⟨c, s, k, bs⟩ := e
            simp only at p1 p2 p3 hk hd hr hsc hss hAB hm1 hle1 hla1 hno1
            have y1 := rd5_S (i := 0) hat p1
            have y2 := rd5_S (i := 1) hat p2
            have hjI : (j : Int) < (L.length : Int) := by omega
            have hHat : ∀ X, Below wR.heap.size wR X → ∀ q u, cs[q]? = some u → X.cell? (a.add q) = some u := fun X hX q u hu => (hr1.below hX).at_ hu
            have HHat := hide hHat
            have HCl := hide (show ∀ X, Below wR.heap.size wR X → Rd X A (bys bs) from fun X hX => by
              obtain ⟨dn', A', d', dc', _, _, _, _, p4', _, _, hr', _⟩ := (hCl.keep (hX.mono hBr)).2 j _ he
              rw [p4] at p4'; injection p4' with p4'; injection p4' with e1 e2 e3; subst e1; exact hr')
            have szx := hbx.size
            have HTB := hide (show ∀ X, Below wX.heap.size wX X → TabIs X B t bm L.length D m from fun X hX => hTx.below hX)
            have Mk := hide (show ∀ X, Below wX.heap.size wX X → (Below wX.heap.size wX X ∧ X.cell? ⟨(a.add (j * 5)).block, (a.add (j * 5)).off + 1, none⟩ = some (.int .i64 c) ∧ X.cell? ⟨(a.add (j * 5)).block, (a.add (j * 5)).off + 2, none⟩ = some (.int .i64 s)) from fun X hX => ⟨hX, cellB hX y1, cellB hX y2⟩)
            have MkA := hide (show ∀ X o, (Below wX.heap.size wX X ∧ X.cell? ⟨(a.add (j * 5)).block, (a.add (j * 5)).off + 1, none⟩ = some (.int .i64 c) ∧ X.cell? ⟨(a.add (j * 5)).block, (a.add (j * 5)).off + 2, none⟩ = some (.int .i64 s)) → (Below wX.heap.size wX (X.alloc o) ∧ (X.alloc o).cell? ⟨(a.add (j * 5)).block, (a.add (j * 5)).off + 1, none⟩ = some (.int .i64 c) ∧ (X.alloc o).cell? ⟨(a.add (j * 5)).block, (a.add (j * 5)).off + 2, none⟩ = some (.int .i64 s)) from fun X o h => Mk.out _ (h.1.alloc h.1.size _))
            have MkS := hide (show ∀ X g q u, wX.heap.size ≤ g → (Below wX.heap.size wX X ∧ X.cell? ⟨(a.add (j * 5)).block, (a.add (j * 5)).off + 1, none⟩ = some (.int .i64 c) ∧ X.cell? ⟨(a.add (j * 5)).block, (a.add (j * 5)).off + 2, none⟩ = some (.int .i64 s)) → (Below wX.heap.size wX (X.setCell ⟨g, q, none⟩ u) ∧ (X.setCell ⟨g, q, none⟩ u).cell? ⟨(a.add (j * 5)).block, (a.add (j * 5)).off + 1, none⟩ = some (.int .i64 c) ∧ (X.setCell ⟨g, q, none⟩ u).cell? ⟨(a.add (j * 5)).block, (a.add (j * 5)).off + 2, none⟩ = some (.int .i64 s)) from fun X g q u hg h => Mk.out _ (h.1.setCell (leBk hg) _))
            have S0 := Mk.out wX.drew (Below.refl _ _).drew
            by_cases hLa : Later L j c
            · have HA := hide (fun W (hW : TabIs W B t bm L.length D m) => ask_old hW c s s1 k1 b1 hsc hss hm1 (hla1 hLa))
              have Hd := hide hd
              have HLa := hide hLa
              clear hHat hd hno1 hla1 hLa hAB hle1 hm1
              go_wp2_with fail
              go_region_held_law (fun W => Below wX.heap.size wX W ∧ W.cell? ⟨(a.add (j * 5)).block, (a.add (j * 5)).off + 1, none⟩ = some (.int .i64 c) ∧ W.cell? ⟨(a.add (j * 5)).block, (a.add (j * 5)).off + 2, none⟩ = some (.int .i64 s)) (first | assumption | exact MkA.out _ _ (by assumption) | exact MkS.out _ _ _ _ (Nat.le_refl _) (MkS.out _ _ _ _ (Nat.le_refl _) (by assumption)) | exact MkS.out _ _ _ _ (by assumption) (MkS.out _ _ _ _ (by assumption) (by assumption)) | exact MkS.out _ _ _ _ (Nat.le_refl _) (by assumption) | exact MkS.out _ _ _ _ (by assumption) (by assumption)) (first
                | (go_at_call 18; refine (HA.out _ (HTB.out _ (by first | exact (Below.refl _ _).drew | exact ((Below.refl _ _).alloc (Nat.le_refl _) _).drew))).mono ?_; rintro x w4 ⟨A4, c4, rfl, hl4, hm4, hd4, hr4, ha4, hT4, hb4⟩; have hs4 := Mk.out w4 (by first | exact (⟨hb4.os, hb4.tape, hb4.output, hb4.size, hb4.block⟩ : Below wX.heap.size wX w4) | exact (((Below.refl _ _).alloc (Nat.le_refl _) _).drew).trans (hb4.mono (by simp))); have sz4 := (And.left hs4).size; (try have hZ4 := (show Blk ((wX.alloc (.cells #[.int .u8 0, .slice none 0 0] 33)).drew) wX.heap.size [.int .u8 0, .slice none 0 0] 33 from Blk.new _ _ _).below hb4); (try have z0 := hZ4.cell (j := 0) rfl); (try have z1 := hZ4.cell (j := 1) rfl); (try have f0 := hZ4.frozen 0); (try have f1 := hZ4.frozen 1)))
              all_goals
                go_wp2_with fail
                first
                | (obtain ⟨g9, hg9⟩ : ∃ x, w4.heap.size = x := ⟨_, rfl⟩
                   obtain ⟨w9, hw9⟩ : ∃ x, w4.alloc (.cells #[.int .u8 0, .slice A4 0 c4] 33) = x := ⟨_, rfl⟩
                   have hR9 : Blk w9 g9 [.int .u8 0, .slice A4 0 c4] 33 := by rw [← hw9, ← hg9]; exact Blk.new w4 [.int .u8 0, .slice A4 0 c4] _
                   have hb49 : Below w4.heap.size w4 w9 := by rw [← hw9]; exact (Below.refl _ _).alloc (Nat.le_refl _) _
                   have hb9 : Below wX.heap.size wX w9 := (And.left hs4).trans (hb49.mono sz4)
                   have hr49 : Rd w9 A4 (bys []) := hr4.below hb49
                   have Hw9 := hide hw9
                   clear hw9
                   rw [Hw9.out]
                   rw [hg9])
                | (obtain ⟨g9, hg9⟩ : ∃ x, wX.heap.size = x := ⟨_, rfl⟩
                   obtain ⟨w9, hw9⟩ : ∃ x, (w4.setCell ⟨wX.heap.size, 0, none⟩ (.int .u8 0)).setCell ⟨wX.heap.size, 1, none⟩ (.slice A4 0 c4) = x := ⟨_, rfl⟩
                   have hR9 : Blk w9 g9 [.int .u8 0, .slice A4 0 c4] 33 := by rw [← hw9, ← hg9]; exact (hZ4.set 0 _).set 1 _
                   have hb9 : Below wX.heap.size wX w9 := by rw [← hw9]; exact ((And.left hs4).setCell (leBk (Nat.le_refl _)) _).setCell (leBk (Nat.le_refl _)) _
                   have hr49 : Rd w9 A4 (bys []) := by rw [← hw9]; exact (hr4.upset (B := wX.heap.size + 1) (fun a ha => by simpa using ha4 a ha) (Nat.lt_succ_self _)).upset (B := wX.heap.size + 1) (fun a ha => by simpa using ha4 a ha) (Nat.lt_succ_self _)
                   have Hw9 := hide hw9
                   clear hw9 z0 z1 f0 f1 hZ4
                   rw [Hw9.out]
                   rw [hg9])
                have hbr9 : Below wR.heap.size wR w9 := hbx.trans (hb9.mono szx)
                clear y1 y2 hs4 S0
                go_loopw [11, 12] (fun lv kv wz => ∃ (kk : Nat) (b : Bool), j + 1 ≤ kk ∧ kk ≤ L.length ∧ kv = .int .i64 kk ∧ lv = .bool b ∧ (b = true ↔ ¬ LaterTo L j kk c) ∧ Below w9.heap.size w9 wz) (fun _ kv _ => L.length - (intOf kv).toNat)
                case atStart => exact ⟨j + 1, true, by omega, by omega, by go_num, rfl, ⟨fun _ ⟨j', e', h1, h2, _⟩ => by omega, fun _ => rfl⟩, Below.refl _ _⟩
                case round =>
                  obtain ⟨kk, b, hk1, hk2, rfl, rfl, hbk, hbz⟩ := hrel
                  have hbrz : Below wR.heap.size wR wr := hbr9.trans (hbz.mono hbr9.size)
                  have hatz := HHat.out _ hbrz
                  by_cases hkl : kk < L.length
                  · obtain ⟨e2, he2⟩ : ∃ e, L[kk]? = some e := ⟨_, List.getElem?_eq_getElem hkl⟩
                    obtain ⟨dn2, A2, d2, dc2, r0, r1, r2, r3, r4, _⟩ := (hCl.keep (hbrz.mono hBr)).2 kk e2 he2
                    have hst := laterTo_step (c := c) (show j < kk by omega) he2
                    obtain ⟨x2, s2, k2, b2⟩ := e2
                    simp only at r1 hst
                    have z1 := rd5_S (i := 0) hatz p1
                    have z2 := rd5_S (i := 0) hatz r1
                    have hkI : (kk : Int) < (L.length : Int) := by omega
                    cases b with
                    | true =>
                      by_cases hx : x2 = c
                      · have q1 : (x2 != c) = false := by simpa using hx
                        have hfin : (false = true ↔ ¬ LaterTo L j (kk + 1) c) := by rw [hst]; simp [hx]
                        have Hf := hide hfin
                        clear hfin hst hbk hx
                        go_wp2_with fail
                        go_quiet (fail)
                        go_wp2
                        go_roundw
                        case rel => exact ⟨kk + 1, false, by omega, by omega, by go_num, rfl, Hf.out, below_drewN hbz _⟩
                        case measure => simp [intOf]; omega
                      · have q1 : (x2 != c) = true := by simpa using hx
                        have hfin : ¬ LaterTo L j (kk + 1) c := by rw [hst]; have := hbk.1 rfl; simp [hx, this]
                        have Hf := hide hfin
                        clear hfin hst hbk hx
                        go_wp2_with fail
                        go_quiet (fail)
                        go_wp2
                        go_roundw
                        case rel => exact ⟨kk + 1, true, by omega, by omega, by go_num, rfl, ⟨fun _ => Hf.out, fun _ => rfl⟩, below_drewN hbz _⟩
                        case measure => simp [intOf]; omega
                    | false =>
                      have hfin : (false = true ↔ ¬ LaterTo L j (kk + 1) c) := by
                        rw [hst]
                        simp at hbk
                        simp [hbk]
                      have Hf := hide hfin
                      clear hfin hst hbk
                      go_wp2_with fail
                      go_quiet (fail)
                      go_wp2
                      go_roundw
                      case rel => exact ⟨kk + 1, false, by omega, by omega, by go_num, rfl, Hf.out, below_drewN hbz _⟩
                      case measure => simp [intOf]; omega
                  · obtain rfl : kk = L.length := by omega
                    rw [laterTo_all] at hbk
                    obtain rfl : b = false := by
                      cases b with
                      | true => exact absurd HLa.out (hbk.1 rfl)
                      | false => rfl
                    have sz9 := hbrz.size
                    clear hbk
                    go_wp2_with fail
                    go_quiet (fail)
                    go_wp2
                    go_roundw
                    case rel => exact ⟨j + 1, by omega, by go_num, below_drewN hbrz _⟩
                    case measure => simp [intOf]; omega
            · have hb := hno1 hLa
              injection hb with e1 e2
              injection e2 with e2 e3
              subst e1 e2 e3
              have HA := hide (fun W (hW : TabIs W B t bm L.length D m) => ask_again hW c s1 k1 b1 hsc hss hm1)
              have Hd := hide hd
              have HLa := hide hLa
              clear hHat hd hno1 hla1 hLa hAB hle1 hm1
              go_wp2_with fail
              go_region_held_law (fun W => Below wX.heap.size wX W ∧ W.cell? ⟨(a.add (j * 5)).block, (a.add (j * 5)).off + 1, none⟩ = some (.int .i64 c) ∧ W.cell? ⟨(a.add (j * 5)).block, (a.add (j * 5)).off + 2, none⟩ = some (.int .i64 s1)) (first | assumption | exact MkA.out _ _ (by assumption) | exact MkS.out _ _ _ _ (Nat.le_refl _) (MkS.out _ _ _ _ (Nat.le_refl _) (by assumption)) | exact MkS.out _ _ _ _ (by assumption) (MkS.out _ _ _ _ (by assumption) (by assumption)) | exact MkS.out _ _ _ _ (Nat.le_refl _) (by assumption) | exact MkS.out _ _ _ _ (by assumption) (by assumption)) (first
                | (go_at_call 18; refine (HA.out _ (HTB.out _ (by first | exact (Below.refl _ _).drew | exact ((Below.refl _ _).alloc (Nat.le_refl _) _).drew))).mono ?_; rintro x w4 ⟨A4, c4, rfl, hl4, hm4, hd4, hr4, ha4, hT4, hb4⟩; have hs4 := Mk.out w4 (by first | exact (⟨hb4.os, hb4.tape, hb4.output, hb4.size, hb4.block⟩ : Below wX.heap.size wX w4) | exact (((Below.refl _ _).alloc (Nat.le_refl _) _).drew).trans (hb4.mono (by simp))); have sz4 := (And.left hs4).size; (try have hZ4 := (show Blk ((wX.alloc (.cells #[.int .u8 0, .slice none 0 0] 33)).drew) wX.heap.size [.int .u8 0, .slice none 0 0] 33 from Blk.new _ _ _).below hb4); (try have z0 := hZ4.cell (j := 0) rfl); (try have z1 := hZ4.cell (j := 1) rfl); (try have f0 := hZ4.frozen 0); (try have f1 := hZ4.frozen 1)))
              all_goals
                go_wp2_with fail
                first
                | (obtain ⟨g9, hg9⟩ : ∃ x, w4.heap.size = x := ⟨_, rfl⟩
                   obtain ⟨w9, hw9⟩ : ∃ x, w4.alloc (.cells #[.int .u8 k1, .slice A4 b1.length c4] 33) = x := ⟨_, rfl⟩
                   have hR9 : Blk w9 g9 [.int .u8 k1, .slice A4 b1.length c4] 33 := by rw [← hw9, ← hg9]; exact Blk.new w4 [.int .u8 k1, .slice A4 b1.length c4] _
                   have hb49 : Below w4.heap.size w4 w9 := by rw [← hw9]; exact (Below.refl _ _).alloc (Nat.le_refl _) _
                   have hb9 : Below wX.heap.size wX w9 := (And.left hs4).trans (hb49.mono sz4)
                   have hr49 : Rd w9 A4 (bys b1) := hr4.below hb49
                   have Hw9 := hide hw9
                   clear hw9
                   rw [Hw9.out]
                   rw [hg9])
                | (obtain ⟨g9, hg9⟩ : ∃ x, wX.heap.size = x := ⟨_, rfl⟩
                   obtain ⟨w9, hw9⟩ : ∃ x, (w4.setCell ⟨wX.heap.size, 0, none⟩ (.int .u8 k1)).setCell ⟨wX.heap.size, 1, none⟩ (.slice A4 b1.length c4) = x := ⟨_, rfl⟩
                   have hR9 : Blk w9 g9 [.int .u8 k1, .slice A4 b1.length c4] 33 := by rw [← hw9, ← hg9]; exact (hZ4.set 0 _).set 1 _
                   have hb9 : Below wX.heap.size wX w9 := by rw [← hw9]; exact ((And.left hs4).setCell (leBk (Nat.le_refl _)) _).setCell (leBk (Nat.le_refl _)) _
                   have hr49 : Rd w9 A4 (bys b1) := by rw [← hw9]; exact (hr4.upset (B := wX.heap.size + 1) (fun a ha => by simpa using ha4 a ha) (Nat.lt_succ_self _)).upset (B := wX.heap.size + 1) (fun a ha => by simpa using ha4 a ha) (Nat.lt_succ_self _)
                   have Hw9 := hide hw9
                   clear hw9 z0 z1 f0 f1 hZ4
                   rw [Hw9.out]
                   rw [hg9])
                have hbr9 : Below wR.heap.size wR w9 := hbx.trans (hb9.mono szx)
                clear y1 y2 hs4 S0
                go_loopw [11, 12] (fun lv kv wz => ∃ (kk : Nat) (b : Bool), j + 1 ≤ kk ∧ kk ≤ L.length ∧ kv = .int .i64 kk ∧ lv = .bool b ∧ (b = true ↔ ¬ LaterTo L j kk c) ∧ Below w9.heap.size w9 wz) (fun _ kv _ => L.length - (intOf kv).toNat)
                case atStart => exact ⟨j + 1, true, by omega, by omega, by go_num, rfl, ⟨fun _ ⟨j', e', h1, h2, _⟩ => by omega, fun _ => rfl⟩, Below.refl _ _⟩
                case round =>
                  obtain ⟨kk, b, hk1, hk2, rfl, rfl, hbk, hbz⟩ := hrel
                  have hbrz : Below wR.heap.size wR wr := hbr9.trans (hbz.mono hbr9.size)
                  have hatz := HHat.out _ hbrz
                  by_cases hkl : kk < L.length
                  · obtain ⟨e2, he2⟩ : ∃ e, L[kk]? = some e := ⟨_, List.getElem?_eq_getElem hkl⟩
                    obtain ⟨dn2, A2, d2, dc2, r0, r1, r2, r3, r4, _⟩ := (hCl.keep (hbrz.mono hBr)).2 kk e2 he2
                    have hst := laterTo_step (c := c) (show j < kk by omega) he2
                    obtain ⟨x2, s2, k2, b2⟩ := e2
                    simp only at r1 hst
                    have z1 := rd5_S (i := 0) hatz p1
                    have z2 := rd5_S (i := 0) hatz r1
                    have hkI : (kk : Int) < (L.length : Int) := by omega
                    cases b with
                    | true =>
                      by_cases hx : x2 = c
                      · have q1 : (x2 != c) = false := by simpa using hx
                        have hfin : (false = true ↔ ¬ LaterTo L j (kk + 1) c) := by rw [hst]; simp [hx]
                        have Hf := hide hfin
                        clear hfin hst hbk hx
                        go_wp2_with fail
                        go_quiet (fail)
                        go_wp2
                        go_roundw
                        case rel => exact ⟨kk + 1, false, by omega, by omega, by go_num, rfl, Hf.out, below_drewN hbz _⟩
                        case measure => simp [intOf]; omega
                      · have q1 : (x2 != c) = true := by simpa using hx
                        have hfin : ¬ LaterTo L j (kk + 1) c := by rw [hst]; have := hbk.1 rfl; simp [hx, this]
                        have Hf := hide hfin
                        clear hfin hst hbk hx
                        go_wp2_with fail
                        go_quiet (fail)
                        go_wp2
                        go_roundw
                        case rel => exact ⟨kk + 1, true, by omega, by omega, by go_num, rfl, ⟨fun _ => Hf.out, fun _ => rfl⟩, below_drewN hbz _⟩
                        case measure => simp [intOf]; omega
                    | false =>
                      have hfin : (false = true ↔ ¬ LaterTo L j (kk + 1) c) := by
                        rw [hst]
                        simp at hbk
                        simp [hbk]
                      have Hf := hide hfin
                      clear hfin hst hbk
                      go_wp2_with fail
                      go_quiet (fail)
                      go_wp2
                      go_roundw
                      case rel => exact ⟨kk + 1, false, by omega, by omega, by go_num, rfl, Hf.out, below_drewN hbz _⟩
                      case measure => simp [intOf]; omega
                  · obtain rfl : kk = L.length := by omega
                    rw [laterTo_all] at hbk
                    obtain rfl : b = true := by
                      cases b with
                      | true => rfl
                      | false => exact absurd (hbk.2 HLa.out) (by simp)
                    have sz9 := hbrz.size
                    clear hbk
                    have x0 := (hR9.below hbz).cell (j := 0) rfl
                    have x1 := (hR9.below hbz).cell (j := 1) rfl
                    have z3 := rd5_S (i := 2) hatz p3
                    have z4 := rd5_S (i := 3) hatz p4
                    have hrz := hr49.below hbz
                    have hrA := HCl.out _ hbrz
                    have Mk2 := hide (show ∀ X, Below wr.heap.size wr X → (Below wr.heap.size wr X ∧ X.cell? ⟨g9, 0, none⟩ = some (.int .u8 k1) ∧ X.cell? ⟨g9, 1, none⟩ = some (.slice A4 b1.length c4) ∧ X.cell? ⟨(a.add (j * 5)).block, (a.add (j * 5)).off + 3, none⟩ = some (.int .u8 k1) ∧ X.cell? ⟨(a.add (j * 5)).block, (a.add (j * 5)).off + 4, none⟩ = some (.slice A d dc)) from fun X hX => ⟨hX, cellB hX x0, cellB hX x1, cellB hX z3, cellB hX z4⟩)
                    have S2 := Mk2.out wr.drew (Below.refl _ _).drew
                    clear hR9 hCl hDn HCl hr1 hrwr hTx hT HTB Mk MkA MkS HA hatz hat hbz
                    go_wp2_with fail
                    first
                      | (go_region_held_law (fun W => Below wr.heap.size wr W ∧ W.cell? ⟨g9, 0, none⟩ = some (.int .u8 k1) ∧ W.cell? ⟨g9, 1, none⟩ = some (.slice A4 b1.length c4) ∧ W.cell? ⟨(a.add (j * 5)).block, (a.add (j * 5)).off + 3, none⟩ = some (.int .u8 k1) ∧ W.cell? ⟨(a.add (j * 5)).block, (a.add (j * 5)).off + 4, none⟩ = some (.slice A d dc)) (assumption) (first
                          | (go_at_call 19; refine (rsames_any k1 A4 b1.length c4 b1 k1 A d dc b1 _ rfl Hd.out (by exact hrz.drew) (by exact hrA.drew)).mono ?_; rw [eqR_self]; rintro x wq ⟨rfl, hbq⟩; have hsq := Mk2.out wq (⟨hbq.os, hbq.tape, hbq.output, hbq.size, hbq.block⟩ : Below wr.heap.size wr wq))))
                      | fail
                    all_goals
                      have hbq' : Below wR.heap.size wR wq := ⟨hbq.os.trans hbrz.os, hbq.tape.trans hbrz.tape, hbq.output.trans hbrz.output, Nat.le_trans hbrz.size hbq.size, fun q hq => (hbq.block q (Nat.lt_of_lt_of_le hq hbrz.size)).trans (hbrz.block q hq)⟩
                      go_wp2
                      go_roundw
                      case rel => exact ⟨j + 1, by omega, by go_num, hbq'⟩
                      case measure => simp [intOf]; omega
          · obtain rfl : j = L.length := by omega
            go_wp2
            go_ret
            exact ⟨rfl, hb1.trans ((hbw.trans (hbx.mono hBr)).mono hwB)⟩
end Go.Proofs.Ytplodjccjobjbaa
