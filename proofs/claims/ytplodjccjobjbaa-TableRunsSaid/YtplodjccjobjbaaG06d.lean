/- The law TableRuns, walked. -/
import Derived.Test.YtplodjccjobjbaaG06c
import Derived.Test.YtplodjccjobjbaaF06h
import Derived.Test.YtplodjccjobjbaaCll
namespace Go.Proofs.Ytplodjccjobjbaa
open Go.RowKit Go.Px Go.Maps Go.ChangeShapes Go.WideShapes Go.ChangeAt Go.Joins Go.Deep
set_option linter.unusedVariables false
section
variable {H : Type} {enc : TypeId × Value → H}
set_option maxRecDepth 20000 in
theorem trod_callR {w : World} {base : Nat} {spare : Nat → Bool} {held : Bool} {fuel : Nat} {cs : List Value} {x : DataW H × List MemPlace} (h : DataW.trod enc Try.prog w base spare held fuel 35 cs = some x) :
    ∃ c : Int, cs[1]? = some (.int .i64 c) ∧ -9223372036854775808 ≤ c ∧ c ≤ 9223372036854775807 := by
  obtain ⟨ys, n', _, _, hlen, hyl, hg⟩ := DataW.trod_struct Try.underlying35 h
  rw [call_cells] at hlen
  match cs, hlen with
  | [c0, c1, c2, c3, c4], _ =>
    match ys, hyl with
    | [y0, y1, y2, y3], _ =>
      have g1 := hg 1 _ rfl
      have g1' : DataW.trod enc Try.prog w base spare held n' 3 [c1] = some y1 := g1
      obtain ⟨c, rfl, h1, h2⟩ := open_i64F (P := Try.prog) Try.underlying3 g1'
      exact ⟨c, rfl, h1, h2⟩
theorem open_callsR {r : Reach} {b0 : Nat} {w : World} {base : Nat} {spare : Nat → Bool} {held : Bool} {A : Option Addr} {n c : Nat} {d : DataW H} {ps : List MemPlace} (hval : Value.okWide Try.prog w r b0 23 (.slice A n c)) (h : DataW.Trod enc Try.prog w base spare held 23 (.slice A n c) d ps) :
    ∀ i, i < n → ∀ a, A = some a → ∃ c : Int, w.cell? ⟨(a.add (i * 5)).block, (a.add (i * 5)).off + 1, none⟩ = some (.int .i64 c) ∧ -9223372036854775808 ≤ c ∧ c ≤ 9223372036854775807 := by
  obtain ⟨fuel, hf⟩ := h
  rcases open_slice Try.underlying23 hf with ⟨hcs, _⟩ | ⟨a, len, cap, m, n', D, Pl, hcs, _, hlc, hcm, hm, _, hx⟩
  · simp [Value.cells] at hcs
    obtain ⟨rfl, rfl, rfl⟩ := hcs
    intro i hi
    omega
  · simp [Value.cells] at hcs
    obtain ⟨rfl, rfl, rfl⟩ := hcs
    intro i hi a' ha'
    injection ha' with ha'
    subst ha'
    obtain ⟨cs', hc, ht⟩ := hx i (by rw [hm]; split <;> omega)
    rw [call_cells] at hc
    obtain ⟨_, hcl, hat⟩ := World.cells?_some hc
    obtain ⟨c', h1, h2, h3⟩ := trod_callR ht
    have a1 := hat 1 (by decide)
    refine ⟨c', ?_, h2, h3⟩
    rw [← h1]
    exact a1
end
theorem Both6.below {w w' : World} {W0 t bm r : Nat} {m : TM} {S N : Nat} (h : Both6 w W0 t bm r m S N) (hb : Below w.heap.size w w') : Both6 w' W0 t bm r m S N := by
  obtain ⟨D, A, c, cs, es, hT, hR, ht, hsz, hS, hlr, hsr⟩ := h
  exact ⟨D, A, c, cs, es, hT.below hb, hR.below hb, ht, hsz, hS, hlr, hsr⟩
theorem step6_any (w : World) (W0 t bm r : Nat) (m : TM) (S N : Nat) (dn : Bool) (c s : Int) (k : Nat) (A : Option Addr) (d dc : Nat) (bs : List UInt8) (hB : Both6 w W0 t bm r m S N) (hN : N < 4096) (hW : W0 ≤ w.heap.size) (hk : k < 256) (hd : bs.length = d) (hdc : d ≤ dc) (hdm : dc ≤ 9223372036854775807) (hr : Rd w A (bys bs)) :
    Calls Try.prog 10 #[.pointer (some ⟨t, 0, none⟩), .pointer (some ⟨r, 0, none⟩), callv dn c s k A d dc] w fun e w' => e = .returned (.bool true) ∧ (∃ m' S' N', N' ≤ N + 1 ∧ Both6 w' W0 t bm r m' S' N') ∧ Below W0 w w' ∧ w.heap.size ≤ w'.heap.size := by
  cases dn with
  | true => exact (step6_put w W0 t bm r m S N c s k A d dc bs hB hN hW hk hd hdc hdm hr).mono fun e w' ⟨he, ⟨m', S', hB'⟩, h2⟩ => ⟨he, ⟨m', S', N + 1, Nat.le_refl _, hB'⟩, h2⟩
  | false => exact (step6_ask w W0 t bm r m S N c s k A d dc hB).mono fun e w' ⟨he, hb⟩ => ⟨he, ⟨m, S, N, by omega, hB.below hb⟩, hb.mono hW, hb.size⟩
theorem rows_len {w : World} {Q : Nat → Prop} {cs : List Value} {es : List RowT} (h : RwRows w Q cs es) : cs.length = 4 * es.length := h.1
set_option maxRecDepth 20000 in
set_option maxHeartbeats 6400000 in
theorem tableRuns_walk (A : Option Addr) (n c : Nat) (cs : List Value) (es : List RowT) (Q : Nat → Prop) (A0 : Option Addr) (n0 c0 : Nat) (w : World) (hn : es.length = n) (hr : Rd w A cs) (hE : RwRows w Q cs es) (hn0 : n0 ≤ c0) (hc0 : c0 ≤ 9223372036854775807)
    (hcl : ∀ i, i < n0 → ∃ a x, A0 = some a ∧ CallAt w (a.add (i * 5)) x) (hcr : ∀ i, i < n0 → ∀ a, A0 = some a → ∃ c : Int, w.cell? ⟨(a.add (i * 5)).block, (a.add (i * 5)).off + 1, none⟩ = some (.int .i64 c) ∧ -9223372036854775808 ≤ c ∧ c ≤ 9223372036854775807) :
    Calls Try.prog 3 #[.slice A n c, .slice A0 n0 c0] w fun x w' => x = .returned (.bool true) ∧ Below w.heap.size w w' := by
  have HAw := hide awake06_any
  have Hn := hide hn
  clear hn
  go_enter Try.func3, Try.ntmps3
  go_wp2_with fail
  go_fit (HAw.out w)
  rintro x w1 ⟨rfl, hb1⟩
  cases hB : rowsB es with
  | false =>
    have HB := hide hB
    clear hB
    go_wp2_with fail
    go_fit (begin6_bad A n c cs es Q w1 Hn.out (hr.below hb1) (hE.below hb1) HB.out)
    rintro x w2 ⟨rfl, hb2⟩
    go_wp2
    go_ret
    exact ⟨rfl, hb1.trans (hb2.mono hb1.size)⟩
  | true =>
    have HB := hide hB
    clear hB
    go_wp2_with fail
    go_fit (begin6_any A n c cs es Q w1 Hn.out (hr.below hb1) (hE.below hb1) HB.out)
    rintro x w2 ⟨t, bm, r, m0, S0, N0, rfl, hB2, hN0, hb2⟩
    have hb02 := hb1.trans (hb2.mono hb1.size)
    obtain ⟨B, hB⟩ : ∃ x, w1.heap.size = x := ⟨_, rfl⟩
    rw [hB] at hB2
    have hwB : w.heap.size ≤ B := by have := hb1.size; omega
    have hBr2 : B ≤ w2.heap.size := by have := hb2.size; omega
    clear hB hr hE hb2
    go_wp2
    go_loopw [8] (fun iv wr => ∃ (i : Nat) (m : TM) (S N : Nat), i ≤ n0 ∧ i ≤ 200 ∧ N ≤ 64 + i ∧ iv = .int .i64 i ∧ Both6 wr B t bm r m S N ∧ Below w.heap.size w wr ∧ B ≤ wr.heap.size) (fun iv _ => n0 - (intOf iv).toNat)
    case atStart => exact ⟨0, m0, S0, N0, by omega, by omega, by omega, rfl, hB2, hb02, hBr2⟩
    case round =>
      obtain ⟨i, m, S, N, hi1, hi2, hN, rfl, hBo, hbw, hBr⟩ := hrel
      clear hB2 hb02
      by_cases hlt : i < n0 ∧ i < 200
      · obtain ⟨hlt1, hlt2⟩ := hlt
        obtain ⟨a, xx, rfl, hca⟩ := hcl i hlt1
        obtain ⟨c9, hc9, hc1, hc2⟩ := hcr i hlt1 a rfl
        obtain ⟨x1, s, k, bs⟩ := xx
        obtain ⟨dn, A9, d, dc, hk, k0, k1, k2, k3, k4, hd, hdc, hdm, hr⟩ := hca
        simp only at hk k1 k2 k3 hd hr
        rw [k1] at hc9
        injection hc9 with hc9
        injection hc9 with _ hc9
        subst hc9
        have d0 := cellB hbw k0
        have d1 := cellB hbw k1
        have d2 := cellB hbw k2
        have d3 := cellB hbw k3
        have d4 := cellB hbw k4
        have hrw := hr.below hbw
        have HS := hide (step6_any wr.drew B t bm r m S N dn x1 s k A9 d dc bs (hBo.below (Below.refl _ _).drew) (by omega) hBr hk hd hdc hdm hrw)
        have Hk1 := hide k1
        have hbd : Below w.heap.size w wr.drew := hbw.drew
        clear hcl hcr hd k0 k1 k2 k3 k4 hBo
        go_wp2_with fail
        go_region_with (first
          | (go_at_call 10; refine HS.out.mono ?_; rintro x wa ⟨rfl, ⟨m', S', N', hN', D', A', c', cs', es', hT, hR, ht, hsz, hS, hlr, hsr⟩, hbW, hzz⟩; have x0 := hR.blk.cell (j := 0) rfl; have HL := hide (len06_any hT); rw [hsz] at HL)
          | (go_at_call 11; refine HL.out.mono ?_; rintro x wb ⟨rfl, rfl⟩))
        all_goals
          have hba : Below w.heap.size w wa := hbd.trans (hbW.mono hwB)
          have k1 := cellB hba Hk1.out
          have hWa : B ≤ wa.heap.size := by have e0 : wr.drew.heap.size = wr.heap.size := rfl; omega
          have HLt := hide (last_any hT x1 hc1 hc2)
          have HLr := hide (fun X (hX : Below wa.heap.size wa X) => rlast_any (hR.below hX) ht x1)
          obtain ⟨P1, hP1⟩ : ∃ P, (m' x1).elim 0 (·.1) = P := ⟨_, rfl⟩
          obtain ⟨P2, hP2⟩ : ∃ P, (m' x1).isSome = P := ⟨_, rfl⟩
          rw [hP1, hP2] at HLt HLr
          have hBo : Both6 wa B t bm r m' S' N' := ⟨D', A', c', cs', es', hT, hR, ht, hsz, hS, hlr, hsr⟩
          have q1 : (P1 != P1) = false := by simp
          have q2 : (P2 != P2) = false := by simp
          clear hP1 hP2 hsz ht hS x0 hsr
          go_wp2_with fail
          go_fit HLt.out
          rintro x wb ⟨rfl, hbb⟩
          have k2 := cellB hbb k1
          clear k1
          go_wp2_with fail
          go_fit (HLr.out _ hbb)
          rintro x wc ⟨rfl, rfl⟩
          have hbz := hba.trans (hbb.mono hba.size)
          have hBz := hBo.below hbb
          have szz := hbb.size
          clear k2 hBo hT hR
          go_wp2
          go_roundw
          case rel => exact ⟨i + 1, m', S', N', by omega, by omega, by omega, by go_num, hBz, hbz, by omega⟩
          case measure => simp [intOf]; omega
      · obtain ⟨D', A', c', cs', es', hT, hR, ht, hsz, hS, hlr, hsr⟩ := hBo
        have HR := hide (fun X (hX : Below wr.heap.size wr X) => rows_any (hT.below hX) (by omega) hsr)
        have HK := hide (fun X (hX : Below wr.heap.size wr X) => (hR.below hX))
        have Ht := hide ht
        have x0 := hR.blk.cell (j := 0) rfl
        have hnc := hR.nc
        have Hsz := hide hsz
        clear hcl hcr ht hsz hsr hT
        rcases (show i = n0 ∨ (i < n0 ∧ i = 200) by omega) with rfl | ⟨hl2, rfl⟩
        all_goals
          go_wp2_with fail
          go_region_with (first
            | (go_at_call 15; refine (HR.out _ (Below.refl _ _).drew).mono ?_; rintro x wa ⟨A1, c1, cs1, es1, rfl, hc1, hm1, hr1, hE1, hs1, hm2, hn1, hb1⟩; have hb1' : Below wr.heap.size wr wa := ⟨hb1.os, hb1.tape, hb1.output, hb1.size, hb1.block⟩; have Ra := HK.out _ hb1'; have x1 := Ra.blk.cell (j := 0) rfl)
            | (go_at_call 14; refine (rsame6_any A1 es1.length c1 cs1 es1 _ A' S c' cs' es' _ _ rfl hr1 hE1 Ra.len Ra.rd Ra.rows (by omega)).mono ?_; rintro x wb ⟨rfl, hb2⟩))
          all_goals
            have he1 : es1 = es' := srt_one hs1 Ht.out.srt (fun e => (hm2 e).trans (Ht.out.mem e).symm)
            have hsm : sameB es1 es' = true := decide_eq_true he1
            have Hsm := hide hsm
            clear hsm he1
            go_wp2
            go_ret
            exact ⟨by rw [Hsm.out]; rfl, hbw.trans ((hb1'.trans (hb2.mono hb1'.size)).mono hbw.size)⟩
end Go.Proofs.Ytplodjccjobjbaa
