/- Texts joined (shake.py). -/
import Derived.Test.YtoaodmidegkolaaGreatDoorK92
import Derived.Test.YtoaodmidegkolaaGreatDoorK95
namespace Go.Proofs.YtoaodmidegkolaaGreatDoor
set_option maxRecDepth 20000
open Go.RowKit Go.Px Go.Shelf
set_option linter.unusedVariables false
attribute [local go_sem] Oper.semAt_some
section
variable {P : Program} {Q : Exit → Act → World → Prop}
theorem results_cell2 {fn : Func} {t t2 : Tmp} {T : TypeId} {w : World} (h : fn.results = #[.cell t T, .tmp t2]) {tmps : Array Value} {b : Nat} (hx : tmps.getD t undef = .pointer (some ⟨b, 0, none⟩)) {vs : List Value} {B : TypeId} {d : TypeDesc} (hc : Blk w b vs B)
    (hu : P.underlying T = some d) (hd : d.isRow = true) (hi : (P.info? T).map (·.size) = some vs.length) : (results fn tmps).run P w = .ok (.tuple #[.agg vs.toArray, tmps.getD t2 undef]) w := by
  have := run_loadVar_mid (P := P) w b 0 T vs d hc.range hu hd hi
  have hx' : (tmps[t]?).getD undef = .pointer (some ⟨b, 0, none⟩) := by rw [← hx]; simp [Array.getD_eq_getD_getElem?]
  simp [results, h, hx', asAddr, this]
end
def offN (j : Nat) : Nat := if j ≤ 5 then 8 * j else 40 + 4 * (j - 5)
theorem offN_succ (j : Nat) : offN (j + 1) = offN j + szN j := by unfold offN szN; split <;> split <;> split <;> omega
theorem offN_le {j : Nat} (h : j < 8) : offN j + szN j ≤ 52 := by unfold offN szN; split <;> split <;> omega
def vN (bd : List UInt8) (j : Nat) : Nat := getV bd (offN j : Int) (szN j : Int)
def iw (v : Nat) : Int := IntKind.i64.wrap (v : Int)
theorem getE_in {bd : List UInt8} {a n : Nat} (h1 : 1 ≤ n) (h8 : n ≤ 8) (h : a + n ≤ bd.length) : getE bd (a : Int) (n : Int) = 0 := by
  unfold getE
  rw [if_pos (by omega), if_pos (by omega), if_neg (by omega)]
theorem getI_in {bd : List UInt8} {a n : Nat} (h1 : 1 ≤ n) (h8 : n ≤ 8) (h : a + n ≤ bd.length) : getI bd (a : Int) (n : Int) = ((a + n : Nat) : Int) := by
  unfold getI
  rw [if_pos (getE_in h1 h8 h)]; simp
theorem vN_lt (bd : List UInt8) (j : Nat) : vN bd j < 256 ^ szN j := by
  have hz := szN_le j
  have hp : 0 < 256 ^ szN j := Nat.pow_pos (by omega)
  unfold vN getV
  split
  · rename_i he
    have h1 := numN_lt ((bd.drop ((offN j : Int).toNat)).take ((szN j : Int).toNat))
    have h2 : ((bd.drop ((offN j : Int).toNat)).take ((szN j : Int).toNat)).length ≤ szN j := by rw [List.length_take]; omega
    exact Nat.lt_of_lt_of_le h1 (Nat.pow_le_pow_right (by omega) h2)
  · exact hp
/-- The superblock of a body. -/
def decS (ser : Nat) (bd : List UInt8) : Sup := ⟨ser, iw (vN bd 0), iw (vN bd 1), iw (vN bd 2), iw (vN bd 3), iw (vN bd 4), iw (vN bd 5), iw (vN bd 6), vN bd 7⟩
def sup0 : Sup := ⟨0, 0, 0, 0, 0, 0, 0, 0, 0⟩
def sdecE (b : List UInt8) : Int := if rdE b 0 ≠ 0 then rdE b 0 else if rdK b 0 ≠ 1 ∨ (rdB b 0).length ≠ 52 then 90 else (decS (rdS b 0) (rdB b 0)).E
def sdecV (b : List UInt8) : Sup := if sdecE b = 0 then decS (rdS b 0) (rdB b 0) else sup0
abbrev sup0C : List Value := [.int .u64 0, .int .i64 0, .int .i64 0, .int .i64 0, .int .i64 0, .int .i64 0, .int .i64 0, .int .i64 0, .int .u32 0]
def rowC (bd : List UInt8) (j : Nat) : List Value := (List.range 8).map fun i => Value.int .i64 (if i < j then iw (vN bd i) else 0)
theorem rowC_zero (bd : List UInt8) : rowC bd 0 = [.int .i64 0, .int .i64 0, .int .i64 0, .int .i64 0, .int .i64 0, .int .i64 0, .int .i64 0, .int .i64 0] := rfl
theorem rowC_len (bd : List UInt8) (j : Nat) : (rowC bd j).length = 8 := by simp [rowC]
theorem rowC_set (bd : List UInt8) {j : Nat} (hj : j < 8) : (rowC bd j).set j (.int .i64 (iw (vN bd j))) = rowC bd (j + 1) := by
  refine List.ext_getElem? fun i => ?_
  rw [List.getElem?_set]
  by_cases h : j = i
  · subst h
    rw [if_pos rfl, if_pos (by rw [rowC_len]; exact hj)]
    simp [rowC, hj]
  · rw [if_neg h]
    unfold rowC
    rw [List.getElem?_map, List.getElem?_map]
    by_cases hi : i < 8
    · rw [List.getElem?_range hi]
      simp only [Option.map_some]
      by_cases h2 : i < j
      · rw [if_pos h2, if_pos (by omega)]
      · rw [if_neg h2, if_neg (by omega)]
    · rw [List.getElem?_eq_none (by simp; omega)]; rfl
/-- Between two numbers that are read. -/
structure DecI (w : World) (g g4 g7 : Nat) (A : Option Addr) (c : Nat) (ser : Nat) (bd : List UInt8) (j : Nat) (W : World) : Prop where
  row : Blk W g7 (rowC bd j) 106
  at_ : Blk W (g7 + 1) [.int .i64 ((offN j : Nat) : Int)] 3
  fr : Blk W g4 [.int .u8 1, .int .u64 (ser : Int), .slice A 52 c] 80
  res : Blk W g sup0C 25
  rd : Rd W A (bys bd)
  lo : ∀ a, A = some a → a.block < g7
  bel : Below g w W
  sz : g7 + 4 ≤ W.heap.size
theorem DecI.put {w : World} {g g4 g7 : Nat} {A : Option Addr} {c : Nat} {ser : Nat} {bd : List UInt8} {j : Nat} {W : World} (h : DecI w g g4 g7 A c ser bd j W) (h1 : g < g7) (h2 : g4 < g7) (r : Loop) : DecI w g g4 g7 A c ser bd j (W.putObj (g7 + 3) (.loop r)) := by
  have hs := h.sz
  exact ⟨blk_put9 h.row (by omega) _, blk_put9 h.at_ (by omega) _, blk_put9 h.fr (by omega) _, blk_put9 h.res (by omega) _, h.rd.grown (grownBy_putObj' W _ _) (fun a ha e => by injection e with e; have := h.lo a ha; omega), h.lo, h.bel.grown (grownBy_putObj' W _ _) (by omega) (fun k e => by injection e with e; omega), by rw [size_putObj9]; exact hs⟩
theorem DecI.step {w : World} {g g4 g7 : Nat} {A : Option Addr} {c : Nat} {ser : Nat} {bd : List UInt8} {j : Nat} {X : World} (h : DecI w g g4 g7 A c ser bd j X) (h1 : g < g7) (h2 : g4 < g7) (hj : j < 8) :
    DecI w g g4 g7 A c ser bd (j + 1) ((X.setCell ⟨g7, j, none⟩ (.int .i64 (iw (vN bd j)))).setCell ⟨g7 + 1, 0, none⟩ (.int .i64 ((offN (j + 1) : Nat) : Int))) ∧ KeepsOthers X ((X.setCell ⟨g7, j, none⟩ (.int .i64 (iw (vN bd j)))).setCell ⟨g7 + 1, 0, none⟩ (.int .i64 ((offN (j + 1) : Nat) : Int))) := by
  have hs := h.sz
  have hr := h.row.set j (.int .i64 (iw (vN bd j)))
  rw [rowC_set bd hj] at hr
  have hrd := (h.rd.grown (grown_set9 X g7 j (.int .i64 (iw (vN bd j)))) (fun a ha e => by injection e with e; have := h.lo a ha; omega))
  refine ⟨⟨hr.apart (by omega) _ _, (h.at_.apart (by omega) _ _).set 0 _, (h.fr.apart (by omega) _ _).apart (by omega) _ _, (h.res.apart (by omega) _ _).apart (by omega) _ _, hrd.grown (grown_set9 _ _ _ _) (fun a ha e => by injection e with e; have := h.lo a ha; omega), h.lo, ?_, by simp; omega⟩, ?_⟩
  · exact (h.bel.setCell (by show g ≤ g7; omega) _).setCell (by show g ≤ g7 + 1; omega) _
  · exact (KeepsOthers.setCell _ _ _).trans (KeepsOthers.setCell _ _ _)
set_option maxRecDepth 100000 in
set_option maxHeartbeats 3200000 in
theorem sdec_any (A0 : Option Addr) (m c0 : Nat) (b : List UInt8) (w : World) (hm : b.length = m) (hm8 : m ≤ 140737488355328) (hmc : m ≤ c0) (hc : c0 ≤ 9223372036854775807) (hr : Rd w A0 (bys b)) (ht : Tab w) :
    Calls Tryz.prog 41 #[.slice A0 m c0] w fun e w' => e = .returned (.tuple #[.agg (sdecV b).cells.toArray, .int .i64 (sdecE b)]) ∧ Below w.heap.size w w' := by
  obtain ⟨w0, hw0⟩ : ∃ y, w.alloc (.cells #[.int .u64 0, .int .i64 0, .int .i64 0, .int .i64 0, .int .i64 0, .int .i64 0, .int .i64 0, .int .i64 0, .int .u32 0] 25) = y := ⟨_, rfl⟩
  obtain ⟨g, hg⟩ : ∃ g, w.heap.size = g := ⟨_, rfl⟩
  have hG : Blk w0 g sup0C 25 := by rw [← hw0, ← hg]; exact Blk.new w _ _
  have hb0 : Below w.heap.size w w0 := by rw [← hw0]; exact (Below.refl _ _).alloc (Nat.le_refl _) _
  have hz0 : w0.heap.size = g + 1 := by rw [← hw0, ← hg]; simp
  have HRD := hide (fread_any A0 m c0 b 0 w0 hm hm8 hmc hc (hr.below hb0) (by omega) (by omega) (Rd.below ht hb0))
  have hE : sdecE b = if rdE b 0 ≠ 0 then rdE b 0 else if rdK b 0 ≠ 1 ∨ (rdB b 0).length ≠ 52 then 90 else (decS (rdS b 0) (rdB b 0)).E := rfl
  have hV : sdecV b = if sdecE b = 0 then decS (rdS b 0) (rdB b 0) else sup0 := rfl
  generalize sdecV b = V at hV ⊢
  generalize sdecE b = EE at hE hV ⊢
  generalize rdE b 0 = er at hE HRD
  generalize rdK b 0 = kk at hE HRD
  generalize rdB b 0 = bd at hE hV HRD
  generalize rdS b 0 = ser at hE hV HRD
  generalize rdN b 0 = nn at HRD
  obtain ⟨n, hn⟩ : ∃ y, bd.length = y := ⟨_, rfl⟩
  rw [hn] at hE HRD
  have Hn := hide hn
  have Hw0 := hide hw0
  have Hg := hide hg
  have Hz0 := hide hz0
  clear hw0 hg hz0 hn hr hm
  by_cases h1 : er = 0
  · rw [if_neg (by simpa using h1)] at hE
    subst h1
    by_cases h2 : kk ≠ 1 ∨ n ≠ 52
    · rw [if_pos h2] at hE
      subst hE
      rw [if_neg (by omega)] at hV
      subst hV
      have qs : ((kk : Int) != 1) = true ∨ (((kk : Int) != 1) = false ∧ ((n : Int) != 52) = true) := by
        by_cases hk : kk = 1
        · right; subst hk; exact ⟨rfl, by simp; omega⟩
        · left; simp; omega
      clear h2
      rcases qs with q1 | ⟨q1, q2⟩
      all_goals
        go_enter Tryz.func41, Tryz.ntmps41
        go_wp2_with fail
        rw [Hw0.out]
        go_fit HRD.out
        rintro x w1 ⟨v, rfl, hO, hb1⟩
        obtain ⟨A1, c1, rfl, _, hc1, hcm1, hr1, ha1⟩ := own_out hO
        have hG1 := hG.below hb1
        have hbw := hb0.trans (hb1.mono hb0.size)
        rw [Hg.out]
        have hG2 := hG1.alloc (.cells #[.int .u8 (kk : Int), .int .u64 (ser : Int), .slice A1 n c1] 80)
        have y0 := Blk.cell hG2 (j := 0) rfl; have y1 := Blk.cell hG2 (j := 1) rfl; have y2 := Blk.cell hG2 (j := 2) rfl; have y3 := Blk.cell hG2 (j := 3) rfl; have y4 := Blk.cell hG2 (j := 4) rfl; have y5 := Blk.cell hG2 (j := 5) rfl; have y6 := Blk.cell hG2 (j := 6) rfl; have y7 := Blk.cell hG2 (j := 7) rfl; have y8 := Blk.cell hG2 (j := 8) rfl
        have z0 := hG2.frozen 0; have z1 := hG2.frozen 1; have z2 := hG2.frozen 2; have z3 := hG2.frozen 3; have z4 := hG2.frozen 4; have z5 := hG2.frozen 5; have z6 := hG2.frozen 6; have z7 := hG2.frozen 7; have z8 := hG2.frozen 8
        have hbX := hbw.alloc hbw.size (.cells #[.int .u8 (kk : Int), .int .u64 (ser : Int), .slice A1 n c1] 80)
        have hsC : ∀ (X : World) (q : Nat) (u : Value), Below w.heap.size w X → Below w.heap.size w (X.setCell ⟨g, q, none⟩ u) := fun X q u hX => hX.setCell (by show w.heap.size ≤ g; rw [Hg.out]; exact Nat.le_refl _) _
        have HX := hide (And.intro hG2 hbX)
        have HsC := hide hsC
        clear hO hr1 ha1 HRD hG2 hbX hsC
        go_wp2_with fail
        have hG2 := HX.out.1
        refine bodyPost_ret (results_cell2 rfl rfl (((((((((hG2.set 0 _).set 1 _).set 2 _).set 3 _).set 4 _).set 5 _).set 6 _).set 7 _).set 8 _) Tryz.underlying25 rfl (by kernel_rfl)) rfl ?_
        exact ⟨rfl, HsC.out _ _ _ (HsC.out _ _ _ (HsC.out _ _ _ (HsC.out _ _ _ (HsC.out _ _ _ (HsC.out _ _ _ (HsC.out _ _ _ (HsC.out _ _ _ (HsC.out _ _ _ HX.out.2))))))))⟩
    · rw [if_neg h2] at hE
      obtain ⟨rfl, rfl⟩ : kk = 1 ∧ n = 52 := by omega
      clear h2
      have HCH := hide (fun W => schk_any (decS ser bd) W)
      rw [← hE] at HCH
      have HE := hide hE
      have HV := hide hV
      clear hE hV
      refine (callsIn_wide (n := 8)).1 ?_
      refine callsIn_of_wp_marks Tryz.func41 rfl trivial ?_ rfl
      simp only [Tryz.ntmps41, List.size_toArray, List.length_cons, List.length_nil, Nat.reduceAdd, Nat.reduceSub, Array.replicate_succ, Array.replicate_zero, List.push_toArray, List.append_toArray, List.nil_append, List.cons_append]
      gi_wp2_with fail
      rw [Hw0.out, Hg.out]
      refine ⟨trivial, (callsIn_wide.2 HRD.out).mono ?_⟩
      rintro x w1 ⟨v, rfl, hO, hb1⟩
      obtain ⟨A, c, rfl, _, hc1, hcm1, hr1, ha1⟩ := own_out hO
      unfold maxLen at hcm1
      have hbw := hb0.trans (hb1.mono hb0.size)
      have hG1 := hG.below hb1
      rw [Hz0.out] at hb1 ha1
      rw [Hg.out] at hbw
      have hzg : g + 1 ≤ w1.heap.size := by have := hb1.size; have := Hz0.out; omega
      clear hO HRD hG hb1 hb0
      gi_wp2_with fail
      refine ⟨trivial, (callsIn_wide.2 (sizes_any _)).mono ?_⟩
      rintro x w3 ⟨rfl, rfl⟩
      obtain ⟨g4, hg4⟩ : ∃ y, w1.heap.size = y := ⟨_, rfl⟩
      obtain ⟨W0, hW0⟩ : ∃ y, ((w1.alloc (.cells #[.int .u8 1, .int .u64 (ser : Int), .slice A 52 c] 80)).alloc (.cells #[.int .i64 0, .int .i64 0, .int .i64 0, .int .i64 0, .int .i64 0, .int .i64 0, .int .i64 0, .int .i64 0] 106)).alloc (.cells #[.int .i64 0] 3) = y := ⟨_, rfl⟩
      have hsz : W0.heap.size = g4 + 3 := by rw [← hW0, ← hg4]; simp
      have hbW : Below w1.heap.size w1 W0 := by rw [← hW0]; exact (((Below.refl _ _).alloc (Nat.le_refl _) _).alloc (by simp) _).alloc (by simp; omega) _
      have q4 : Blk W0 g4 [.int .u8 1, .int .u64 (ser : Int), .slice A 52 c] 80 := by rw [← hW0, ← hg4]; exact ((Blk.new w1 _ _).alloc _).alloc _
      have q7 : Blk W0 (g4 + 1) (rowC bd 0) 106 := by
        rw [rowC_zero, ← hW0, ← hg4]
        have := (Blk.new (w1.alloc (.cells #[.int .u8 1, .int .u64 (ser : Int), .slice A 52 c] 80)) [.int .i64 0, .int .i64 0, .int .i64 0, .int .i64 0, .int .i64 0, .int .i64 0, .int .i64 0, .int .i64 0] 106).alloc (.cells #[.int .i64 0] 3)
        rwa [World.size_alloc] at this
      have q8 : Blk W0 (g4 + 1 + 1) [.int .i64 ((offN 0 : Nat) : Int)] 3 := by
        rw [← hW0, ← hg4]
        have := Blk.new ((w1.alloc (.cells #[.int .u8 1, .int .u64 (ser : Int), .slice A 52 c] 80)).alloc (.cells #[.int .i64 0, .int .i64 0, .int .i64 0, .int .i64 0, .int .i64 0, .int .i64 0, .int .i64 0, .int .i64 0] 106)) [.int .i64 0] 3
        rw [World.size_alloc, World.size_alloc] at this
        exact this
      have qg := hG1.below hbW
      have hgW : Below g w W0 := hbw.trans (hbW.mono (by omega))
      have hrW := hr1.below hbW
      have haW : ∀ a, A = some a → a.block < g4 + 1 := fun a ha => by have := (ha1 a ha).2; omega
      have hg1 : g < g4 + 1 := by omega
      have hg2 : g4 < g4 + 1 := by omega
      have HW0 := hide hW0
      have Hg4 := hide hg4
      clear hW0 hg4 hG1 hbw hbW hr1 ha1
      gi_wp2_with fail
      rw [HW0.out, Hg4.out]
      refine range_own 8 (by omega) (lb := #[]) (by simp [Act.eval]) (enters_of Tryz.func50 (by kernel_rfl) rfl) encZ9 (fun _ => rfl) (fun j => j < 8)
        (fun j W => DecI w g g4 (g4 + 1) A c ser bd j W ∧ j ≤ 8) (fun j W => DecI w g g4 (g4 + 1) A c ser bd (j + 1) W ∧ j < 8) (fun _ _ => False) ?i0 ?ip ?mp (fun _ _ _ _ h => h) ?it ?round ?done (fun _ _ h => h.elim)
      case i0 =>
        intro r
        have hb2 : Below W0.heap.size W0 ((W0.alloc (.deferred (some []))).alloc (.loop r)) := ((Below.refl _ _).alloc (Nat.le_refl _) _).alloc (by simp) _
        exact ⟨⟨q7.below hb2, q8.below hb2, q4.below hb2, qg.below hb2, hrW.below hb2, haW, hgW.trans (hb2.mono (by omega)), by simp; omega⟩, by omega⟩
      case ip => intro j W r hW h; rw [hsz]; exact ⟨h.1.put hg1 hg2 r, h.2⟩
      case mp => intro j W r hW h; rw [hsz]; exact ⟨h.1.put hg1 hg2 r, h.2⟩
      case it => exact sizes_iter (8 - 1) (by omega) _ _ _ (fun j W h => ⟨h.1, by omega⟩)
      case round =>
        intro j W hU hj hlW
        obtain ⟨hU, _⟩ := hU
        obtain ⟨z1, z2⟩ := szN_le j
        have hof := offN_le hj
        have hgI := getI_in (bd := bd) z1 z2 (by rw [Hn.out]; exact hof)
        have hgE := getE_in (bd := bd) z1 z2 (by rw [Hn.out]; exact hof)
        rw [← offN_succ] at hgI
        unfold encZ9
        gi_wp2
        refine ⟨KeepsOthers.refl _, fun r' => ?_⟩
        rw [hsz]
        have hX := hU.put hg1 hg2 r'
        obtain ⟨X, hXX⟩ : ∃ x, W.putObj (g4 + 3 + 1) (.loop r') = x := ⟨_, rfl⟩
        rw [show g4 + 3 + 1 = g4 + 1 + 3 from rfl] at hXX ⊢
        rw [hXX] at hX ⊢
        have HST := hX.step hg1 hg2 hj
        have x4 := hX.fr.cell (j := 2) rfl
        have x8 := hX.at_.cell (j := 0) rfl
        have x8f := hX.at_.frozen 0
        have x7f := hX.row.frozen j
        obtain ⟨u7, hu7⟩ : ∃ u, (rowC bd j)[j]? = some u := ⟨_, List.getElem?_eq_getElem (by rw [rowC_len]; exact hj)⟩
        have x7 := hX.row.cell hu7
        have y8 := (hX.at_.apart (show g4 + 1 + 1 ≠ g4 + 1 by omega) j (.int .i64 (iw (vN bd j)))).cell (j := 0) rfl
        have y8f := (hX.at_.apart (show g4 + 1 + 1 ≠ g4 + 1 by omega) j (.int .i64 (iw (vN bd j)))).frozen 0
        have HG := get_any A 52 c bd (offN j : Int) (szN j : Int) X Hn.out hc1 hcm1 hX.rd (by omega) (by omega)
        rw [hgI, hgE, show getV bd (offN j : Int) (szN j : Int) = vN bd j from rfl] at HG
        obtain ⟨v, hv⟩ : ∃ v, vN bd j = v := ⟨_, rfl⟩
        rw [hv] at HG HST y8 y8f
        obtain ⟨r, hrr⟩ : ∃ r, iw v = r := ⟨_, rfl⟩
        rw [hrr] at HST y8 y8f
        have hiw : IntKind.i64.wrap (v : Int) = r := hrr
        obtain ⟨o, ho⟩ : ∃ o, offN j = o := ⟨_, rfl⟩
        obtain ⟨o', ho'⟩ : ∃ o, offN (j + 1) = o := ⟨_, rfl⟩
        rw [ho, ho'] at HG
        rw [ho] at x8 y8
        rw [ho'] at HST
        obtain ⟨zz, hzz⟩ : ∃ y, szN j = y := ⟨_, rfl⟩
        rw [hzz] at HG ⊢
        have HG := hide HG
        have HST := hide HST
        clear hU hXX hX hgI hgE hv hrr ho ho' hzz hof z1 z2 hu7
        gi_wp2_with fail
        refine ⟨trivial, (callsIn_wide.2 HG.out).mono ?_⟩
        rintro e X2 ⟨rfl, rfl⟩
        gi_wp2_with fail
        exact ⟨HST.out.2, HST.out.1, hj⟩
      case done =>
        intro j W hU hnm hDq
        obtain ⟨hU, hj8⟩ := hU
        rw [hsz] at hDq ⊢
        obtain rfl : j = 8 := by omega
        obtain ⟨x7, x8, x4, xg, xr, _, xb, xs⟩ := hU
        have c1 := x4.cell (j := 1) rfl
        have d0 := x7.cell (j := 0) (v := .int .i64 (iw (vN bd 0))) rfl
        have d1 := x7.cell (j := 1) (v := .int .i64 (iw (vN bd 1))) rfl
        have d2 := x7.cell (j := 2) (v := .int .i64 (iw (vN bd 2))) rfl
        have d3 := x7.cell (j := 3) (v := .int .i64 (iw (vN bd 3))) rfl
        have d4 := x7.cell (j := 4) (v := .int .i64 (iw (vN bd 4))) rfl
        have d5 := x7.cell (j := 5) (v := .int .i64 (iw (vN bd 5))) rfl
        have d6 := x7.cell (j := 6) (v := .int .i64 (iw (vN bd 6))) rfl
        have d7 := x7.cell (j := 7) (v := .int .i64 (iw (vN bd 7))) rfl
        have h7 := vN_lt bd 7
        have hu7 : IntKind.u32.wrap (iw (vN bd 7)) = ((vN bd 7 : Nat) : Int) := by
          have e : iw (vN bd 7) = ((vN bd 7 : Nat) : Int) := by unfold iw; rw [IntKind.wrap_i64]; simp [szN] at h7; omega
          rw [e]
          unfold IntKind.wrap
          simp [szN] at h7
          simp [IntKind.signed, IntKind.bits]
          omega
        have hd : decS ser bd = ⟨ser, iw (vN bd 0), iw (vN bd 1), iw (vN bd 2), iw (vN bd 3), iw (vN bd 4), iw (vN bd 5), iw (vN bd 6), vN bd 7⟩ := rfl
        rw [hd] at HCH HV
        generalize iw (vN bd 0) = r0 at d0 HCH HV
        generalize iw (vN bd 1) = r1 at d1 HCH HV
        generalize iw (vN bd 2) = r2 at d2 HCH HV
        generalize iw (vN bd 3) = r3 at d3 HCH HV
        generalize iw (vN bd 4) = r4 at d4 HCH HV
        generalize iw (vN bd 5) = r5 at d5 HCH HV
        generalize iw (vN bd 6) = r6 at d6 HCH HV
        generalize iw (vN bd 7) = r7 at d7 hu7
        generalize vN bd 7 = ch at hu7 HCH HV h7
        have Hm := hide (show MarksAt (g4 + 3) W [g4 + 3] from ⟨by simp, fun k hk => by simp at hk; subst hk; exact ⟨Nat.le_refl _, hDq⟩⟩)
        obtain ⟨W1, hW1⟩ : ∃ y, W.alloc (.cells #[.int .u64 (ser : Int), .int .i64 r0, .int .i64 r1, .int .i64 r2, .int .i64 r3, .int .i64 r4, .int .i64 r5, .int .i64 r6, .int .u32 (ch : Int)] 25) = y := ⟨_, rfl⟩
        obtain ⟨g9, hg9⟩ : ∃ y, W.heap.size = y := ⟨_, rfl⟩
        have hN1 : Blk W1 g9 [.int .u64 (ser : Int), .int .i64 r0, .int .i64 r1, .int .i64 r2, .int .i64 r3, .int .i64 r4, .int .i64 r5, .int .i64 r6, .int .u32 (ch : Int)] 25 := by rw [← hW1, ← hg9]; exact Blk.new W _ _
        have hb01 : Below W.heap.size W W1 := by rw [← hW1]; exact (Below.refl _ _).alloc (Nat.le_refl _) _
        have hxg1 := xg.below hb01
        have HW1 := hide hW1
        have Hg9 := hide hg9
        have HCW := hide (HCH.out W1)
        have HE2 := hide HE.out
        clear hDq x7 x8 x4 xr hd HE HCH hW1 hg9 h7
        gi_wp2_with fail
        rw [HW1.out, Hg9.out]
        have y0 := Blk.cell hN1 (j := 0) rfl; have y1 := Blk.cell hN1 (j := 1) rfl; have y2 := Blk.cell hN1 (j := 2) rfl; have y3 := Blk.cell hN1 (j := 3) rfl; have y4 := Blk.cell hN1 (j := 4) rfl; have y5 := Blk.cell hN1 (j := 5) rfl; have y6 := Blk.cell hN1 (j := 6) rfl; have y7 := Blk.cell hN1 (j := 7) rfl; have y8 := Blk.cell hN1 (j := 8) rfl
        gi_wp2_with fail
        refine ⟨trivial, (callsIn_wide.2 HCW.out).mono ?_⟩
        rintro e W2 ⟨rfl, hb2⟩
        have hN2 := hN1.below hb2
        have hG3 := hxg1.below hb2
        have hbb : Below W.heap.size W W2 := hb01.trans (hb2.mono hb01.size)
        have hbg : Below g w W2 := xb.trans (hbb.mono (by omega))
        have Hm2 := hide (Hm.out.keep (keeps9 hbb))
        have hsz2 := hbb.size
        have HX := hide (And.intro hG3 hbg)
        have hsC : ∀ (X : World) (q : Nat) (u : Value), Below g w X → Below g w (X.setCell ⟨g, q, none⟩ u) := fun X q u hX => hX.setCell (Nat.le_refl _) _
        have HsC := hide hsC
        clear y0 y1 y2 y3 y4 y5 y6 y7 y8 hN1 hb2 hb01 hbb hxg1 d0 d1 d2 d3 d4 d5 d6 d7 c1 hsC hbg
        have x0 := Blk.cell hN2 (j := 0) rfl; have x1 := Blk.cell hN2 (j := 1) rfl; have x2 := Blk.cell hN2 (j := 2) rfl; have x3 := Blk.cell hN2 (j := 3) rfl; have x4 := Blk.cell hN2 (j := 4) rfl; have x5 := Blk.cell hN2 (j := 5) rfl; have x6 := Blk.cell hN2 (j := 6) rfl; have x7 := Blk.cell hN2 (j := 7) rfl; have x8 := Blk.cell hN2 (j := 8) rfl
        have y0 := Blk.cell hG3 (j := 0) rfl; have y1 := Blk.cell hG3 (j := 1) rfl; have y2 := Blk.cell hG3 (j := 2) rfl; have y3 := Blk.cell hG3 (j := 3) rfl; have y4 := Blk.cell hG3 (j := 4) rfl; have y5 := Blk.cell hG3 (j := 5) rfl; have y6 := Blk.cell hG3 (j := 6) rfl; have y7 := Blk.cell hG3 (j := 7) rfl; have y8 := Blk.cell hG3 (j := 8) rfl
        have z0 := hG3.frozen 0; have z1 := hG3.frozen 1; have z2 := hG3.frozen 2; have z3 := hG3.frozen 3; have z4 := hG3.frozen 4; have z5 := hG3.frozen 5; have z6 := hG3.frozen 6; have z7 := hG3.frozen 7; have z8 := hG3.frozen 8
        have hcv := HV.out
        by_cases he : EE = 0
        · rw [if_pos he] at hcv
          subst hcv
          subst he
          have hKO : ∀ (X : World) (q : Nat) (u : Value), KeepsOthers X (X.setCell ⟨g, q, none⟩ u) := fun X q u => KeepsOthers.setCell _ _ _
          have HKO := hide hKO
          clear hG3 hN2 hKO
          gi_wp2
          have hG3 := HX.out.1
          refine leaves_marks (B := g4 + 3) [g4 + 3] _ (((((((((Hm2.out.keep (HKO.out _ _ _)).keep (HKO.out _ _ _)).keep (HKO.out _ _ _)).keep (HKO.out _ _ _)).keep (HKO.out _ _ _)).keep (HKO.out _ _ _)).keep (HKO.out _ _ _)).keep (HKO.out _ _ _)).keep (HKO.out _ _ _)) ?_
          intro W' hca hbl
          refine ⟨_, results_cell2 rfl rfl (show Blk W' g _ _ from hca _ _ rfl (((((((((hG3.set 0 _).set 1 _).set 2 _).set 3 _).set 4 _).set 5 _).set 6 _).set 7 _).set 8 _)) Tryz.underlying25 rfl (by kernel_rfl), rfl, ?_⟩
          show Below w.heap.size w W'
          rw [Hg.out]
          exact (HsC.out _ _ _ (HsC.out _ _ _ (HsC.out _ _ _ (HsC.out _ _ _ (HsC.out _ _ _ (HsC.out _ _ _ (HsC.out _ _ _ (HsC.out _ _ _ (HsC.out _ _ _ HX.out.2))))))))).trans (hbl.mono (by omega))
        · rw [if_neg he] at hcv
          subst hcv
          have q1 : (EE != 0) = true := by simpa using he
          have hKO : ∀ (X : World) (q : Nat) (u : Value), KeepsOthers X (X.setCell ⟨g, q, none⟩ u) := fun X q u => KeepsOthers.setCell _ _ _
          have HKO := hide hKO
          clear hG3 hN2 hKO he
          gi_wp2
          have hG3 := HX.out.1
          refine leaves_marks (B := g4 + 3) [g4 + 3] _ (((((((((Hm2.out.keep (HKO.out _ _ _)).keep (HKO.out _ _ _)).keep (HKO.out _ _ _)).keep (HKO.out _ _ _)).keep (HKO.out _ _ _)).keep (HKO.out _ _ _)).keep (HKO.out _ _ _)).keep (HKO.out _ _ _)).keep (HKO.out _ _ _)) ?_
          intro W' hca hbl
          refine ⟨_, results_cell2 rfl rfl (show Blk W' g _ _ from hca _ _ rfl (((((((((hG3.set 0 _).set 1 _).set 2 _).set 3 _).set 4 _).set 5 _).set 6 _).set 7 _).set 8 _)) Tryz.underlying25 rfl (by kernel_rfl), rfl, ?_⟩
          show Below w.heap.size w W'
          rw [Hg.out]
          exact (HsC.out _ _ _ (HsC.out _ _ _ (HsC.out _ _ _ (HsC.out _ _ _ (HsC.out _ _ _ (HsC.out _ _ _ (HsC.out _ _ _ (HsC.out _ _ _ (HsC.out _ _ _ HX.out.2))))))))).trans (hbl.mono (by omega))
  · rw [if_pos h1] at hE
    subst hE
    rw [if_neg h1] at hV
    subst hV
    have q1 : (EE != 0) = true := by simpa using h1
    go_enter Tryz.func41, Tryz.ntmps41
    go_wp2_with fail
    rw [Hw0.out]
    go_fit HRD.out
    rintro x w1 ⟨v, rfl, hO, hb1⟩
    obtain ⟨A1, c1, rfl, _, hc1, hcm1, hr1, ha1⟩ := own_out hO
    have hG1 := hG.below hb1
    have hbw := hb0.trans (hb1.mono hb0.size)
    rw [Hg.out]
    have hG2 := hG1.alloc (.cells #[.int .u8 (kk : Int), .int .u64 (ser : Int), .slice A1 n c1] 80)
    have y0 := Blk.cell hG2 (j := 0) rfl; have y1 := Blk.cell hG2 (j := 1) rfl; have y2 := Blk.cell hG2 (j := 2) rfl; have y3 := Blk.cell hG2 (j := 3) rfl; have y4 := Blk.cell hG2 (j := 4) rfl; have y5 := Blk.cell hG2 (j := 5) rfl; have y6 := Blk.cell hG2 (j := 6) rfl; have y7 := Blk.cell hG2 (j := 7) rfl; have y8 := Blk.cell hG2 (j := 8) rfl
    have z0 := hG2.frozen 0; have z1 := hG2.frozen 1; have z2 := hG2.frozen 2; have z3 := hG2.frozen 3; have z4 := hG2.frozen 4; have z5 := hG2.frozen 5; have z6 := hG2.frozen 6; have z7 := hG2.frozen 7; have z8 := hG2.frozen 8
    have hbX := hbw.alloc hbw.size (.cells #[.int .u8 (kk : Int), .int .u64 (ser : Int), .slice A1 n c1] 80)
    have hsC : ∀ (X : World) (q : Nat) (u : Value), Below w.heap.size w X → Below w.heap.size w (X.setCell ⟨g, q, none⟩ u) := fun X q u hX => hX.setCell (by show w.heap.size ≤ g; rw [Hg.out]; exact Nat.le_refl _) _
    have HX := hide (And.intro hG2 hbX)
    have HsC := hide hsC
    clear hO hr1 ha1 HRD hG2 hbX hsC
    go_wp2_with fail
    have hG2 := HX.out.1
    refine bodyPost_ret (results_cell2 rfl rfl (((((((((hG2.set 0 _).set 1 _).set 2 _).set 3 _).set 4 _).set 5 _).set 6 _).set 7 _).set 8 _) Tryz.underlying25 rfl (by kernel_rfl)) rfl ?_
    exact ⟨rfl, HsC.out _ _ _ (HsC.out _ _ _ (HsC.out _ _ _ (HsC.out _ _ _ (HsC.out _ _ _ (HsC.out _ _ _ (HsC.out _ _ _ (HsC.out _ _ _ (HsC.out _ _ _ HX.out.2))))))))⟩
end Go.Proofs.YtoaodmidegkolaaGreatDoor
namespace Go.Proofs.YtoaodmidegkolaaGreatDoor
set_option maxRecDepth 20000
open Go.RowKit Go.Px
set_option linter.unusedVariables false
theorem tU64s9 : SlT Tryz.prog 110 22 1 8 := slT_mk Tryz.underlying110 (z := .int .u64 0) (by kernel_rfl) rfl (by decide)
set_option maxHeartbeats 1600000 in
theorem rputall9 (A : Option Addr) (m c : Nat) (xs : List UInt8) (z : Nat) (B : Option Addr) (k d : Nat) (l : List Nat) (w : World) (hm : xs.length = m) (hm8 : m ≤ 4096) (hrA : Rd w A (bys xs)) (hz1 : 1 ≤ z) (hz8 : z ≤ 8) (hk : l.length = k) (hk8 : k ≤ 64) (hB : Rd w B (u64s l)) (hl : ∀ v ∈ l, v < 256 ^ z ∧ v < 18446744073709551616) :
    Calls Tryz.prog 61 #[.slice A m c, .int .i64 (z : Int), .slice B k d] w fun e w' => ∃ u, e = .returned (.tuple #[u, .int .i64 0]) ∧ w'.ownsRow w.heap.size 5 1 u (m + k * z) (bys (xs ++ flatB z l)) ∧ Below w.heap.size w w' := by
  have Hk := hide hk
  have hkz : k * z ≤ 512 := Nat.mul_le_mul hk8 hz8
  clear hk
  go_enter Tryz.func61, Tryz.ntmps61
  go_wp2_with (first | (with_reducible refine stop_append rfl ?_) | (with_reducible refine stop_copy rfl ?_) | (with_reducible refine stop_make rfl ?_))
  refine (Grow.empty w _ _).append rfl rfl tBytes rfl rfl (m := m) (news := bys xs) (by rw [bys_length]; omega) (hrA.alloc _) (bys_one _) (by omega) (by omega) ?_
  intro v1 w1 hG1 _
  rw [Nat.zero_add, List.nil_append] at hG1
  go_wp2
  go_loopw [8, 9] (fun u i wr => ∃ j : Nat, j ≤ k ∧ i = .int .i64 (j : Int) ∧ Grow (w.alloc (.cells #[] 5)) (.slice (some ⟨w.heap.size, 0, none⟩) 0 0) w.heap.size 5 1 wr u (m + j * z) (bys (xs ++ flatB z (l.take j)))) (fun _ i _ => k - (intOf i).toNat)
  case atStart => exact ⟨0, by omega, rfl, by simpa [flatB] using hG1⟩
  case round =>
    obtain ⟨j, hj, rfl, hG⟩ := hrel
    by_cases hlt : j < k
    · have hjl : j < l.length := by rw [Hk.out]; exact hlt
      obtain ⟨ab, hab, hcb⟩ := (hB.below hG.emptyAll) j _ (u64s_get hjl)
      subst hab
      have HF := hide (show xs ++ flatB z (l.take (j + 1)) = (xs ++ flatB z (l.take j)) ++ leB z l[j] by rw [flatB_snoc z l j hjl, List.append_assoc])
      have hjz : j * z + z ≤ k * z := by rw [← Nat.succ_mul]; exact Nat.mul_le_mul_right _ hlt
      have Hjz := hide (show (j + 1) * z = j * z + z from Nat.succ_mul j z)
      obtain ⟨hv1, hv⟩ := hl _ (List.getElem_mem hjl)
      obtain ⟨v, hvv⟩ : ∃ v, l[j] = v := ⟨_, rfl⟩
      rw [hvv] at hcb HF hv hv1
      have HR := hide (rfits_any v z wr hv hz8)
      rw [show decide (v < 256 ^ z) = true from decide_eq_true hv1] at HR
      obtain ⟨L, hL⟩ : ∃ L, xs ++ flatB z (l.take j) = L := ⟨_, rfl⟩
      rw [hL] at hG HF
      obtain ⟨jz, hjzz⟩ : ∃ y, j * z = y := ⟨_, rfl⟩
      rw [hjzz] at hG hjz Hjz
      clear hvv hjl hL hv1 hjzz
      go_wp2_with fail
      go_fit HR.out
      rintro e w2 ⟨rfl, rfl⟩
      go_wp2_with fail
      go_loopw [8, 10, 11] (fun u x i W => ∃ q : Nat, q ≤ z ∧ i = .int .i64 (q : Int) ∧ x = .int .u64 ((v / 256 ^ q : Nat) : Int) ∧ Grow (w.alloc (.cells #[] 5)) (.slice (some ⟨w.heap.size, 0, none⟩) 0 0) w.heap.size 5 1 W u (m + jz + q) (bys (L ++ leB q v))) (fun _ _ i _ => 8 - (intOf i).toNat)
      case atStart => exact ⟨0, Nat.zero_le _, rfl, by simp, by simpa [leB] using hG⟩
      case round =>
        obtain ⟨q, hq8, rfl, rfl, hG2⟩ := hrel
        have hle : v / 256 ^ q ≤ v := Nat.div_le_self _ _
        have Hs := hide (div_pow_succ v q)
        have Hb := hide (leB_snoc q v)
        obtain ⟨r, hr⟩ : ∃ r, v / 256 ^ q = r := ⟨_, rfl⟩
        rw [hr] at hle ⊢
        have Hr := hide hr
        clear hr
        by_cases hlt2 : q < z
        · go_wp2_with (first | (with_reducible refine stop_append rfl ?_) | (with_reducible refine stop_copy rfl ?_) | (with_reducible refine stop_make rfl ?_))
          refine hG2.push rfl rfl rfl tBytes rfl rfl rfl (by omega) (by omega) ?_
          intro u' w4 hG4 _
          go_wp2
          go_roundw
          case rel =>
            refine ⟨q + 1, by omega, by go_num, ?_, ?_⟩
            · rw [← Hs.out, Hr.out]; simp
            · rw [Hb.out, ← List.append_assoc, bys_append _ [UInt8.ofNat (v / 256 ^ q % 256)], Hr.out]
              have e : (r : Int) % 256 = ((UInt8.ofNat (r % 256)).toNat : Int) := by rw [toNat_ofNat_mod]; simp
              rw [e] at hG4
              exact hG4
          case measure => simp [intOf]; omega
        · obtain rfl : q = z := by omega
          go_wp2
          go_roundw
          case rel => exact ⟨j + 1, by omega, by go_num, by rw [HF.out, Hjz.out, ← Nat.add_assoc]; exact hG2⟩
          case measure => simp [intOf]; omega
    · have hjk : j = k := by omega
      subst hjk
      rw [List.take_of_length_le (by rw [Hk.out]; exact Nat.le_refl _)] at hG
      go_wp2
      go_ret2
      exact ⟨_, rfl, hG.owns, hG.emptyAll⟩
def getR (bs : List UInt8) (i z k : Nat) : List Nat := (List.range k).map fun j => getV bs ((i + j * z : Nat) : Int) (z : Int)
theorem getR_snoc (bs : List UInt8) (i z k : Nat) : getR bs i z (k + 1) = getR bs i z k ++ [getV bs ((i + k * z : Nat) : Int) (z : Int)] := by
  unfold getR; rw [List.range_succ, List.map_append]; rfl
theorem getR_len (bs : List UInt8) (i z k : Nat) : (getR bs i z k).length = k := by simp [getR]
theorem u64s_snoc (l : List Nat) (v : Nat) : u64s (l ++ [v]) = u64s l ++ [.int .u64 (v : Int)] := by simp [u64s]
set_option maxHeartbeats 1600000 in
theorem rgetall9 (A : Option Addr) (m c : Nat) (bs : List UInt8) (i z k : Nat) (w : World) (hm : bs.length = m) (hm8 : m ≤ 549755813888) (hmc : m ≤ c) (hc : c ≤ 9223372036854775807) (hr : Rd w A (bys bs)) (hz1 : 1 ≤ z) (hz8 : z ≤ 8) (hk8 : k ≤ 64) (hik : i + k * z ≤ m) :
    Calls Tryz.prog 79 #[.slice A m c, .int .i64 (i : Int), .int .i64 (z : Int), .int .i64 (k : Int)] w fun e w' => ∃ u, e = .returned (.tuple #[u, .int .i64 ((i + k * z : Nat) : Int), .int .i64 0]) ∧ w'.ownsRow w.heap.size 22 1 u k (u64s (getR bs i z k)) ∧ Below w.heap.size w w' := by
  have Hm := hide hm
  have q1 : decide ((z : Int) < 1) = false := decide_eq_false (by omega)
  have q2 : decide ((8 : Int) < (z : Int)) = false := decide_eq_false (by omega)
  have q3 : decide ((i : Int) < 0) = false := decide_eq_false (by omega)
  have q4 : decide (m < i) = false := decide_eq_false (by omega)
  clear hm
  go_enter Tryz.func79, Tryz.ntmps79
  go_wp2_with fail
  go_loopw [1, 11, 12] (fun p u v W => ∃ j : Nat, j ≤ k ∧ v = .int .i64 (j : Int) ∧ p = .int .i64 ((i + j * z : Nat) : Int) ∧ Grow w (.slice none 0 0) w.heap.size 22 1 W u j (u64s (getR bs i z j))) (fun _ _ v _ => k - (intOf v).toNat)
  case atStart => exact ⟨0, by omega, rfl, by simp, Grow.nil _ _ _⟩
  case round =>
    obtain ⟨j, hj, rfl, rfl, hG⟩ := hrel
    by_cases hlt : j < k
    · have hjz : i + j * z + z ≤ m := by
        have : j * z + z ≤ k * z := by rw [← Nat.succ_mul]; exact Nat.mul_le_mul_right _ hlt
        omega
      have hI := getI_in (bd := bs) hz1 hz8 (a := i + j * z) (by rw [Hm.out]; exact hjz)
      have hE := getE_in (bd := bs) hz1 hz8 (a := i + j * z) (by rw [Hm.out]; exact hjz)
      have hS := getR_snoc bs i z j
      have hgr := rget_any A m c bs ((i + j * z : Nat) : Int) (z : Int) wr Hm.out hmc hc (hr.below hG.all) (by omega) (by omega)
      rw [hI, hE] at hgr
      obtain ⟨v, hv⟩ : ∃ v, getV bs ((i + j * z : Nat) : Int) (z : Int) = v := ⟨_, rfl⟩
      rw [hv] at hgr hS
      have hnx : i + j * z + z = i + (j + 1) * z := by rw [Nat.succ_mul]; omega
      obtain ⟨a, ha⟩ : ∃ a, i + j * z = a := ⟨_, rfl⟩
      rw [ha] at hgr hnx
      have HN := hide hnx
      have HS := hide hS
      have HG := hide hgr
      clear hgr hS hnx hv hI hE hjz
      rw [ha]
      clear ha
      go_wp2_with fail
      go_fit HG.out
      rintro e w2 ⟨rfl, rfl⟩
      clear HG
      go_wp2_with (first | (with_reducible refine stop_append rfl ?_) | (with_reducible refine stop_copy rfl ?_) | (with_reducible refine stop_make rfl ?_))
      refine hG.push rfl rfl rfl tU64s9 rfl rfl rfl (by omega) (by omega) ?_
      intro v2 w3 hG3 _
      rw [← u64s_snoc, ← HS.out] at hG3
      have HG3 := hide hG3
      clear hG3
      go_wp2
      go_roundw
      case rel => exact ⟨j + 1, by omega, by go_num, by rw [← HN.out, Int.natCast_add], HG3.out⟩
      case measure => simp [intOf]; omega
    · obtain rfl : j = k := by omega
      obtain ⟨A3, c3, rfl, _⟩ := own_out hG.owns
      have HG := hide hG
      clear hG
      go_wp2
      refine bodyPost_ret (results_tmp3 rfl _ _ _) rfl ?_
      exact ⟨_, rfl, HG.out.owns, HG.out.all⟩
end Go.Proofs.YtoaodmidegkolaaGreatDoor
namespace Go.Proofs.YtoaodmidegkolaaGreatDoor
set_option maxRecDepth 20000
open Go.RowKit Go.Px
set_option linter.unusedVariables false
theorem body_two (a b c d e f g h : Nat) : flatB 8 [a, b, c, d, e] ++ flatB 4 [f, g, h] = bodN [a, b, c, d, e, f, g, h] 8 := by
  simp [bodN, flatB, szN, List.range_succ]
set_option maxHeartbeats 3200000 in
theorem rsenc_any (s : Sup) (w : World) (hs : s.ser < 18446744073709551616) (hc : s.ch < 4294967296) :
    Calls Tryz.prog 42 #[.agg s.cells.toArray] w fun e w' => ∃ v, e = .returned (.tuple #[v, .int .i64 s.E]) ∧ w'.ownsRow w.heap.size 5 1 v (supB s).length (bys (supB s)) ∧ Below w.heap.size w w' := by
  have HCH := hide (fun W => rschk_any s W)
  by_cases hok : s.Ok
  · have hE : s.E = 0 := if_pos hok
    have hB : supB s = frmB 1 s.ser (bodN s.nums 8) := if_pos hok
    rw [hE] at HCH
    have hB8 := bodN_eight s.nums
    obtain ⟨ser, ep, vw, nm, tp, bs, ar, st, ch⟩ := s
    obtain ⟨⟨a1, a2⟩, ⟨b1, b2⟩, ⟨c1, c2⟩, ⟨d1, d2⟩, ⟨e1, e2⟩, f1, f2, g1, g2⟩ := hok
    simp only at a1 a2 b1 b2 c1 c2 d1 d2 e1 e2 f1 f2 g1 g2 hs hc
    obtain ⟨ep, rfl⟩ : ∃ n : Nat, ep = n := ⟨ep.toNat, by omega⟩
    obtain ⟨vw, rfl⟩ : ∃ n : Nat, vw = n := ⟨vw.toNat, by omega⟩
    obtain ⟨nm, rfl⟩ : ∃ n : Nat, nm = n := ⟨nm.toNat, by omega⟩
    obtain ⟨tp, rfl⟩ : ∃ n : Nat, tp = n := ⟨tp.toNat, by omega⟩
    obtain ⟨bs, rfl⟩ : ∃ n : Nat, bs = n := ⟨bs.toNat, by omega⟩
    obtain ⟨ar, rfl⟩ : ∃ n : Nat, ar = n := ⟨ar.toNat, by omega⟩
    obtain ⟨st, rfl⟩ : ∃ n : Nat, st = n := ⟨st.toNat, by omega⟩
    have hl : Sup.nums ⟨ser, (ep : Int), vw, nm, tp, bs, ar, st, ch⟩ = [ep, vw, nm, tp, bs, ar, st, ch] := rfl
    rw [hl] at hB hB8
    rw [hE, hB]
    have hlen : (frmB 1 ser (bodN [ep, vw, nm, tp, bs, ar, st, ch] 8)).length = 52 + 20 := by rw [frmB_length, hB8]
    rw [hlen]
    obtain ⟨w0, hw0⟩ : ∃ y, w.alloc (.cells #[.int .u64 (ser : Int), .int .i64 (ep : Int), .int .i64 (vw : Int), .int .i64 (nm : Int), .int .i64 (tp : Int), .int .i64 (bs : Int), .int .i64 (ar : Int), .int .i64 (st : Int), .int .u32 (ch : Int)] 25) = y := ⟨_, rfl⟩
    obtain ⟨g, hg⟩ : ∃ g, w.heap.size = g := ⟨_, rfl⟩
    have hG : Blk w0 g [.int .u64 (ser : Int), .int .i64 (ep : Int), .int .i64 (vw : Int), .int .i64 (nm : Int), .int .i64 (tp : Int), .int .i64 (bs : Int), .int .i64 (ar : Int), .int .i64 (st : Int), .int .u32 (ch : Int)] 25 := by rw [← hw0, ← hg]; exact Blk.new w _ _
    have hb0 : Below w.heap.size w w0 := by rw [← hw0]; exact (Below.refl _ _).alloc (Nat.le_refl _) _
    have hbt := body_two ep vw nm tp bs ar st ch
    have hl5 : ∀ v ∈ [ep, vw, nm, tp, bs], v < 256 ^ 8 ∧ v < 18446744073709551616 := fun v hv => by simp at hv; rcases hv with h | h | h | h | h <;> subst h <;> constructor <;> omega
    have hl3 : ∀ v ∈ [ar, st, ch], v < 256 ^ 4 ∧ v < 18446744073709551616 := fun v hv => by simp at hv; rcases hv with h | h | h <;> subst h <;> constructor <;> omega
    have y0 := Blk.cell hG (j := 0) rfl; have y1 := Blk.cell hG (j := 1) rfl; have y2 := Blk.cell hG (j := 2) rfl; have y3 := Blk.cell hG (j := 3) rfl; have y4 := Blk.cell hG (j := 4) rfl; have y5 := Blk.cell hG (j := 5) rfl; have y6 := Blk.cell hG (j := 6) rfl; have y7 := Blk.cell hG (j := 7) rfl; have y8 := Blk.cell hG (j := 8) rfl
    have Hw0 := hide hw0
    have Hg := hide hg
    have HB8 := hide hB8
    have Hbt := hide hbt
    have Hl5 := hide hl5
    have Hl3 := hide hl3
    clear hE hB hl hlen hw0 hg hB8 hbt hl5 hl3
    go_enter Tryz.func42, Tryz.ntmps42
    go_wp2_with fail
    rw [Hw0.out, Hg.out]
    go_wp2_with fail
    go_fit (HCH.out w0)
    rintro x w1 ⟨rfl, hb1⟩
    have hb01 := hb0.trans (hb1.mono hb0.size)
    have hG1 := hG.below hb1
    clear y0 y1 y2 y3 y4 y5 y6 y7 y8 HCH hG hb0
    have y0 := Blk.cell hG1 (j := 0) rfl; have y1 := Blk.cell hG1 (j := 1) rfl; have y2 := Blk.cell hG1 (j := 2) rfl; have y3 := Blk.cell hG1 (j := 3) rfl; have y4 := Blk.cell hG1 (j := 4) rfl; have y5 := Blk.cell hG1 (j := 5) rfl; have y6 := Blk.cell hG1 (j := 6) rfl; have y7 := Blk.cell hG1 (j := 7) rfl; have y8 := Blk.cell hG1 (j := 8) rfl
    go_wp2_with fail
    obtain ⟨w2, hw2⟩ : ∃ z, w1.alloc (.cells #[.int .u64 (ep : Int), .int .u64 (vw : Int), .int .u64 (nm : Int), .int .u64 (tp : Int), .int .u64 (bs : Int)] 22) = z := ⟨_, rfl⟩
    have hb12 : Below w1.heap.size w1 w2 := by rw [← hw2]; exact (Below.refl _ _).alloc (Nat.le_refl _) _
    have hR2 : Rd w2 (some ⟨w1.heap.size, 0, none⟩) (u64s [ep, vw, nm, tp, bs]) := by rw [← hw2]; exact Rd.newN w1 (u64s [ep, vw, nm, tp, bs]) _ (0, 0)
    have hG2 := hG1.below hb12
    have hb02 := hb01.trans (hb12.mono hb01.size)
    have HP := hide (rputall9 none 0 0 [] 8 (some ⟨w1.heap.size, 0, none⟩) 5 5 [ep, vw, nm, tp, bs] w2 rfl (by omega) Rd.nil (by omega) (by omega) rfl (by omega) hR2 Hl5.out)
    rw [hw2]
    have Hw2 := hide hw2
    clear y0 y1 y2 y3 y4 y5 y6 y7 y8 hG1 hR2 hw2 hb01
    go_fit HP.out
    rintro x w3 ⟨v, rfl, hO, hb3⟩
    obtain ⟨A, c, rfl, hlA, hcA, hcmA, hrA, haA⟩ := own_out hO
    unfold maxLen at hcmA
    rw [List.nil_append] at hrA hlA
    have hb03 := hb02.trans (hb3.mono hb02.size)
    have hG3 := hG2.below hb3
    clear HP hO hG2
    have y0 := Blk.cell hG3 (j := 0) rfl; have y1 := Blk.cell hG3 (j := 1) rfl; have y2 := Blk.cell hG3 (j := 2) rfl; have y3 := Blk.cell hG3 (j := 3) rfl; have y4 := Blk.cell hG3 (j := 4) rfl; have y5 := Blk.cell hG3 (j := 5) rfl; have y6 := Blk.cell hG3 (j := 6) rfl; have y7 := Blk.cell hG3 (j := 7) rfl; have y8 := Blk.cell hG3 (j := 8) rfl
    go_wp2_with fail
    obtain ⟨w4, hw4⟩ : ∃ z, w3.alloc (.cells #[.int .u64 (ar : Int), .int .u64 (st : Int), .int .u64 (ch : Int)] 22) = z := ⟨_, rfl⟩
    have hb34 : Below w3.heap.size w3 w4 := by rw [← hw4]; exact (Below.refl _ _).alloc (Nat.le_refl _) _
    have hR4 : Rd w4 (some ⟨w3.heap.size, 0, none⟩) (u64s [ar, st, ch]) := by rw [← hw4]; exact Rd.newN w3 (u64s [ar, st, ch]) _ (0, 0)
    have hG4 := hG3.below hb34
    have hb04 := hb03.trans (hb34.mono hb03.size)
    have HP2 := hide (rputall9 A 40 c (flatB 8 [ep, vw, nm, tp, bs]) 4 (some ⟨w3.heap.size, 0, none⟩) 3 3 [ar, st, ch] w4 (by rw [flatB_length]; rfl) (by omega) (hrA.below hb34) (by omega) (by omega) rfl (by omega) hR4 Hl3.out)
    rw [Hbt.out] at HP2
    rw [hw4]
    have Hw4 := hide hw4
    clear y0 y1 y2 y3 y4 y5 y6 y7 y8 hG3 hR4 hw4 hrA hlA haA
    go_fit HP2.out
    rintro x w5 ⟨v, rfl, hO, hb5⟩
    obtain ⟨A5, c5, rfl, _, hc5, hcm5, hr5, ha5⟩ := own_out hO
    unfold maxLen at hcm5
    have hb05 := hb04.trans (hb5.mono hb04.size)
    have hG5 := hG4.below hb5
    have y0 := hG5.cell (j := 0) rfl
    have HW := hide (rwrite_any 1 ser A5 52 c5 (bodN [ep, vw, nm, tp, bs, ar, st, ch] 8) w5 HB8.out (by omega) hc5 hcm5 hr5 (by omega) hs)
    clear HP2 hO hG4 hG5 hr5 ha5
    go_wp2_with fail
    go_fit HW.out
    rintro x w6 ⟨v, rfl, hO, hb6⟩
    obtain ⟨A6, c6, rfl, _⟩ := own_out hO
    have HO := hide (own_weak hO hb05.size)
    have hb06 := hb05.trans (hb6.mono hb05.size)
    clear hO y0 HW
    go_wp2
    refine bodyPost_ret (results_tmp2 rfl _ _ _) rfl ?_
    exact ⟨_, rfl, HO.out, hb06⟩
  · have hE : s.E = 90 := if_neg hok
    have hB : supB s = [] := if_neg hok
    rw [hE] at HCH
    rw [hE, hB]
    obtain ⟨ser, ep, vw, nm, tp, bs, ar, st, ch⟩ := s
    obtain ⟨w0, hw0⟩ : ∃ y, w.alloc (.cells #[.int .u64 (ser : Int), .int .i64 ep, .int .i64 vw, .int .i64 nm, .int .i64 tp, .int .i64 bs, .int .i64 ar, .int .i64 st, .int .u32 (ch : Int)] 25) = y := ⟨_, rfl⟩
    obtain ⟨g, hg⟩ : ∃ g, w.heap.size = g := ⟨_, rfl⟩
    have hG : Blk w0 g [.int .u64 (ser : Int), .int .i64 ep, .int .i64 vw, .int .i64 nm, .int .i64 tp, .int .i64 bs, .int .i64 ar, .int .i64 st, .int .u32 (ch : Int)] 25 := by rw [← hw0, ← hg]; exact Blk.new w _ _
    have hb0 : Below w.heap.size w w0 := by rw [← hw0]; exact (Below.refl _ _).alloc (Nat.le_refl _) _
    have y0 := Blk.cell hG (j := 0) rfl; have y1 := Blk.cell hG (j := 1) rfl; have y2 := Blk.cell hG (j := 2) rfl; have y3 := Blk.cell hG (j := 3) rfl; have y4 := Blk.cell hG (j := 4) rfl; have y5 := Blk.cell hG (j := 5) rfl; have y6 := Blk.cell hG (j := 6) rfl; have y7 := Blk.cell hG (j := 7) rfl; have y8 := Blk.cell hG (j := 8) rfl
    have Hw0 := hide hw0
    have Hg := hide hg
    clear hok hE hB hw0 hg
    go_enter Tryz.func42, Tryz.ntmps42
    go_wp2_with fail
    rw [Hw0.out, Hg.out]
    go_wp2_with fail
    go_fit (HCH.out w0)
    rintro x w1 ⟨rfl, hb1⟩
    go_wp2
    refine bodyPost_ret (results_tmp2 rfl _ _ _) rfl ?_
    exact ⟨_, rfl, World.ownsRow_nil _ _ _ _, hb0.trans (hb1.mono hb0.size)⟩
end Go.Proofs.YtoaodmidegkolaaGreatDoor
namespace Go.Proofs.YtoaodmidegkolaaGreatDoor
set_option maxRecDepth 20000
open Go.RowKit Go.Px
set_option linter.unusedVariables false
theorem iw_in {v : Nat} (h : v ≤ 4611686018427387904) : iw v = (v : Int) := by unfold iw; rw [IntKind.wrap_i64]; omega
theorem iw_out {v : Nat} (h : 4611686018427387904 < v) (h2 : v < 18446744073709551616) : ¬ numOk (iw v) := by
  unfold numOk iw; rw [IntKind.wrap_i64]; omega
theorem getR_five (bd : List UInt8) : getR bd 0 8 5 = [vN bd 0, vN bd 1, vN bd 2, vN bd 3, vN bd 4] := rfl
theorem own_cells9 {w : World} {base e : Nat} {v : Value} {n : Nat} {xs : List Value} (h : w.ownsRow base e 1 v n xs) (hn : 0 < n) : ∃ gl cl, v = .slice (some ⟨gl, 0, none⟩) n cl ∧ n ≤ cl ∧ ∀ k u, xs[k]? = some u → w.cell? ⟨gl, k, none⟩ = some u := by
  obtain ⟨hx, hcase⟩ := h
  rcases hcase with ⟨_, hnn⟩ | ⟨g, cap, cur, rfl, hbg, hg, hnc, hcm, hcs, htk⟩
  · omega
  · refine ⟨g, cap, rfl, hnc, fun k u hu => ?_⟩
    have hk : k < n := by
      have := (List.getElem?_eq_some_iff.1 hu).1
      omega
    have hB : Blk w g cur.toList e := by simpa [Blk] using hg
    refine hB.cell ?_
    have e1 : (cur.toList.take (n * 1))[k]? = xs[k]? := by rw [htk]
    rw [List.getElem?_take, if_pos (by omega)] at e1
    rw [e1, hu]
theorem below_cell9 {w w' : World} (hb : Below w.heap.size w w') {a : Addr} {u : Value} (h : w.cell? a = some u) : w'.cell? a = some u := (hb.cell (p := a) (World.block_lt_of_cell? w _ h)).trans h
theorem Sup.E_two (s : Sup) : s.E = 0 ∨ s.E = 90 := by unfold Sup.E; split <;> simp
theorem getR_three (bd : List UInt8) : getR bd 40 4 3 = [vN bd 5, vN bd 6, vN bd 7] := rfl
set_option maxRecDepth 100000 in
set_option maxHeartbeats 3200000 in
theorem rsdec_any (A0 : Option Addr) (m c0 : Nat) (b : List UInt8) (w : World) (hm : b.length = m) (hm8 : m ≤ 140737488355328) (hmc : m ≤ c0) (hc : c0 ≤ 9223372036854775807) (hr : Rd w A0 (bys b)) :
    Calls Tryz.prog 64 #[.slice A0 m c0] w fun e w' => e = .returned (.tuple #[.agg (sdecV b).cells.toArray, .int .i64 (sdecE b)]) ∧ Below w.heap.size w w' := by
  obtain ⟨w0, hw0⟩ : ∃ y, w.alloc (.cells #[.int .u64 0, .int .i64 0, .int .i64 0, .int .i64 0, .int .i64 0, .int .i64 0, .int .i64 0, .int .i64 0, .int .u32 0] 25) = y := ⟨_, rfl⟩
  obtain ⟨g, hg⟩ : ∃ g, w.heap.size = g := ⟨_, rfl⟩
  have hG : Blk w0 g sup0C 25 := by rw [← hw0, ← hg]; exact Blk.new w _ _
  have hb0 : Below w.heap.size w w0 := by rw [← hw0]; exact (Below.refl _ _).alloc (Nat.le_refl _) _
  have hz0 : w0.heap.size = g + 1 := by rw [← hw0, ← hg]; simp
  have HRD := hide (rread_any A0 m c0 b 0 w0 hm hm8 hmc hc (hr.below hb0) (by omega) (by omega))
  have hE : sdecE b = if rdE b 0 ≠ 0 then rdE b 0 else if rdK b 0 ≠ 1 ∨ (rdB b 0).length ≠ 52 then 90 else (decS (rdS b 0) (rdB b 0)).E := rfl
  have hV : sdecV b = if sdecE b = 0 then decS (rdS b 0) (rdB b 0) else sup0 := rfl
  generalize sdecV b = V at hV ⊢
  generalize sdecE b = EE at hE hV ⊢
  generalize rdE b 0 = er at hE HRD
  generalize rdK b 0 = kk at hE HRD
  generalize rdB b 0 = bd at hE hV HRD
  generalize rdS b 0 = ser at hE hV HRD
  generalize rdN b 0 = nn at HRD
  obtain ⟨n, hn⟩ : ∃ y, bd.length = y := ⟨_, rfl⟩
  rw [hn] at hE HRD
  have Hn := hide hn
  have Hw0 := hide hw0
  have Hg := hide hg
  have Hz0 := hide hz0
  clear hw0 hg hz0 hn hr hm
  by_cases h1 : er = 0
  · rw [if_neg (by simpa using h1)] at hE
    subst h1
    by_cases h2 : kk ≠ 1 ∨ n ≠ 52
    · rw [if_pos h2] at hE
      subst hE
      rw [if_neg (by omega)] at hV
      subst hV
      have qs : ((kk : Int) != 1) = true ∨ (((kk : Int) != 1) = false ∧ ((n : Int) != 52) = true) := by
        by_cases hk : kk = 1
        · right; subst hk; exact ⟨rfl, by simp; omega⟩
        · left; simp; omega
      clear h2
      rcases qs with q1 | ⟨q1, q2⟩
      all_goals
        go_enter Tryz.func64, Tryz.ntmps64
        go_wp2_with fail
        rw [Hw0.out]
        go_fit HRD.out
        rintro x w1 ⟨v, rfl, hO, hb1⟩
        obtain ⟨A1, c1, rfl, _, hc1, hcm1, hr1, ha1⟩ := own_out hO
        have hG1 := hG.below hb1
        have hbw := hb0.trans (hb1.mono hb0.size)
        rw [Hg.out]
        have hG2 := hG1.alloc (.cells #[.int .u8 (kk : Int), .int .u64 (ser : Int), .slice A1 n c1] 80)
        have y0 := Blk.cell hG2 (j := 0) rfl; have y1 := Blk.cell hG2 (j := 1) rfl; have y2 := Blk.cell hG2 (j := 2) rfl; have y3 := Blk.cell hG2 (j := 3) rfl; have y4 := Blk.cell hG2 (j := 4) rfl; have y5 := Blk.cell hG2 (j := 5) rfl; have y6 := Blk.cell hG2 (j := 6) rfl; have y7 := Blk.cell hG2 (j := 7) rfl; have y8 := Blk.cell hG2 (j := 8) rfl
        have z0 := hG2.frozen 0; have z1 := hG2.frozen 1; have z2 := hG2.frozen 2; have z3 := hG2.frozen 3; have z4 := hG2.frozen 4; have z5 := hG2.frozen 5; have z6 := hG2.frozen 6; have z7 := hG2.frozen 7; have z8 := hG2.frozen 8
        have hbX := hbw.alloc hbw.size (.cells #[.int .u8 (kk : Int), .int .u64 (ser : Int), .slice A1 n c1] 80)
        have hsC : ∀ (X : World) (q : Nat) (u : Value), Below w.heap.size w X → Below w.heap.size w (X.setCell ⟨g, q, none⟩ u) := fun X q u hX => hX.setCell (by show w.heap.size ≤ g; rw [Hg.out]; exact Nat.le_refl _) _
        have HX := hide (And.intro hG2 hbX)
        have HsC := hide hsC
        clear hO hr1 ha1 HRD hG2 hbX hsC
        go_wp2_with fail
        have hG2 := HX.out.1
        refine bodyPost_ret (results_cell2 rfl rfl (((((((((hG2.set 0 _).set 1 _).set 2 _).set 3 _).set 4 _).set 5 _).set 6 _).set 7 _).set 8 _) Tryz.underlying25 rfl (by kernel_rfl)) rfl ?_
        exact ⟨rfl, HsC.out _ _ _ (HsC.out _ _ _ (HsC.out _ _ _ (HsC.out _ _ _ (HsC.out _ _ _ (HsC.out _ _ _ (HsC.out _ _ _ (HsC.out _ _ _ (HsC.out _ _ _ HX.out.2))))))))⟩
    · rw [if_neg h2] at hE
      obtain ⟨rfl, rfl⟩ : kk = 1 ∧ n = 52 := by omega
      clear h2
      have hbad : ∀ j, j < 5 → 4611686018427387904 < vN bd j → EE = 90 := fun j hj hv => by
        rw [hE]
        refine Sup.E_bad (k := j) hj ?_
        have e : (decS ser bd).row.getD j 0 = iw (vN bd j) := by
          rcases (show j = 0 ∨ j = 1 ∨ j = 2 ∨ j = 3 ∨ j = 4 by omega) with rfl | rfl | rfl | rfl | rfl <;> rfl
        rw [e]
        have := vN_lt bd j
        refine iw_out hv (Nat.lt_of_lt_of_le this ?_)
        have : szN j = 8 := by unfold szN; rw [if_pos hj]
        rw [this]; decide
      have hgood : (∀ j, j < 5 → vN bd j ≤ 4611686018427387904) → decS ser bd = ⟨ser, (vN bd 0 : Nat), (vN bd 1 : Nat), (vN bd 2 : Nat), (vN bd 3 : Nat), (vN bd 4 : Nat), (vN bd 5 : Nat), (vN bd 6 : Nat), vN bd 7⟩ := fun h => by
        have h5 := vN_lt bd 5
        have h6 := vN_lt bd 6
        simp [szN] at h5 h6
        unfold decS
        rw [iw_in (h 0 (by omega)), iw_in (h 1 (by omega)), iw_in (h 2 (by omega)), iw_in (h 3 (by omega)), iw_in (h 4 (by omega)), iw_in (v := vN bd 5) (by omega), iw_in (v := vN bd 6) (by omega)]
      have h5 := vN_lt bd 5
      have h6 := vN_lt bd 6
      have h7 := vN_lt bd 7
      simp [szN] at h5 h6 h7
      have Hbad := hide hbad
      have Hgood := hide hgood
      have HE := hide hE
      have HV := hide hV
      have hGA := fun A c W h1 h2 h3 => rgetall9 A 52 c bd 0 8 5 W Hn.out (by omega) h1 h2 h3 (by omega) (by omega) (by omega) (by omega)
      have hGB := fun A c W h1 h2 h3 => rgetall9 A 52 c bd 40 4 3 W Hn.out (by omega) h1 h2 h3 (by omega) (by omega) (by omega) (by omega)
      rw [getR_five] at hGA
      rw [getR_three] at hGB
      have HGA := hide hGA
      have HGB := hide hGB
      clear hbad hgood hE hV hGA hGB
      go_enter Tryz.func64, Tryz.ntmps64
      go_wp2_with fail
      rw [Hw0.out, Hg.out]
      go_fit HRD.out
      rintro x w1 ⟨v, rfl, hO, hb1⟩
      obtain ⟨A, c, rfl, _, hc1, hcm1, hr1, ha1⟩ := own_out hO
      unfold maxLen at hcm1
      have hbw := hb0.trans (hb1.mono hb0.size)
      have hG1 := hG.below hb1
      rw [Hg.out] at hbw
      have hzg : g < w1.heap.size := hG1.lt
      clear hO HRD hG hb1 hb0
      obtain ⟨g4, hg4⟩ : ∃ y, w1.heap.size = y := ⟨_, rfl⟩
      obtain ⟨w2, hw2⟩ : ∃ y, w1.alloc (.cells #[.int .u8 1, .int .u64 (ser : Int), .slice A 52 c] 80) = y := ⟨_, rfl⟩
      have hF2 : Blk w2 g4 [.int .u8 1, .int .u64 (ser : Int), .slice A 52 c] 80 := by rw [← hw2, ← hg4]; exact Blk.new w1 _ _
      have hb12 : Below w1.heap.size w1 w2 := by rw [← hw2]; exact (Below.refl _ _).alloc (Nat.le_refl _) _
      have hG2 := hG1.below hb12
      have hr2 := hr1.below hb12
      have hbg2 : Below g w w2 := hbw.trans (hb12.mono (by omega))
      have hz2 := hb12.size
      have Hw2 := hide hw2
      have Hg4 := hide hg4
      clear hw2 hg4 hG1 hbw hb12 hr1 ha1
      go_wp2_with fail
      rw [Hw2.out, Hg4.out]
      go_fit (HGA.out A c w2 hc1 hcm1 hr2)
      rintro x w3 ⟨v, rfl, hO, hb3⟩
      obtain ⟨gl, cl, rfl, hlc, hL3⟩ := own_cells9 hO (by omega)
      have hF3 := hF2.below hb3
      have hG3' := hG2.below hb3
      have hr3 := hr2.below hb3
      have hbg3 := hbg2.trans (hb3.mono (by omega))
      have hz3 := hb3.size
      have x2 := hF3.cell (j := 2) rfl
      clear hO hF2 hG2 hr2 hbg2 hb3
      go_wp2_with fail
      go_fit (HGB.out A c w3 hc1 hcm1 hr3)
      rintro x w5 ⟨v, rfl, hO, hb5⟩
      obtain ⟨gm, cm, rfl, hmc', hM5⟩ := own_cells9 hO (by omega)
      have hF5 := hF3.below hb5
      have hG5 := hG3'.below hb5
      have hbg5 := hbg3.trans (hb5.mono (by omega))
      have hz5 := hb5.size
      have hL5 : ∀ k u, (u64s [vN bd 0, vN bd 1, vN bd 2, vN bd 3, vN bd 4])[k]? = some u → w5.cell? ⟨gl, k, none⟩ = some u := fun k u hu => below_cell9 hb5 (hL3 k u hu)
      clear hO hF3 hG3' hr3 hbg3 hb5 x2 hL3
      generalize vN bd 5 = v5 at hM5 h5 Hgood
      generalize vN bd 6 = v6 at hM5 h6 Hgood
      generalize vN bd 7 = v7 at hM5 h7 Hgood
      have HL5 := hide hL5
      have HM5 := hide hM5
      clear hL5 hM5
      go_wp2_with fail
      go_loopw [13] (fun v W => ∃ k : Nat, v = .int .i64 (k : Int) ∧ k ≤ 5 ∧ W = w5 ∧ Hid (∀ j, j < k → vN bd j ≤ 4611686018427387904)) (fun v _ => 5 - (RowKit.intOf v).toNat)
      case atStart => exact ⟨0, rfl, by omega, rfl, hide (fun j hj => absurd hj (by omega))⟩
      case round =>
        obtain ⟨k, rfl, hk, rfl, HJ⟩ := hrel
        by_cases hlt : k < 5
        · have hcell := HL5.out k (.int .u64 ((vN bd k : Nat) : Int)) (by rcases (show k = 0 ∨ k = 1 ∨ k = 2 ∨ k = 3 ∨ k = 4 by omega) with rfl | rfl | rfl | rfl | rfl <;> rfl)
          have hb := Hbad.out k hlt
          obtain ⟨x, hx⟩ : ∃ x, vN bd k = x := ⟨_, rfl⟩
          rw [hx] at hcell hb
          by_cases hok : x ≤ 4611686018427387904
          · have q1 : decide ((4611686018427387904 : Int) < (x : Int)) = false := decide_eq_false (by omega)
            have HN : Hid (∀ j, j < k + 1 → vN bd j ≤ 4611686018427387904) := hide (fun j hj => by
              rcases (show j < k ∨ j = k by omega) with h | rfl
              · exact HJ.out j h
              · rw [hx]; exact hok)
            clear hb hok HJ hx
            go_wp2
            go_roundw
            case rel => first | exact ⟨k + 1, by go_num, by omega, rfl, HN⟩ | exact ⟨k + 1, by go_num, by omega, trivial, HN⟩
            case measure => simp [RowKit.intOf]; omega
          · have he := hb (by omega)
            have q1 : decide ((4611686018427387904 : Int) < (x : Int)) = true := decide_eq_true (by omega)
            subst he
            have hcv := HV.out
            rw [if_neg (by omega)] at hcv
            subst hcv
            have hG3 := hG5
            have y0 := Blk.cell hG3 (j := 0) rfl; have y1 := Blk.cell hG3 (j := 1) rfl; have y2 := Blk.cell hG3 (j := 2) rfl; have y3 := Blk.cell hG3 (j := 3) rfl; have y4 := Blk.cell hG3 (j := 4) rfl; have y5 := Blk.cell hG3 (j := 5) rfl; have y6 := Blk.cell hG3 (j := 6) rfl; have y7 := Blk.cell hG3 (j := 7) rfl; have y8 := Blk.cell hG3 (j := 8) rfl
            have z0 := hG3.frozen 0; have z1 := hG3.frozen 1; have z2 := hG3.frozen 2; have z3 := hG3.frozen 3; have z4 := hG3.frozen 4; have z5 := hG3.frozen 5; have z6 := hG3.frozen 6; have z7 := hG3.frozen 7; have z8 := hG3.frozen 8
            have hsC : ∀ (X : World) (q : Nat) (u : Value), Below g w X → Below g w (X.setCell ⟨g, q, none⟩ u) := fun X q u hX => hX.setCell (Nat.le_refl _) _
            have HX := hide (And.intro hG3 hbg5)
            have HsC := hide hsC
            clear hb hok HJ hx hG3 hG5 hbg5 hF5 hsC
            go_wp2
            have hG3 := HX.out.1
            refine bodyPost_ret (results_cell2 rfl rfl (((((((((hG3.set 0 _).set 1 _).set 2 _).set 3 _).set 4 _).set 5 _).set 6 _).set 7 _).set 8 _) Tryz.underlying25 rfl (by kernel_rfl)) rfl ?_
            refine ⟨rfl, ?_⟩
            rw [Hg.out]
            exact (HsC.out _ _ _ (HsC.out _ _ _ (HsC.out _ _ _ (HsC.out _ _ _ (HsC.out _ _ _ (HsC.out _ _ _ (HsC.out _ _ _ (HsC.out _ _ _ (HsC.out _ _ _ HX.out.2)))))))))
        · obtain rfl : k = 5 := by omega
          have hd := Hgood.out (fun j hj => HJ.out j hj)
          have b0 := HJ.out 0 (by omega)
          have b1 := HJ.out 1 (by omega)
          have b2 := HJ.out 2 (by omega)
          have b3 := HJ.out 3 (by omega)
          have b4 := HJ.out 4 (by omega)
          have he := HE.out
          have hv := HV.out
          rw [hd] at he hv
          clear HE HV Hbad Hgood HJ hd
          generalize vN bd 0 = v0 at HL5 b0 he hv
          generalize vN bd 1 = v1 at HL5 b1 he hv
          generalize vN bd 2 = v2 at HL5 b2 he hv
          generalize vN bd 3 = v3 at HL5 b3 he hv
          generalize vN bd 4 = v4 at HL5 b4 he hv
          have HE := hide he
          have HV := hide hv
          clear he hv
          have hSC : ∀ Z, Below wr.heap.size wr Z → Z.cell? ⟨g4, 1, none⟩ = some (.int .u64 (ser : Int)) ∧ Z.cell? ⟨gl, 0, none⟩ = some (.int .u64 (v0 : Int)) ∧ Z.cell? ⟨gl, 1, none⟩ = some (.int .u64 (v1 : Int)) ∧ Z.cell? ⟨gl, 2, none⟩ = some (.int .u64 (v2 : Int)) ∧ Z.cell? ⟨gl, 3, none⟩ = some (.int .u64 (v3 : Int)) ∧ Z.cell? ⟨gl, 4, none⟩ = some (.int .u64 (v4 : Int)) ∧ Z.cell? ⟨gm, 0, none⟩ = some (.int .u64 (v5 : Int)) ∧ Z.cell? ⟨gm, 1, none⟩ = some (.int .u64 (v6 : Int)) ∧ Z.cell? ⟨gm, 2, none⟩ = some (.int .u64 (v7 : Int)) := fun Z hZ => ⟨below_cell9 hZ (hF5.cell (j := 1) rfl), below_cell9 hZ (HL5.out 0 _ rfl), below_cell9 hZ (HL5.out 1 _ rfl), below_cell9 hZ (HL5.out 2 _ rfl), below_cell9 hZ (HL5.out 3 _ rfl), below_cell9 hZ (HL5.out 4 _ rfl), below_cell9 hZ (HM5.out 0 _ rfl), below_cell9 hZ (HM5.out 1 _ rfl), below_cell9 hZ (HM5.out 2 _ rfl)⟩
          have HS := hide hSC
          have HSC := hide (hSC wr.drew (Below.refl _ _).drew)
          have hba1 : Below wr.heap.size wr (wr.drew.alloc (.cells #[.int .u64 0, .int .i64 0, .int .i64 0, .int .i64 0, .int .i64 0, .int .i64 0, .int .i64 0, .int .i64 0, .int .u32 0] 25)) := ((Below.refl _ _).drew).alloc (Nat.le_refl _) _
          have hba2 : Below wr.heap.size wr (wr.alloc (.cells #[.int .u64 0, .int .i64 0, .int .i64 0, .int .i64 0, .int .i64 0, .int .i64 0, .int .i64 0, .int .i64 0, .int .u32 0] 25)).drew := ((Below.refl _ _).alloc (Nat.le_refl _) _).drew
          have hbb1 : Below wr.heap.size wr (wr.drew.alloc (.cells #[.int .u64 (ser : Int), .int .i64 (v0 : Int), .int .i64 (v1 : Int), .int .i64 (v2 : Int), .int .i64 (v3 : Int), .int .i64 (v4 : Int), .int .i64 (v5 : Int), .int .i64 (v6 : Int), .int .u32 (v7 : Int)] 25)) := ((Below.refl _ _).drew).alloc (Nat.le_refl _) _
          have hbb2 : Below wr.heap.size wr (wr.alloc (.cells #[.int .u64 (ser : Int), .int .i64 (v0 : Int), .int .i64 (v1 : Int), .int .i64 (v2 : Int), .int .i64 (v3 : Int), .int .i64 (v4 : Int), .int .i64 (v5 : Int), .int .i64 (v6 : Int), .int .u32 (v7 : Int)] 25)).drew := ((Below.refl _ _).alloc (Nat.le_refl _) _).drew
          have cw0 : IntKind.i64.wrap (v0 : Int) = (v0 : Int) := iw_in b0
          have cw1 : IntKind.i64.wrap (v1 : Int) = (v1 : Int) := iw_in b1
          have cw2 : IntKind.i64.wrap (v2 : Int) = (v2 : Int) := iw_in b2
          have cw3 : IntKind.i64.wrap (v3 : Int) = (v3 : Int) := iw_in b3
          have cw4 : IntKind.i64.wrap (v4 : Int) = (v4 : Int) := iw_in b4
          have cw5 : IntKind.i64.wrap (v5 : Int) = (v5 : Int) := iw_in (by omega)
          have cw6 : IntKind.i64.wrap (v6 : Int) = (v6 : Int) := iw_in (by omega)
          have cw7 : IntKind.u32.wrap (v7 : Int) = (v7 : Int) := by unfold IntKind.wrap; simp [IntKind.signed, IntKind.bits]; omega
          clear hSC
          go_wp2_with fail
          have hS0 : wr.drew.cell? ⟨g4, 1, none⟩ = some (.int .u64 (ser : Int)) ∧ wr.drew.cell? ⟨gl, 0, none⟩ = some (.int .u64 (v0 : Int)) ∧ wr.drew.cell? ⟨gl, 1, none⟩ = some (.int .u64 (v1 : Int)) ∧ wr.drew.cell? ⟨gl, 2, none⟩ = some (.int .u64 (v2 : Int)) ∧ wr.drew.cell? ⟨gl, 3, none⟩ = some (.int .u64 (v3 : Int)) ∧ wr.drew.cell? ⟨gl, 4, none⟩ = some (.int .u64 (v4 : Int)) ∧ wr.drew.cell? ⟨gm, 0, none⟩ = some (.int .u64 (v5 : Int)) ∧ wr.drew.cell? ⟨gm, 1, none⟩ = some (.int .u64 (v6 : Int)) ∧ wr.drew.cell? ⟨gm, 2, none⟩ = some (.int .u64 (v7 : Int)) := HSC.out
          refine wp_region_held_drew (S := fun Z => Z.cell? ⟨g4, 1, none⟩ = some (.int .u64 (ser : Int)) ∧ Z.cell? ⟨gl, 0, none⟩ = some (.int .u64 (v0 : Int)) ∧ Z.cell? ⟨gl, 1, none⟩ = some (.int .u64 (v1 : Int)) ∧ Z.cell? ⟨gl, 2, none⟩ = some (.int .u64 (v2 : Int)) ∧ Z.cell? ⟨gl, 3, none⟩ = some (.int .u64 (v3 : Int)) ∧ Z.cell? ⟨gl, 4, none⟩ = some (.int .u64 (v4 : Int)) ∧ Z.cell? ⟨gm, 0, none⟩ = some (.int .u64 (v5 : Int)) ∧ Z.cell? ⟨gm, 1, none⟩ = some (.int .u64 (v6 : Int)) ∧ Z.cell? ⟨gm, 2, none⟩ = some (.int .u64 (v7 : Int))) (by kernel_rfl) hS0 (fun _ => ?_)
          refine wpAnyH_take (fuel := 36) (i := 0) (v := .pointer (some ⟨g4, 1, none⟩)) rfl (by kernel_rfl) (by kernel_rfl) (by kernel_rfl) (fun _ _ _ h => h) (Or.inl ⟨by rfl, fun Z hZ => ?_⟩) hS0 ?_
          · obtain ⟨z1, z2, z3, z4, z5, z6, z7, z8, z9⟩ := hZ
            go_simp
          refine wpAnyH_take (fuel := 35) (i := 1) (v := .int .u64 (ser : Int)) rfl (by kernel_rfl) (by kernel_rfl) (by kernel_rfl) (fun _ _ _ h => h) (Or.inl ⟨by rfl, fun Z hZ => ?_⟩) hS0 ?_
          · obtain ⟨z1, z2, z3, z4, z5, z6, z7, z8, z9⟩ := hZ
            go_simp
          refine wpAnyH_take (fuel := 34) (i := 2) (v := .slice (some ⟨gl, 0, none⟩) 5 cl) rfl (by kernel_rfl) (by kernel_rfl) (by kernel_rfl) (fun _ _ _ h => h) (Or.inl ⟨by rfl, fun Z hZ => ?_⟩) hS0 ?_
          · obtain ⟨z1, z2, z3, z4, z5, z6, z7, z8, z9⟩ := hZ
            go_simp
          refine wpAnyH_take (fuel := 33) (i := 3) (v := .pointer (some ⟨gl, 0, none⟩)) rfl (by kernel_rfl) (by kernel_rfl) (by kernel_rfl) (fun _ _ _ h => h) (Or.inl ⟨by rfl, fun Z hZ => ?_⟩) hS0 ?_
          · obtain ⟨z1, z2, z3, z4, z5, z6, z7, z8, z9⟩ := hZ
            go_simp
          refine wpAnyH_take (fuel := 32) (i := 4) (v := .int .u64 (v0 : Int)) rfl (by kernel_rfl) (by kernel_rfl) (by kernel_rfl) (fun _ _ _ h => h) (Or.inl ⟨by rfl, fun Z hZ => ?_⟩) hS0 ?_
          · obtain ⟨z1, z2, z3, z4, z5, z6, z7, z8, z9⟩ := hZ
            go_simp
          refine wpAnyH_take (fuel := 31) (i := 5) (v := .int .i64 (v0 : Int)) rfl (by kernel_rfl) (by kernel_rfl) (by kernel_rfl) (fun _ _ _ h => h) (Or.inl ⟨by rfl, fun Z hZ => ?_⟩) hS0 ?_
          · obtain ⟨z1, z2, z3, z4, z5, z6, z7, z8, z9⟩ := hZ
            go_simp
          refine wpAnyH_take (fuel := 30) (i := 6) (v := .slice (some ⟨gl, 0, none⟩) 5 cl) rfl (by kernel_rfl) (by kernel_rfl) (by kernel_rfl) (fun _ _ _ h => h) (Or.inl ⟨by rfl, fun Z hZ => ?_⟩) hS0 ?_
          · obtain ⟨z1, z2, z3, z4, z5, z6, z7, z8, z9⟩ := hZ
            go_simp
          refine wpAnyH_take (fuel := 29) (i := 7) (v := .pointer (some ⟨gl, 1, none⟩)) rfl (by kernel_rfl) (by kernel_rfl) (by kernel_rfl) (fun _ _ _ h => h) (Or.inl ⟨by rfl, fun Z hZ => ?_⟩) hS0 ?_
          · obtain ⟨z1, z2, z3, z4, z5, z6, z7, z8, z9⟩ := hZ
            go_simp
          refine wpAnyH_take (fuel := 28) (i := 8) (v := .int .u64 (v1 : Int)) rfl (by kernel_rfl) (by kernel_rfl) (by kernel_rfl) (fun _ _ _ h => h) (Or.inl ⟨by rfl, fun Z hZ => ?_⟩) hS0 ?_
          · obtain ⟨z1, z2, z3, z4, z5, z6, z7, z8, z9⟩ := hZ
            go_simp
          refine wpAnyH_take (fuel := 27) (i := 9) (v := .int .i64 (v1 : Int)) rfl (by kernel_rfl) (by kernel_rfl) (by kernel_rfl) (fun _ _ _ h => h) (Or.inl ⟨by rfl, fun Z hZ => ?_⟩) hS0 ?_
          · obtain ⟨z1, z2, z3, z4, z5, z6, z7, z8, z9⟩ := hZ
            go_simp
          refine wpAnyH_take (fuel := 26) (i := 10) (v := .slice (some ⟨gl, 0, none⟩) 5 cl) rfl (by kernel_rfl) (by kernel_rfl) (by kernel_rfl) (fun _ _ _ h => h) (Or.inl ⟨by rfl, fun Z hZ => ?_⟩) hS0 ?_
          · obtain ⟨z1, z2, z3, z4, z5, z6, z7, z8, z9⟩ := hZ
            go_simp
          refine wpAnyH_take (fuel := 25) (i := 11) (v := .pointer (some ⟨gl, 2, none⟩)) rfl (by kernel_rfl) (by kernel_rfl) (by kernel_rfl) (fun _ _ _ h => h) (Or.inl ⟨by rfl, fun Z hZ => ?_⟩) hS0 ?_
          · obtain ⟨z1, z2, z3, z4, z5, z6, z7, z8, z9⟩ := hZ
            go_simp
          refine wpAnyH_take (fuel := 24) (i := 12) (v := .int .u64 (v2 : Int)) rfl (by kernel_rfl) (by kernel_rfl) (by kernel_rfl) (fun _ _ _ h => h) (Or.inl ⟨by rfl, fun Z hZ => ?_⟩) hS0 ?_
          · obtain ⟨z1, z2, z3, z4, z5, z6, z7, z8, z9⟩ := hZ
            go_simp
          refine wpAnyH_take (fuel := 23) (i := 13) (v := .int .i64 (v2 : Int)) rfl (by kernel_rfl) (by kernel_rfl) (by kernel_rfl) (fun _ _ _ h => h) (Or.inl ⟨by rfl, fun Z hZ => ?_⟩) hS0 ?_
          · obtain ⟨z1, z2, z3, z4, z5, z6, z7, z8, z9⟩ := hZ
            go_simp
          refine wpAnyH_take (fuel := 22) (i := 14) (v := .slice (some ⟨gl, 0, none⟩) 5 cl) rfl (by kernel_rfl) (by kernel_rfl) (by kernel_rfl) (fun _ _ _ h => h) (Or.inl ⟨by rfl, fun Z hZ => ?_⟩) hS0 ?_
          · obtain ⟨z1, z2, z3, z4, z5, z6, z7, z8, z9⟩ := hZ
            go_simp
          refine wpAnyH_take (fuel := 21) (i := 15) (v := .pointer (some ⟨gl, 3, none⟩)) rfl (by kernel_rfl) (by kernel_rfl) (by kernel_rfl) (fun _ _ _ h => h) (Or.inl ⟨by rfl, fun Z hZ => ?_⟩) hS0 ?_
          · obtain ⟨z1, z2, z3, z4, z5, z6, z7, z8, z9⟩ := hZ
            go_simp
          refine wpAnyH_take (fuel := 20) (i := 16) (v := .int .u64 (v3 : Int)) rfl (by kernel_rfl) (by kernel_rfl) (by kernel_rfl) (fun _ _ _ h => h) (Or.inl ⟨by rfl, fun Z hZ => ?_⟩) hS0 ?_
          · obtain ⟨z1, z2, z3, z4, z5, z6, z7, z8, z9⟩ := hZ
            go_simp
          refine wpAnyH_take (fuel := 19) (i := 17) (v := .int .i64 (v3 : Int)) rfl (by kernel_rfl) (by kernel_rfl) (by kernel_rfl) (fun _ _ _ h => h) (Or.inl ⟨by rfl, fun Z hZ => ?_⟩) hS0 ?_
          · obtain ⟨z1, z2, z3, z4, z5, z6, z7, z8, z9⟩ := hZ
            go_simp
          refine wpAnyH_take (fuel := 18) (i := 18) (v := .slice (some ⟨gl, 0, none⟩) 5 cl) rfl (by kernel_rfl) (by kernel_rfl) (by kernel_rfl) (fun _ _ _ h => h) (Or.inl ⟨by rfl, fun Z hZ => ?_⟩) hS0 ?_
          · obtain ⟨z1, z2, z3, z4, z5, z6, z7, z8, z9⟩ := hZ
            go_simp
          refine wpAnyH_take (fuel := 17) (i := 19) (v := .pointer (some ⟨gl, 4, none⟩)) rfl (by kernel_rfl) (by kernel_rfl) (by kernel_rfl) (fun _ _ _ h => h) (Or.inl ⟨by rfl, fun Z hZ => ?_⟩) hS0 ?_
          · obtain ⟨z1, z2, z3, z4, z5, z6, z7, z8, z9⟩ := hZ
            go_simp
          refine wpAnyH_take (fuel := 16) (i := 20) (v := .int .u64 (v4 : Int)) rfl (by kernel_rfl) (by kernel_rfl) (by kernel_rfl) (fun _ _ _ h => h) (Or.inl ⟨by rfl, fun Z hZ => ?_⟩) hS0 ?_
          · obtain ⟨z1, z2, z3, z4, z5, z6, z7, z8, z9⟩ := hZ
            go_simp
          refine wpAnyH_take (fuel := 15) (i := 21) (v := .int .i64 (v4 : Int)) rfl (by kernel_rfl) (by kernel_rfl) (by kernel_rfl) (fun _ _ _ h => h) (Or.inl ⟨by rfl, fun Z hZ => ?_⟩) hS0 ?_
          · obtain ⟨z1, z2, z3, z4, z5, z6, z7, z8, z9⟩ := hZ
            go_simp
          refine wpAnyH_take (fuel := 14) (i := 22) (v := .slice (some ⟨gm, 0, none⟩) 3 cm) rfl (by kernel_rfl) (by kernel_rfl) (by kernel_rfl) (fun _ _ _ h => h) (Or.inl ⟨by rfl, fun Z hZ => ?_⟩) hS0 ?_
          · obtain ⟨z1, z2, z3, z4, z5, z6, z7, z8, z9⟩ := hZ
            go_simp
          refine wpAnyH_take (fuel := 13) (i := 23) (v := .pointer (some ⟨gm, 0, none⟩)) rfl (by kernel_rfl) (by kernel_rfl) (by kernel_rfl) (fun _ _ _ h => h) (Or.inl ⟨by rfl, fun Z hZ => ?_⟩) hS0 ?_
          · obtain ⟨z1, z2, z3, z4, z5, z6, z7, z8, z9⟩ := hZ
            go_simp
          refine wpAnyH_take (fuel := 12) (i := 24) (v := .int .u64 (v5 : Int)) rfl (by kernel_rfl) (by kernel_rfl) (by kernel_rfl) (fun _ _ _ h => h) (Or.inl ⟨by rfl, fun Z hZ => ?_⟩) hS0 ?_
          · obtain ⟨z1, z2, z3, z4, z5, z6, z7, z8, z9⟩ := hZ
            go_simp
          refine wpAnyH_take (fuel := 11) (i := 25) (v := .int .i64 (v5 : Int)) rfl (by kernel_rfl) (by kernel_rfl) (by kernel_rfl) (fun _ _ _ h => h) (Or.inl ⟨by rfl, fun Z hZ => ?_⟩) hS0 ?_
          · obtain ⟨z1, z2, z3, z4, z5, z6, z7, z8, z9⟩ := hZ
            go_simp
          refine wpAnyH_take (fuel := 10) (i := 26) (v := .slice (some ⟨gm, 0, none⟩) 3 cm) rfl (by kernel_rfl) (by kernel_rfl) (by kernel_rfl) (fun _ _ _ h => h) (Or.inl ⟨by rfl, fun Z hZ => ?_⟩) hS0 ?_
          · obtain ⟨z1, z2, z3, z4, z5, z6, z7, z8, z9⟩ := hZ
            go_simp
          refine wpAnyH_take (fuel := 9) (i := 27) (v := .pointer (some ⟨gm, 1, none⟩)) rfl (by kernel_rfl) (by kernel_rfl) (by kernel_rfl) (fun _ _ _ h => h) (Or.inl ⟨by rfl, fun Z hZ => ?_⟩) hS0 ?_
          · obtain ⟨z1, z2, z3, z4, z5, z6, z7, z8, z9⟩ := hZ
            go_simp
          refine wpAnyH_take (fuel := 8) (i := 28) (v := .int .u64 (v6 : Int)) rfl (by kernel_rfl) (by kernel_rfl) (by kernel_rfl) (fun _ _ _ h => h) (Or.inl ⟨by rfl, fun Z hZ => ?_⟩) hS0 ?_
          · obtain ⟨z1, z2, z3, z4, z5, z6, z7, z8, z9⟩ := hZ
            go_simp
          refine wpAnyH_take (fuel := 7) (i := 29) (v := .int .i64 (v6 : Int)) rfl (by kernel_rfl) (by kernel_rfl) (by kernel_rfl) (fun _ _ _ h => h) (Or.inl ⟨by rfl, fun Z hZ => ?_⟩) hS0 ?_
          · obtain ⟨z1, z2, z3, z4, z5, z6, z7, z8, z9⟩ := hZ
            go_simp
          refine wpAnyH_take (fuel := 6) (i := 30) (v := .slice (some ⟨gm, 0, none⟩) 3 cm) rfl (by kernel_rfl) (by kernel_rfl) (by kernel_rfl) (fun _ _ _ h => h) (Or.inl ⟨by rfl, fun Z hZ => ?_⟩) hS0 ?_
          · obtain ⟨z1, z2, z3, z4, z5, z6, z7, z8, z9⟩ := hZ
            go_simp
          refine wpAnyH_take (fuel := 5) (i := 31) (v := .pointer (some ⟨gm, 2, none⟩)) rfl (by kernel_rfl) (by kernel_rfl) (by kernel_rfl) (fun _ _ _ h => h) (Or.inl ⟨by rfl, fun Z hZ => ?_⟩) hS0 ?_
          · obtain ⟨z1, z2, z3, z4, z5, z6, z7, z8, z9⟩ := hZ
            go_simp
          refine wpAnyH_take (fuel := 4) (i := 32) (v := .int .u64 (v7 : Int)) rfl (by kernel_rfl) (by kernel_rfl) (by kernel_rfl) (fun _ _ _ h => h) (Or.inl ⟨by rfl, fun Z hZ => ?_⟩) hS0 ?_
          · obtain ⟨z1, z2, z3, z4, z5, z6, z7, z8, z9⟩ := hZ
            go_simp
          refine wpAnyH_take (fuel := 3) (i := 33) (v := .int .u32 (v7 : Int)) rfl (by kernel_rfl) (by kernel_rfl) (by kernel_rfl) (fun _ _ _ h => h) (Or.inl ⟨by rfl, fun Z hZ => ?_⟩) hS0 ?_
          · obtain ⟨z1, z2, z3, z4, z5, z6, z7, z8, z9⟩ := hZ
            go_simp
          refine wpAnyH_take (fuel := 2) (i := 34) (v := .agg #[.int .u64 (ser : Int), .int .i64 (v0 : Int), .int .i64 (v1 : Int), .int .i64 (v2 : Int), .int .i64 (v3 : Int), .int .i64 (v4 : Int), .int .i64 (v5 : Int), .int .i64 (v6 : Int), .int .u32 (v7 : Int)]) rfl (by kernel_rfl) (by kernel_rfl) (by kernel_rfl) (fun _ _ _ h => h) (Or.inl ⟨by rfl, fun Z hZ => ?_⟩) hS0 ?_
          · obtain ⟨z1, z2, z3, z4, z5, z6, z7, z8, z9⟩ := hZ
            go_simp
          refine all_one (fuel := 1) (i := 35) (by kernel_rfl) rfl rfl (fun Kk hK => ?_)
          go_simp
          refine hK _ _ ⟨HS.out _ (by first | exact hba1 | exact hba2), ?_⟩
          clear hK Kk
          refine all_one (fuel := 0) (i := 36) (by kernel_rfl) rfl rfl (fun Kk hK => ?_)
          go_simp
          refine hK _ _ ⟨HS.out _ (by first | exact hbb1 | exact hbb2), ?_⟩
          clear hK Kk
          refine wpAnyH_done (by kernel_rfl) ?_ _
          obtain ⟨w6, hw6⟩ : ∃ y, (wr.alloc (.cells #[.int .u64 (ser : Int), .int .i64 (v0 : Int), .int .i64 (v1 : Int), .int .i64 (v2 : Int), .int .i64 (v3 : Int), .int .i64 (v4 : Int), .int .i64 (v5 : Int), .int .i64 (v6 : Int), .int .u32 (v7 : Int)] 25)).drew = y := ⟨_, rfl⟩
          obtain ⟨g9, hg9⟩ : ∃ y, wr.heap.size = y := ⟨_, rfl⟩
          have hN6 : Blk w6 g9 [.int .u64 (ser : Int), .int .i64 (v0 : Int), .int .i64 (v1 : Int), .int .i64 (v2 : Int), .int .i64 (v3 : Int), .int .i64 (v4 : Int), .int .i64 (v5 : Int), .int .i64 (v6 : Int), .int .u32 (v7 : Int)] 25 := by rw [← hw6, ← hg9]; exact Blk.new wr _ _
          have hb6 : Below wr.heap.size wr w6 := by rw [← hw6]; exact hbb2
          have hG6 := hG5.below hb6
          have hbg6 := hbg5.trans (hb6.mono (by omega))
          have HCW := hide (rschk_any ⟨ser, (v0 : Int), v1, v2, v3, v4, v5, v6, v7⟩ w6)
          rw [← HE.out] at HCW
          rw [hw6, hg9]
          have hz6 := hb6.size
          have hgl : g < w6.heap.size := hG6.lt
          clear cw0 cw1 cw2 cw3 cw4 cw5 cw6 cw7 hba1 hba2 hbb1 hbb2 HS HSC hS0 hw6 hg9 hG5 hbg5 hF5 hb6
          have y0 := Blk.cell hN6 (j := 0) rfl; have y1 := Blk.cell hN6 (j := 1) rfl; have y2 := Blk.cell hN6 (j := 2) rfl; have y3 := Blk.cell hN6 (j := 3) rfl; have y4 := Blk.cell hN6 (j := 4) rfl; have y5 := Blk.cell hN6 (j := 5) rfl; have y6 := Blk.cell hN6 (j := 6) rfl; have y7 := Blk.cell hN6 (j := 7) rfl; have y8 := Blk.cell hN6 (j := 8) rfl
          go_wp2_with fail
          go_fit HCW.out
          rintro e w7 ⟨rfl, hb7⟩
          have hN7 := hN6.below hb7
          have hG3 := hG6.below hb7
          have hbg7 : Below g w w7 := hbg6.trans (hb7.mono (by omega))
          have HX := hide (And.intro hG3 hbg7)
          have hsC : ∀ (X : World) (q : Nat) (u : Value), Below g w X → Below g w (X.setCell ⟨g, q, none⟩ u) := fun X q u hX => hX.setCell (Nat.le_refl _) _
          have HsC := hide hsC
          clear y0 y1 y2 y3 y4 y5 y6 y7 y8 hN6 hG6 hbg6 hb7 hsC hbg7
          have x0 := Blk.cell hN7 (j := 0) rfl; have x1 := Blk.cell hN7 (j := 1) rfl; have x2 := Blk.cell hN7 (j := 2) rfl; have x3 := Blk.cell hN7 (j := 3) rfl; have x4 := Blk.cell hN7 (j := 4) rfl; have x5 := Blk.cell hN7 (j := 5) rfl; have x6 := Blk.cell hN7 (j := 6) rfl; have x7 := Blk.cell hN7 (j := 7) rfl; have x8 := Blk.cell hN7 (j := 8) rfl
          have y0 := Blk.cell hG3 (j := 0) rfl; have y1 := Blk.cell hG3 (j := 1) rfl; have y2 := Blk.cell hG3 (j := 2) rfl; have y3 := Blk.cell hG3 (j := 3) rfl; have y4 := Blk.cell hG3 (j := 4) rfl; have y5 := Blk.cell hG3 (j := 5) rfl; have y6 := Blk.cell hG3 (j := 6) rfl; have y7 := Blk.cell hG3 (j := 7) rfl; have y8 := Blk.cell hG3 (j := 8) rfl
          have z0 := hG3.frozen 0; have z1 := hG3.frozen 1; have z2 := hG3.frozen 2; have z3 := hG3.frozen 3; have z4 := hG3.frozen 4; have z5 := hG3.frozen 5; have z6 := hG3.frozen 6; have z7 := hG3.frozen 7; have z8 := hG3.frozen 8
          have hcv := HV.out
          rcases Sup.E_two ⟨ser, (v0 : Int), v1, v2, v3, v4, v5, v6, v7⟩ with h0 | h0
          · rw [← HE.out] at h0
            rw [if_pos h0] at hcv
            subst hcv
            subst h0
            clear hG3 hN7
            go_wp2
            have hG3 := HX.out.1
            refine bodyPost_ret (results_cell2 rfl rfl (((((((((hG3.set 0 _).set 1 _).set 2 _).set 3 _).set 4 _).set 5 _).set 6 _).set 7 _).set 8 _) Tryz.underlying25 rfl (by kernel_rfl)) rfl ?_
            refine ⟨rfl, ?_⟩
            rw [Hg.out]
            exact (HsC.out _ _ _ (HsC.out _ _ _ (HsC.out _ _ _ (HsC.out _ _ _ (HsC.out _ _ _ (HsC.out _ _ _ (HsC.out _ _ _ (HsC.out _ _ _ (HsC.out _ _ _ HX.out.2)))))))))
          · rw [← HE.out] at h0
            rw [if_neg (by omega)] at hcv
            subst hcv
            subst h0
            clear hG3 hN7
            go_wp2
            have hG3 := HX.out.1
            refine bodyPost_ret (results_cell2 rfl rfl (((((((((hG3.set 0 _).set 1 _).set 2 _).set 3 _).set 4 _).set 5 _).set 6 _).set 7 _).set 8 _) Tryz.underlying25 rfl (by kernel_rfl)) rfl ?_
            refine ⟨rfl, ?_⟩
            rw [Hg.out]
            exact (HsC.out _ _ _ (HsC.out _ _ _ (HsC.out _ _ _ (HsC.out _ _ _ (HsC.out _ _ _ (HsC.out _ _ _ (HsC.out _ _ _ (HsC.out _ _ _ (HsC.out _ _ _ HX.out.2)))))))))
  · rw [if_pos h1] at hE
    subst hE
    rw [if_neg h1] at hV
    subst hV
    have q1 : (EE != 0) = true := by simpa using h1
    go_enter Tryz.func64, Tryz.ntmps64
    go_wp2_with fail
    rw [Hw0.out]
    go_fit HRD.out
    rintro x w1 ⟨v, rfl, hO, hb1⟩
    obtain ⟨A1, c1, rfl, _, hc1, hcm1, hr1, ha1⟩ := own_out hO
    have hG1 := hG.below hb1
    have hbw := hb0.trans (hb1.mono hb0.size)
    rw [Hg.out]
    have hG2 := hG1.alloc (.cells #[.int .u8 (kk : Int), .int .u64 (ser : Int), .slice A1 n c1] 80)
    have y0 := Blk.cell hG2 (j := 0) rfl; have y1 := Blk.cell hG2 (j := 1) rfl; have y2 := Blk.cell hG2 (j := 2) rfl; have y3 := Blk.cell hG2 (j := 3) rfl; have y4 := Blk.cell hG2 (j := 4) rfl; have y5 := Blk.cell hG2 (j := 5) rfl; have y6 := Blk.cell hG2 (j := 6) rfl; have y7 := Blk.cell hG2 (j := 7) rfl; have y8 := Blk.cell hG2 (j := 8) rfl
    have z0 := hG2.frozen 0; have z1 := hG2.frozen 1; have z2 := hG2.frozen 2; have z3 := hG2.frozen 3; have z4 := hG2.frozen 4; have z5 := hG2.frozen 5; have z6 := hG2.frozen 6; have z7 := hG2.frozen 7; have z8 := hG2.frozen 8
    have hbX := hbw.alloc hbw.size (.cells #[.int .u8 (kk : Int), .int .u64 (ser : Int), .slice A1 n c1] 80)
    have hsC : ∀ (X : World) (q : Nat) (u : Value), Below w.heap.size w X → Below w.heap.size w (X.setCell ⟨g, q, none⟩ u) := fun X q u hX => hX.setCell (by show w.heap.size ≤ g; rw [Hg.out]; exact Nat.le_refl _) _
    have HX := hide (And.intro hG2 hbX)
    have HsC := hide hsC
    clear hO hr1 ha1 HRD hG2 hbX hsC
    go_wp2_with fail
    have hG2 := HX.out.1
    refine bodyPost_ret (results_cell2 rfl rfl (((((((((hG2.set 0 _).set 1 _).set 2 _).set 3 _).set 4 _).set 5 _).set 6 _).set 7 _).set 8 _) Tryz.underlying25 rfl (by kernel_rfl)) rfl ?_
    exact ⟨rfl, HsC.out _ _ _ (HsC.out _ _ _ (HsC.out _ _ _ (HsC.out _ _ _ (HsC.out _ _ _ (HsC.out _ _ _ (HsC.out _ _ _ (HsC.out _ _ _ (HsC.out _ _ _ HX.out.2))))))))⟩
end Go.Proofs.YtoaodmidegkolaaGreatDoor
