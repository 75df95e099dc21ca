/- The document's disk: New. -/
import Derived.Test.YtdianokikhggnaaF08w
namespace Go.Proofs.Ytdianokikhggnaa
set_option maxRecDepth 20000
open Go.RowKit Go.Px Go.Maps
set_option linter.unusedVariables false
section
variable {w w' : World} {Q Q' X : Nat → Prop} {t f : Nat} {cs cs' : List Value} {d d' : Dk}
theorem tSecs : SlT Try.prog 45 86 4 64 := slT_mk Try.underlying45 (z := .agg #[.slice none 0 0, .bool false, .slice none 0 0, .bool false]) (by kernel_rfl) rfl (by decide)
/-- The cells of new sectors, their bytes at some blocks. -/
def newCells (S : Nat) (os : List Nat) : List Value := os.flatMap fun o => [.slice (some ⟨o, 0, none⟩) S S, .bool false, .slice none 0 0, .bool false]
theorem newCells_len (S : Nat) (os : List Nat) : (newCells S os).length = os.length * 4 := by
  induction os with
  | nil => rfl
  | cons o os ih => simp only [newCells, List.flatMap_cons, List.length_append] at ih ⊢; simp [ih]; omega
theorem newCells_one (S : Nat) : ∀ (os : List Nat), ∀ u ∈ newCells S os, u.oneCell' = true := fun os u hu => by
  obtain ⟨o, _, ho⟩ := List.mem_flatMap.1 hu
  simp at ho
  rcases ho with rfl | rfl | rfl | rfl <;> rfl
theorem newCells_get (S : Nat) : ∀ (os : List Nat) (k : Nat) (o : Nat), os[k]? = some o → (newCells S os)[k * 4]? = some (.slice (some ⟨o, 0, none⟩) S S) ∧ (newCells S os)[k * 4 + 1]? = some (.bool false) ∧ (newCells S os)[k * 4 + 2]? = some (.slice none 0 0) ∧ (newCells S os)[k * 4 + 3]? = some (.bool false)
  | [], k, o, h => by simp at h
  | x :: os, 0, o, h => by simp at h; subst h; exact ⟨rfl, rfl, rfl, rfl⟩
  | x :: os, k + 1, o, h => by
    have h' : os[k]? = some o := by simpa using h
    obtain ⟨i1, i2, i3, i4⟩ := newCells_get S os k o h'
    have e : newCells S (x :: os) = [.slice (some ⟨x, 0, none⟩) S S, .bool false, .slice none 0 0, .bool false] ++ newCells S os := rfl
    rw [e]
    refine ⟨?_, ?_, ?_, ?_⟩
    all_goals rw [List.getElem?_append_right (by simp; omega)]
    · rw [show (k + 1) * 4 - [Value.slice (some ⟨x, 0, none⟩) S S, .bool false, .slice none 0 0, .bool false].length = k * 4 by simp; omega]; exact i1
    · rw [show (k + 1) * 4 + 1 - [Value.slice (some ⟨x, 0, none⟩) S S, .bool false, .slice none 0 0, .bool false].length = k * 4 + 1 by simp; omega]; exact i2
    · rw [show (k + 1) * 4 + 2 - [Value.slice (some ⟨x, 0, none⟩) S S, .bool false, .slice none 0 0, .bool false].length = k * 4 + 2 by simp; omega]; exact i3
    · rw [show (k + 1) * 4 + 3 - [Value.slice (some ⟨x, 0, none⟩) S S, .bool false, .slice none 0 0, .bool false].length = k * 4 + 3 by simp; omega]; exact i4
/-- A new disk under way. -/
structure NewI (w : World) (S : Nat) (k : Nat) (W : World) (v : Value) (os : List Nat) : Prop where
  blk : Blk W w.heap.size [.int .i64 (S : Int), v, .bool false, .int .i64 0] 47
  own : W.ownsRow (w.heap.size + 1) 86 4 v k (newCells S os)
  len : os.length = k
  ok : ∀ o ∈ os, w.heap.size + 1 ≤ o ∧ o < W.heap.size ∧ some o ≠ v.ownBlock ∧ Rd W (some ⟨o, 0, none⟩) (bys (List.replicate S 0))
  bel : Below w.heap.size w W
  siz : w.heap.size + 1 ≤ W.heap.size
theorem NewI.done {n s : Nat} {v : Value} {os : List Nat} (h : NewI w s n w' v os) (h1 : 1 ≤ n) (h2 : n ≤ 65536) (h3 : 1 ≤ s) (h4 : s ≤ 8192) : ∃ f cs, RDIs w' (fun b => w.heap.size + 1 ≤ b ∧ b ≠ f) w.heap.size f cs (Dk.new n s) ∧ w.heap.size + 1 ≤ f ∧ Below w.heap.size w w' := by
  obtain ⟨hb, ho, hl, hk, hbel, hsz⟩ := h
  obtain ⟨hx, hcase⟩ := ho
  rcases hcase with ⟨_, hn⟩ | ⟨g, cap, cur, rfl, hbg, hg, hnc, hcm, hcs, htk⟩
  · omega
  · have hlen : (Dk.new n s).fast.length = n := by simp [Dk.new]
    refine ⟨g, cur.toList, ⟨⟨cap, ?_, by rw [hlen]; exact hnc, hcm⟩, ?_, ?_, ?_, Dk.new_ok h1 h2 h3 h4, by omega, fun b hb => ⟨by omega, hb.2⟩⟩, hbg, hbel⟩
    · rw [hlen]; exact hb
    · simpa [Blk] using hg
    · rw [hlen]; simp only [Array.length_toList, hcs]; exact Nat.mul_le_mul_right _ hnc
    · intro i hi
      have hi2 := hi
      rw [hlen] at hi2
      have hi' : i < os.length := by omega
      obtain ⟨c1, c2, c3, c4⟩ := newCells_get s os i os[i] (List.getElem?_eq_getElem hi')
      have hcell : ∀ (j : Nat) (u : Value), (newCells s os)[j]? = some u → cur.toList[j]? = some u := fun j u hu => by
        rw [← htk, List.getElem?_take] at hu
        split at hu
        · exact hu
        · cases hu
      obtain ⟨k1, k2, k3, k4⟩ := hk os[i] (List.getElem_mem hi')
      have e : (Dk.new n s).fast[i] = List.replicate s 0 := by simp [Dk.new]
      rw [e]
      exact ⟨_, _, _, none, 0, 0, hcell _ _ c1, hcell _ _ c2, hcell _ _ c3, hcell _ _ c4, by simp, Nat.le_refl _, by omega, k4, fun a ha => by injection ha with ha; subst ha; exact ⟨k1, fun e => k3 (by show some os[i] = some g; exact congrArg some e)⟩, Nat.le_refl _, by omega, fun b hb => by cases hb⟩
set_option maxHeartbeats 3200000 in
theorem rnew08_ok (w : World) (n s : Nat) (h1 : 1 ≤ n) (h2 : n ≤ 65536) (h3 : 1 ≤ s) (h4 : s ≤ 8192) :
    Calls Try.prog 25 #[.int .i64 (n : Int), .int .i64 (s : Int)] w fun e w' => ∃ f cs, e = .returned (.tuple #[.pointer (some ⟨w.heap.size, 0, none⟩), .int .i64 0]) ∧ RDIs w' (fun b => w.heap.size + 1 ≤ b ∧ b ≠ f) w.heap.size f cs (Dk.new n s) ∧ w.heap.size + 1 ≤ f ∧ Below w.heap.size w w' := by
  have q1 : decide ((n : Int) < 1) = false := decide_eq_false (by omega)
  have q2 : decide ((65536 : Int) < (n : Int)) = false := decide_eq_false (by omega)
  have q3 : decide ((s : Int) < 1) = false := decide_eq_false (by omega)
  have q4 : decide ((8192 : Int) < (s : Int)) = false := decide_eq_false (by omega)
  go_enter Try.func25, Try.ntmps25
  go_wp2
  go_loopw [7] (fun u W => ∃ (k : Nat) (v : Value) (os : List Nat), u = .int .i64 (k : Int) ∧ k ≤ n ∧ NewI w s k W v os) (fun u _ => n - (RowKit.intOf u).toNat)
  case atStart =>
    exact ⟨0, .slice none 0 0, [], rfl, by omega, ⟨Blk.new w _ _, World.ownsRow_nil _ _ _ _, rfl, fun o ho => (by cases ho), (Below.refl _ _).alloc (Nat.le_refl _) _, by simp⟩⟩
  case round =>
    obtain ⟨k, v, os, rfl, hkn, hI⟩ := hrel
    obtain ⟨Av, cv, rfl, hvl, hcv, hcmv, hrv, hav⟩ := own_out hI.own
    by_cases hlt : k < n
    · have y1 := hI.blk.cell (j := 1) rfl
      have hz := hI.siz
      go_wp2_with fail
      obtain ⟨wd, hwd⟩ : ∃ y, wr.drew = y := ⟨_, rfl⟩
      have hdd : Below wr.heap.size wr wd := by rw [← hwd]; exact (Below.refl _ _).drew
      have hzd : wd.heap.size = wr.heap.size := by rw [← hwd]; rfl
      have hm1 := fun W => run_mkB (P := Try.prog) (t := 29) (e := 5) (z := .int .u8 0) (bytes := 1) Try.underlying29 (by kernel_rfl) rfl (N := s) (by omega) (by omega) W
      obtain ⟨wa, hwa⟩ : ∃ y, wd.alloc (.cells (Array.replicate s (.int .u8 0)) 5) = y := ⟨_, rfl⟩
      have hza : wa.heap.size = wr.heap.size + 1 := by rw [← hwa, World.size_alloc, hzd]
      have hba : Below wr.heap.size wr wa := by rw [← hwa]; exact hdd.alloc (by omega) _
      have hBa : Blk wa wr.heap.size (bys (List.replicate s 0)) 5 := by
        rw [← hwa, ← hzd]; exact zeros_blk wd s
      have hcl : ∀ Z, Below wr.heap.size wr Z → Z.cell? ⟨w.heap.size, 1, none⟩ = some (.slice Av k cv) := fun Z hZ => below_cell08 hZ y1
      have HSa := hcl _ hba
      obtain ⟨wb, hwb⟩ : ∃ y, wa.alloc (.cells #[.slice (some ⟨wr.heap.size, 0, none⟩) s s, .bool false, .slice none 0 0, .bool false] 86) = y := ⟨_, rfl⟩
      have hbb : Below wr.heap.size wr wb := by rw [← hwb]; exact hba.alloc (by omega) _
      have hbab : Below wa.heap.size wa wb := by rw [← hwb]; exact (Below.refl _ _).alloc (Nat.le_refl _) _
      have hzb : wb.heap.size = wr.heap.size + 2 := by rw [← hwb, World.size_alloc, hza]
      have hRb : Rd wb (some ⟨wr.heap.size + 1, 0, none⟩) (newCells s [wr.heap.size]) := by
        rw [← hwb, ← hza]; exact Rd.newN wa [.slice (some ⟨wr.heap.size, 0, none⟩) s s, .bool false, .slice none 0 0, .bool false] _ (0, 0)
      have HSb := hcl _ hbb
      have HOW := hide (own_below hI.own hbb)
      have HRB := hide hRb
      go_wp2_with fail
      refine wp_region_any (by kernel_rfl) ?_
      show wpAny _ _ _ _ _ _ _ wr.drew
      refine wpAny_take (fuel := 12) (i := 0) (v := .pointer (some ⟨w.heap.size, 0, none⟩)) rfl (by kernel_rfl) (by kernel_rfl) (by kernel_rfl) (fun _ _ _ h => h) (Or.inl ⟨by rfl, fun Z => ?_⟩) ?_
      · go_simp
      refine wpAny_take (fuel := 11) (i := 1) (v := .pointer (some ⟨w.heap.size, 0, none⟩)) rfl (by kernel_rfl) (by kernel_rfl) (by kernel_rfl) (fun _ _ _ h => h) (Or.inl ⟨by rfl, fun Z => ?_⟩) ?_
      · go_simp
      refine wpAny_take (fuel := 10) (i := 2) (v := .pointer (some ⟨w.heap.size, 0, none⟩)) rfl (by kernel_rfl) (by kernel_rfl) (by kernel_rfl) (fun _ _ _ h => h) (Or.inl ⟨by rfl, fun Z => ?_⟩) ?_
      · go_simp
      refine wpAny_take (fuel := 9) (i := 3) (v := .pointer (some ⟨w.heap.size, 1, none⟩)) rfl (by kernel_rfl) (by kernel_rfl) (by kernel_rfl) (fun _ _ _ h => h) (Or.inl ⟨by rfl, fun Z => ?_⟩) ?_
      · go_simp
      refine wpAny_take (fuel := 8) (i := 5) (v := .int .i64 (s : Int)) rfl (by kernel_rfl) (by kernel_rfl) (by kernel_rfl) (fun _ _ _ h => h) (Or.inl ⟨by rfl, fun Z => ?_⟩) ?_
      · go_simp
      refine any_two (fuel := 7) (i := 4) (j := 6) (by kernel_rfl) rfl rfl rfl rfl (fun Kk hK => ?_) (fun Kk hK => ?_)
      · have hcw := (show wr.drew.cell? ⟨w.heap.size, 1, none⟩ = some (.slice Av k cv) from y1)
        go_simp
        refine hK _ _ ?_
        clear hK Kk hcw
        refine any_one (fuel := 6) (i := 6) (by kernel_rfl) rfl rfl (fun Kk hK => ?_)
        go_simp
        try rw [hwa]
        refine hK _ _ ?_
        clear hK Kk
        refine any_one (fuel := 5) (i := 7) (by kernel_rfl) rfl rfl (fun Kk hK => ?_)
        go_simp
        refine hK _ _ ?_
        clear hK Kk
        refine any_one (fuel := 4) (i := 8) (by kernel_rfl) rfl rfl (fun Kk hK => ?_)
        go_simp
        try rw [hwb]
        refine hK _ _ ?_
        clear hK Kk
        refine any_one (fuel := 3) (i := 9) (by kernel_rfl) rfl rfl (fun Kk hK => ?_)
        refine oper_own rfl tSecs (base := w.heap.size + 1) (e := 86) (by rfl) HOW.out (A := some ⟨wr.heap.size + 1, 0, none⟩) (m := 1) (c := 1) (by rfl) (by rw [newCells_len]; rfl) HRB.out (newCells_one s _) (by omega) (by omega) (by omega) ?_
        intro v2 w5 hO2 hg2 hv2
        obtain ⟨A4, c4, rfl, _, hc4, hcm4, hr4, ha4⟩ := own_out hO2
        have hlo : ∀ g, (Value.slice Av k cv).ownBlock = some g → w.heap.size + 1 ≤ g ∧ g < wr.heap.size := fun g hg => by
          cases Av with
          | none => simp [Value.ownBlock] at hg
          | some a => simp [Value.ownBlock] at hg; have := hav a rfl; omega
        have hb5 : Below (w.heap.size + 1) wb w5 := (Below.refl _ _).grown hg2 (by omega) (fun g hg => (hlo g hg).1)
        have hF5 : Fr (fun x => some x = (Value.slice Av k cv).ownBlock) wb w5 := Fr.of_grown hg2 (fun g hg => hg.symm)
        have HT5 : Blk w5 w.heap.size [.int .i64 (s : Int), .slice Av k cv, .bool false, .int .i64 0] 47 := (hI.blk.below hbb).fr hF5 (fun e => by have := hlo _ e.symm; omega)
        have HS5 : w5.cell? ⟨w.heap.size, 1, none⟩ = some (.slice Av k cv) := HT5.cell (j := 1) rfl
        have jt := HT5.frozen 1
        have hsz5 := hg2.size
        have hnew4 : ∀ g, (Value.slice A4 (k + 1) c4).ownBlock = some g → (∃ g0, (Value.slice Av k cv).ownBlock = some g0 ∧ g = g0) ∨ wr.heap.size + 2 ≤ g := fun g hg => by
          rcases hv2 with h | h
          · exact .inl ⟨g, by rw [← h]; exact hg, rfl⟩
          · rw [h] at hg; injection hg with hg; exact .inr (by omega)
        obtain ⟨w6, hw6⟩ : ∃ y, w5.setCell ⟨w.heap.size, 1, none⟩ (.slice A4 (k + 1) c4) = y := ⟨_, rfl⟩
        have hF6 : Fr (fun x => x = w.heap.size) w5 w6 := by rw [← hw6]; exact Fr.set (X := fun x => x = w.heap.size) w5 ⟨w.heap.size, 1, none⟩ _ rfl
        have hz6 : w6.heap.size = w5.heap.size := by rw [← hw6]; simp
        have HT6 : Blk w6 w.heap.size [.int .i64 (s : Int), .slice A4 (k + 1) c4, .bool false, .int .i64 0] 47 := by rw [← hw6]; exact HT5.set 1 _
        have hO6 : w6.ownsRow (w.heap.size + 1) 86 4 (.slice A4 (k + 1) c4) (k + 1) (newCells s (os ++ [wr.heap.size])) := by
          have e : newCells s os ++ newCells s [wr.heap.size] = newCells s (os ++ [wr.heap.size]) := by simp [newCells]
          rw [e] at hO2
          refine ⟨hO2.1, ?_⟩
          rcases hO2.2 with h | ⟨g, cap, cur, hv, hbg, hg', rest⟩
          · exact .inl h
          · exact .inr ⟨g, cap, cur, hv, hbg, (hF6.blk g (Array.getElem?_eq_some_iff.1 hg').1 (by omega)).trans hg', rest⟩
        have hok6 : ∀ o ∈ os ++ [wr.heap.size], w.heap.size + 1 ≤ o ∧ o < w6.heap.size ∧ some o ≠ (Value.slice A4 (k + 1) c4).ownBlock ∧ Rd w6 (some ⟨o, 0, none⟩) (bys (List.replicate s 0)) := fun o ho => by
          have hcase : w.heap.size + 1 ≤ o ∧ o ≤ wr.heap.size ∧ (∀ g, (Value.slice Av k cv).ownBlock = some g → o ≠ g) ∧ Rd wb (some ⟨o, 0, none⟩) (bys (List.replicate s 0)) := by
            rcases List.mem_append.1 ho with ho | ho
            · obtain ⟨g1, g2, g3, g4⟩ := hI.ok o ho
              exact ⟨g1, by omega, fun g hg e => g3 (by rw [e]; exact hg.symm), g4.below hbb⟩
            · rw [List.mem_singleton] at ho
              subst ho
              refine ⟨by omega, Nat.le_refl _, fun g hg e => by have := hlo g hg; omega, Rd.of_some fun j u hu => ?_⟩
              have := (hBa.below hbab).cell hu
              rwa [show (⟨wr.heap.size, 0, none⟩ : Addr).add j = ⟨wr.heap.size, j, none⟩ by unfold Addr.add; split <;> simp_all]
          obtain ⟨g1, g2, g3, g4⟩ := hcase
          refine ⟨g1, by omega, fun e => ?_, (g4.fr hF5 (fun _ a ha e => by injection ha with ha; subst ha; exact g3 _ e.symm rfl)).fr hF6 (fun _ a ha e => by injection ha with ha; subst ha; have e' : o = w.heap.size := e; omega)⟩
          rcases hnew4 o e.symm with ⟨g0, h0, h1⟩ | h0
          · exact g3 g0 h0 h1
          · omega
        have hbel : Below w.heap.size w w6 := hF6.below ((((hI.bel.trans (hbb.mono (by omega)))).trans (hb5.mono (by omega)))) (by omega) (fun x hx => by omega)
        have HN := hide (show NewI w s (k + 1) w6 (.slice A4 (k + 1) c4) (os ++ [wr.heap.size]) from ⟨HT6, hO6, by rw [List.length_append, hI.len]; rfl, hok6, hbel, by omega⟩)
        clear hO2 hg2 hv2 hr4 ha4 hF5 hF6 HT6 hO6 hok6 hbel hb5 hnew4
        refine hK _ _ ?_
        clear hK Kk
        refine any_one (fuel := 2) (i := 10) (by kernel_rfl) rfl rfl (fun Kk hK => ?_)
        go_simp
        refine hK _ _ ?_
        clear hK Kk
        refine any_one (fuel := 1) (i := 11) (by kernel_rfl) rfl rfl (fun Kk hK => ?_)
        go_simp
        refine hK _ _ ?_
        clear hK Kk
        refine any_one (fuel := 0) (i := 12) (by kernel_rfl) rfl rfl (fun Kk hK => ?_)
        go_simp
        try rw [hw6]
        refine hK _ _ ?_
        clear hK Kk
        refine ⟨by kernel_rfl, ?_⟩
        go_wp2
        go_roundw
        case rel => exact ⟨k + 1, _, _, by go_num, by omega, HN.out⟩
        case measure => simp [RowKit.intOf]; omega
      · go_simp
        try rw [hwa]
        refine hK _ _ ?_
        clear hK Kk
        refine any_two (fuel := 6) (i := 4) (j := 7) (by kernel_rfl) rfl rfl rfl rfl (fun Kk hK => ?_) (fun Kk hK => ?_)
        · have hcw := hcl _ hba
          go_simp
          refine hK _ _ ?_
          clear hK Kk hcw
          refine any_one (fuel := 5) (i := 7) (by kernel_rfl) rfl rfl (fun Kk hK => ?_)
          go_simp
          refine hK _ _ ?_
          clear hK Kk
          refine any_one (fuel := 4) (i := 8) (by kernel_rfl) rfl rfl (fun Kk hK => ?_)
          go_simp
          try rw [hwb]
          refine hK _ _ ?_
          clear hK Kk
          refine any_one (fuel := 3) (i := 9) (by kernel_rfl) rfl rfl (fun Kk hK => ?_)
          refine oper_own rfl tSecs (base := w.heap.size + 1) (e := 86) (by rfl) HOW.out (A := some ⟨wr.heap.size + 1, 0, none⟩) (m := 1) (c := 1) (by rfl) (by rw [newCells_len]; rfl) HRB.out (newCells_one s _) (by omega) (by omega) (by omega) ?_
          intro v2 w5 hO2 hg2 hv2
          obtain ⟨A4, c4, rfl, _, hc4, hcm4, hr4, ha4⟩ := own_out hO2
          have hlo : ∀ g, (Value.slice Av k cv).ownBlock = some g → w.heap.size + 1 ≤ g ∧ g < wr.heap.size := fun g hg => by
            cases Av with
            | none => simp [Value.ownBlock] at hg
            | some a => simp [Value.ownBlock] at hg; have := hav a rfl; omega
          have hb5 : Below (w.heap.size + 1) wb w5 := (Below.refl _ _).grown hg2 (by omega) (fun g hg => (hlo g hg).1)
          have hF5 : Fr (fun x => some x = (Value.slice Av k cv).ownBlock) wb w5 := Fr.of_grown hg2 (fun g hg => hg.symm)
          have HT5 : Blk w5 w.heap.size [.int .i64 (s : Int), .slice Av k cv, .bool false, .int .i64 0] 47 := (hI.blk.below hbb).fr hF5 (fun e => by have := hlo _ e.symm; omega)
          have HS5 : w5.cell? ⟨w.heap.size, 1, none⟩ = some (.slice Av k cv) := HT5.cell (j := 1) rfl
          have jt := HT5.frozen 1
          have hsz5 := hg2.size
          have hnew4 : ∀ g, (Value.slice A4 (k + 1) c4).ownBlock = some g → (∃ g0, (Value.slice Av k cv).ownBlock = some g0 ∧ g = g0) ∨ wr.heap.size + 2 ≤ g := fun g hg => by
            rcases hv2 with h | h
            · exact .inl ⟨g, by rw [← h]; exact hg, rfl⟩
            · rw [h] at hg; injection hg with hg; exact .inr (by omega)
          obtain ⟨w6, hw6⟩ : ∃ y, w5.setCell ⟨w.heap.size, 1, none⟩ (.slice A4 (k + 1) c4) = y := ⟨_, rfl⟩
          have hF6 : Fr (fun x => x = w.heap.size) w5 w6 := by rw [← hw6]; exact Fr.set (X := fun x => x = w.heap.size) w5 ⟨w.heap.size, 1, none⟩ _ rfl
          have hz6 : w6.heap.size = w5.heap.size := by rw [← hw6]; simp
          have HT6 : Blk w6 w.heap.size [.int .i64 (s : Int), .slice A4 (k + 1) c4, .bool false, .int .i64 0] 47 := by rw [← hw6]; exact HT5.set 1 _
          have hO6 : w6.ownsRow (w.heap.size + 1) 86 4 (.slice A4 (k + 1) c4) (k + 1) (newCells s (os ++ [wr.heap.size])) := by
            have e : newCells s os ++ newCells s [wr.heap.size] = newCells s (os ++ [wr.heap.size]) := by simp [newCells]
            rw [e] at hO2
            refine ⟨hO2.1, ?_⟩
            rcases hO2.2 with h | ⟨g, cap, cur, hv, hbg, hg', rest⟩
            · exact .inl h
            · exact .inr ⟨g, cap, cur, hv, hbg, (hF6.blk g (Array.getElem?_eq_some_iff.1 hg').1 (by omega)).trans hg', rest⟩
          have hok6 : ∀ o ∈ os ++ [wr.heap.size], w.heap.size + 1 ≤ o ∧ o < w6.heap.size ∧ some o ≠ (Value.slice A4 (k + 1) c4).ownBlock ∧ Rd w6 (some ⟨o, 0, none⟩) (bys (List.replicate s 0)) := fun o ho => by
            have hcase : w.heap.size + 1 ≤ o ∧ o ≤ wr.heap.size ∧ (∀ g, (Value.slice Av k cv).ownBlock = some g → o ≠ g) ∧ Rd wb (some ⟨o, 0, none⟩) (bys (List.replicate s 0)) := by
              rcases List.mem_append.1 ho with ho | ho
              · obtain ⟨g1, g2, g3, g4⟩ := hI.ok o ho
                exact ⟨g1, by omega, fun g hg e => g3 (by rw [e]; exact hg.symm), g4.below hbb⟩
              · rw [List.mem_singleton] at ho
                subst ho
                refine ⟨by omega, Nat.le_refl _, fun g hg e => by have := hlo g hg; omega, Rd.of_some fun j u hu => ?_⟩
                have := (hBa.below hbab).cell hu
                rwa [show (⟨wr.heap.size, 0, none⟩ : Addr).add j = ⟨wr.heap.size, j, none⟩ by unfold Addr.add; split <;> simp_all]
            obtain ⟨g1, g2, g3, g4⟩ := hcase
            refine ⟨g1, by omega, fun e => ?_, (g4.fr hF5 (fun _ a ha e => by injection ha with ha; subst ha; exact g3 _ e.symm rfl)).fr hF6 (fun _ a ha e => by injection ha with ha; subst ha; have e' : o = w.heap.size := e; omega)⟩
            rcases hnew4 o e.symm with ⟨g0, h0, h1⟩ | h0
            · exact g3 g0 h0 h1
            · omega
          have hbel : Below w.heap.size w w6 := hF6.below ((((hI.bel.trans (hbb.mono (by omega)))).trans (hb5.mono (by omega)))) (by omega) (fun x hx => by omega)
          have HN := hide (show NewI w s (k + 1) w6 (.slice A4 (k + 1) c4) (os ++ [wr.heap.size]) from ⟨HT6, hO6, by rw [List.length_append, hI.len]; rfl, hok6, hbel, by omega⟩)
          clear hO2 hg2 hv2 hr4 ha4 hF5 hF6 HT6 hO6 hok6 hbel hb5 hnew4
          refine hK _ _ ?_
          clear hK Kk
          refine any_one (fuel := 2) (i := 10) (by kernel_rfl) rfl rfl (fun Kk hK => ?_)
          go_simp
          refine hK _ _ ?_
          clear hK Kk
          refine any_one (fuel := 1) (i := 11) (by kernel_rfl) rfl rfl (fun Kk hK => ?_)
          go_simp
          refine hK _ _ ?_
          clear hK Kk
          refine any_one (fuel := 0) (i := 12) (by kernel_rfl) rfl rfl (fun Kk hK => ?_)
          go_simp
          try rw [hw6]
          refine hK _ _ ?_
          clear hK Kk
          refine ⟨by kernel_rfl, ?_⟩
          go_wp2
          go_roundw
          case rel => exact ⟨k + 1, _, _, by go_num, by omega, HN.out⟩
          case measure => simp [RowKit.intOf]; omega
        · go_simp
          refine hK _ _ ?_
          clear hK Kk
          refine any_two (fuel := 5) (i := 4) (j := 8) (by kernel_rfl) rfl rfl rfl rfl (fun Kk hK => ?_) (fun Kk hK => ?_)
          · have hcw := hcl _ hba
            go_simp
            refine hK _ _ ?_
            clear hK Kk hcw
            refine any_one (fuel := 4) (i := 8) (by kernel_rfl) rfl rfl (fun Kk hK => ?_)
            go_simp
            try rw [hwb]
            refine hK _ _ ?_
            clear hK Kk
            refine any_one (fuel := 3) (i := 9) (by kernel_rfl) rfl rfl (fun Kk hK => ?_)
            refine oper_own rfl tSecs (base := w.heap.size + 1) (e := 86) (by rfl) HOW.out (A := some ⟨wr.heap.size + 1, 0, none⟩) (m := 1) (c := 1) (by rfl) (by rw [newCells_len]; rfl) HRB.out (newCells_one s _) (by omega) (by omega) (by omega) ?_
            intro v2 w5 hO2 hg2 hv2
            obtain ⟨A4, c4, rfl, _, hc4, hcm4, hr4, ha4⟩ := own_out hO2
            have hlo : ∀ g, (Value.slice Av k cv).ownBlock = some g → w.heap.size + 1 ≤ g ∧ g < wr.heap.size := fun g hg => by
              cases Av with
              | none => simp [Value.ownBlock] at hg
              | some a => simp [Value.ownBlock] at hg; have := hav a rfl; omega
            have hb5 : Below (w.heap.size + 1) wb w5 := (Below.refl _ _).grown hg2 (by omega) (fun g hg => (hlo g hg).1)
            have hF5 : Fr (fun x => some x = (Value.slice Av k cv).ownBlock) wb w5 := Fr.of_grown hg2 (fun g hg => hg.symm)
            have HT5 : Blk w5 w.heap.size [.int .i64 (s : Int), .slice Av k cv, .bool false, .int .i64 0] 47 := (hI.blk.below hbb).fr hF5 (fun e => by have := hlo _ e.symm; omega)
            have HS5 : w5.cell? ⟨w.heap.size, 1, none⟩ = some (.slice Av k cv) := HT5.cell (j := 1) rfl
            have jt := HT5.frozen 1
            have hsz5 := hg2.size
            have hnew4 : ∀ g, (Value.slice A4 (k + 1) c4).ownBlock = some g → (∃ g0, (Value.slice Av k cv).ownBlock = some g0 ∧ g = g0) ∨ wr.heap.size + 2 ≤ g := fun g hg => by
              rcases hv2 with h | h
              · exact .inl ⟨g, by rw [← h]; exact hg, rfl⟩
              · rw [h] at hg; injection hg with hg; exact .inr (by omega)
            obtain ⟨w6, hw6⟩ : ∃ y, w5.setCell ⟨w.heap.size, 1, none⟩ (.slice A4 (k + 1) c4) = y := ⟨_, rfl⟩
            have hF6 : Fr (fun x => x = w.heap.size) w5 w6 := by rw [← hw6]; exact Fr.set (X := fun x => x = w.heap.size) w5 ⟨w.heap.size, 1, none⟩ _ rfl
            have hz6 : w6.heap.size = w5.heap.size := by rw [← hw6]; simp
            have HT6 : Blk w6 w.heap.size [.int .i64 (s : Int), .slice A4 (k + 1) c4, .bool false, .int .i64 0] 47 := by rw [← hw6]; exact HT5.set 1 _
            have hO6 : w6.ownsRow (w.heap.size + 1) 86 4 (.slice A4 (k + 1) c4) (k + 1) (newCells s (os ++ [wr.heap.size])) := by
              have e : newCells s os ++ newCells s [wr.heap.size] = newCells s (os ++ [wr.heap.size]) := by simp [newCells]
              rw [e] at hO2
              refine ⟨hO2.1, ?_⟩
              rcases hO2.2 with h | ⟨g, cap, cur, hv, hbg, hg', rest⟩
              · exact .inl h
              · exact .inr ⟨g, cap, cur, hv, hbg, (hF6.blk g (Array.getElem?_eq_some_iff.1 hg').1 (by omega)).trans hg', rest⟩
            have hok6 : ∀ o ∈ os ++ [wr.heap.size], w.heap.size + 1 ≤ o ∧ o < w6.heap.size ∧ some o ≠ (Value.slice A4 (k + 1) c4).ownBlock ∧ Rd w6 (some ⟨o, 0, none⟩) (bys (List.replicate s 0)) := fun o ho => by
              have hcase : w.heap.size + 1 ≤ o ∧ o ≤ wr.heap.size ∧ (∀ g, (Value.slice Av k cv).ownBlock = some g → o ≠ g) ∧ Rd wb (some ⟨o, 0, none⟩) (bys (List.replicate s 0)) := by
                rcases List.mem_append.1 ho with ho | ho
                · obtain ⟨g1, g2, g3, g4⟩ := hI.ok o ho
                  exact ⟨g1, by omega, fun g hg e => g3 (by rw [e]; exact hg.symm), g4.below hbb⟩
                · rw [List.mem_singleton] at ho
                  subst ho
                  refine ⟨by omega, Nat.le_refl _, fun g hg e => by have := hlo g hg; omega, Rd.of_some fun j u hu => ?_⟩
                  have := (hBa.below hbab).cell hu
                  rwa [show (⟨wr.heap.size, 0, none⟩ : Addr).add j = ⟨wr.heap.size, j, none⟩ by unfold Addr.add; split <;> simp_all]
              obtain ⟨g1, g2, g3, g4⟩ := hcase
              refine ⟨g1, by omega, fun e => ?_, (g4.fr hF5 (fun _ a ha e => by injection ha with ha; subst ha; exact g3 _ e.symm rfl)).fr hF6 (fun _ a ha e => by injection ha with ha; subst ha; have e' : o = w.heap.size := e; omega)⟩
              rcases hnew4 o e.symm with ⟨g0, h0, h1⟩ | h0
              · exact g3 g0 h0 h1
              · omega
            have hbel : Below w.heap.size w w6 := hF6.below ((((hI.bel.trans (hbb.mono (by omega)))).trans (hb5.mono (by omega)))) (by omega) (fun x hx => by omega)
            have HN := hide (show NewI w s (k + 1) w6 (.slice A4 (k + 1) c4) (os ++ [wr.heap.size]) from ⟨HT6, hO6, by rw [List.length_append, hI.len]; rfl, hok6, hbel, by omega⟩)
            clear hO2 hg2 hv2 hr4 ha4 hF5 hF6 HT6 hO6 hok6 hbel hb5 hnew4
            refine hK _ _ ?_
            clear hK Kk
            refine any_one (fuel := 2) (i := 10) (by kernel_rfl) rfl rfl (fun Kk hK => ?_)
            go_simp
            refine hK _ _ ?_
            clear hK Kk
            refine any_one (fuel := 1) (i := 11) (by kernel_rfl) rfl rfl (fun Kk hK => ?_)
            go_simp
            refine hK _ _ ?_
            clear hK Kk
            refine any_one (fuel := 0) (i := 12) (by kernel_rfl) rfl rfl (fun Kk hK => ?_)
            go_simp
            try rw [hw6]
            refine hK _ _ ?_
            clear hK Kk
            refine ⟨by kernel_rfl, ?_⟩
            go_wp2
            go_roundw
            case rel => exact ⟨k + 1, _, _, by go_num, by omega, HN.out⟩
            case measure => simp [RowKit.intOf]; omega
          · go_simp
            try rw [hwb]
            refine hK _ _ ?_
            clear hK Kk
            refine any_one (fuel := 4) (i := 4) (by kernel_rfl) rfl rfl (fun Kk hK => ?_)
            have hcw := hcl _ hbb
            go_simp
            refine hK _ _ ?_
            clear hK Kk hcw
            refine any_one (fuel := 3) (i := 9) (by kernel_rfl) rfl rfl (fun Kk hK => ?_)
            refine oper_own rfl tSecs (base := w.heap.size + 1) (e := 86) (by rfl) HOW.out (A := some ⟨wr.heap.size + 1, 0, none⟩) (m := 1) (c := 1) (by rfl) (by rw [newCells_len]; rfl) HRB.out (newCells_one s _) (by omega) (by omega) (by omega) ?_
            intro v2 w5 hO2 hg2 hv2
            obtain ⟨A4, c4, rfl, _, hc4, hcm4, hr4, ha4⟩ := own_out hO2
            have hlo : ∀ g, (Value.slice Av k cv).ownBlock = some g → w.heap.size + 1 ≤ g ∧ g < wr.heap.size := fun g hg => by
              cases Av with
              | none => simp [Value.ownBlock] at hg
              | some a => simp [Value.ownBlock] at hg; have := hav a rfl; omega
            have hb5 : Below (w.heap.size + 1) wb w5 := (Below.refl _ _).grown hg2 (by omega) (fun g hg => (hlo g hg).1)
            have hF5 : Fr (fun x => some x = (Value.slice Av k cv).ownBlock) wb w5 := Fr.of_grown hg2 (fun g hg => hg.symm)
            have HT5 : Blk w5 w.heap.size [.int .i64 (s : Int), .slice Av k cv, .bool false, .int .i64 0] 47 := (hI.blk.below hbb).fr hF5 (fun e => by have := hlo _ e.symm; omega)
            have HS5 : w5.cell? ⟨w.heap.size, 1, none⟩ = some (.slice Av k cv) := HT5.cell (j := 1) rfl
            have jt := HT5.frozen 1
            have hsz5 := hg2.size
            have hnew4 : ∀ g, (Value.slice A4 (k + 1) c4).ownBlock = some g → (∃ g0, (Value.slice Av k cv).ownBlock = some g0 ∧ g = g0) ∨ wr.heap.size + 2 ≤ g := fun g hg => by
              rcases hv2 with h | h
              · exact .inl ⟨g, by rw [← h]; exact hg, rfl⟩
              · rw [h] at hg; injection hg with hg; exact .inr (by omega)
            obtain ⟨w6, hw6⟩ : ∃ y, w5.setCell ⟨w.heap.size, 1, none⟩ (.slice A4 (k + 1) c4) = y := ⟨_, rfl⟩
            have hF6 : Fr (fun x => x = w.heap.size) w5 w6 := by rw [← hw6]; exact Fr.set (X := fun x => x = w.heap.size) w5 ⟨w.heap.size, 1, none⟩ _ rfl
            have hz6 : w6.heap.size = w5.heap.size := by rw [← hw6]; simp
            have HT6 : Blk w6 w.heap.size [.int .i64 (s : Int), .slice A4 (k + 1) c4, .bool false, .int .i64 0] 47 := by rw [← hw6]; exact HT5.set 1 _
            have hO6 : w6.ownsRow (w.heap.size + 1) 86 4 (.slice A4 (k + 1) c4) (k + 1) (newCells s (os ++ [wr.heap.size])) := by
              have e : newCells s os ++ newCells s [wr.heap.size] = newCells s (os ++ [wr.heap.size]) := by simp [newCells]
              rw [e] at hO2
              refine ⟨hO2.1, ?_⟩
              rcases hO2.2 with h | ⟨g, cap, cur, hv, hbg, hg', rest⟩
              · exact .inl h
              · exact .inr ⟨g, cap, cur, hv, hbg, (hF6.blk g (Array.getElem?_eq_some_iff.1 hg').1 (by omega)).trans hg', rest⟩
            have hok6 : ∀ o ∈ os ++ [wr.heap.size], w.heap.size + 1 ≤ o ∧ o < w6.heap.size ∧ some o ≠ (Value.slice A4 (k + 1) c4).ownBlock ∧ Rd w6 (some ⟨o, 0, none⟩) (bys (List.replicate s 0)) := fun o ho => by
              have hcase : w.heap.size + 1 ≤ o ∧ o ≤ wr.heap.size ∧ (∀ g, (Value.slice Av k cv).ownBlock = some g → o ≠ g) ∧ Rd wb (some ⟨o, 0, none⟩) (bys (List.replicate s 0)) := by
                rcases List.mem_append.1 ho with ho | ho
                · obtain ⟨g1, g2, g3, g4⟩ := hI.ok o ho
                  exact ⟨g1, by omega, fun g hg e => g3 (by rw [e]; exact hg.symm), g4.below hbb⟩
                · rw [List.mem_singleton] at ho
                  subst ho
                  refine ⟨by omega, Nat.le_refl _, fun g hg e => by have := hlo g hg; omega, Rd.of_some fun j u hu => ?_⟩
                  have := (hBa.below hbab).cell hu
                  rwa [show (⟨wr.heap.size, 0, none⟩ : Addr).add j = ⟨wr.heap.size, j, none⟩ by unfold Addr.add; split <;> simp_all]
              obtain ⟨g1, g2, g3, g4⟩ := hcase
              refine ⟨g1, by omega, fun e => ?_, (g4.fr hF5 (fun _ a ha e => by injection ha with ha; subst ha; exact g3 _ e.symm rfl)).fr hF6 (fun _ a ha e => by injection ha with ha; subst ha; have e' : o = w.heap.size := e; omega)⟩
              rcases hnew4 o e.symm with ⟨g0, h0, h1⟩ | h0
              · exact g3 g0 h0 h1
              · omega
            have hbel : Below w.heap.size w w6 := hF6.below ((((hI.bel.trans (hbb.mono (by omega)))).trans (hb5.mono (by omega)))) (by omega) (fun x hx => by omega)
            have HN := hide (show NewI w s (k + 1) w6 (.slice A4 (k + 1) c4) (os ++ [wr.heap.size]) from ⟨HT6, hO6, by rw [List.length_append, hI.len]; rfl, hok6, hbel, by omega⟩)
            clear hO2 hg2 hv2 hr4 ha4 hF5 hF6 HT6 hO6 hok6 hbel hb5 hnew4
            refine hK _ _ ?_
            clear hK Kk
            refine any_one (fuel := 2) (i := 10) (by kernel_rfl) rfl rfl (fun Kk hK => ?_)
            go_simp
            refine hK _ _ ?_
            clear hK Kk
            refine any_one (fuel := 1) (i := 11) (by kernel_rfl) rfl rfl (fun Kk hK => ?_)
            go_simp
            refine hK _ _ ?_
            clear hK Kk
            refine any_one (fuel := 0) (i := 12) (by kernel_rfl) rfl rfl (fun Kk hK => ?_)
            go_simp
            try rw [hw6]
            refine hK _ _ ?_
            clear hK Kk
            refine ⟨by kernel_rfl, ?_⟩
            go_wp2
            go_roundw
            case rel => exact ⟨k + 1, _, _, by go_num, by omega, HN.out⟩
            case measure => simp [RowKit.intOf]; omega
    · have hkn' : k = n := by omega
      subst hkn'
      have q9 : decide ((k : Int) < (k : Int)) = false := decide_eq_false (by omega)
      obtain ⟨f, cs, HD⟩ := hI.done h1 h2 h3 h4
      go_wp2
      refine bodyPost_ret (results_tmp2 rfl _ _ _) rfl ?_
      exact ⟨f, cs, rfl, HD⟩
theorem rnew08_bad (w : World) (n s : Int) (hn : ¬ (1 ≤ n ∧ n ≤ 65536 ∧ 1 ≤ s ∧ s ≤ 8192)) :
    Calls Try.prog 25 #[.int .i64 n, .int .i64 s] w fun e w' => e = .returned (.tuple #[.pointer none, .int .i64 80]) ∧ w = w' := by
  rcases (show n < 1 ∨ (1 ≤ n ∧ 65536 < n) ∨ (1 ≤ n ∧ n ≤ 65536 ∧ s < 1) ∨ (1 ≤ n ∧ n ≤ 65536 ∧ 1 ≤ s ∧ 8192 < s) by omega) with h1 | ⟨h1, h2⟩ | ⟨h1, h2, h3⟩ | ⟨h1, h2, h3, h4⟩
  · have q1 : decide (n < 1) = true := decide_eq_true h1
    clear hn
    go_enter Try.func25, Try.ntmps25
    go_wp2
    refine bodyPost_ret (results_tmp2 rfl _ _ _) rfl ?_
    exact ⟨rfl, rfl⟩
  · have q1 : decide (n < 1) = false := decide_eq_false (by omega)
    have q2 : decide ((65536 : Int) < n) = true := decide_eq_true h2
    clear hn
    go_enter Try.func25, Try.ntmps25
    go_wp2
    refine bodyPost_ret (results_tmp2 rfl _ _ _) rfl ?_
    exact ⟨rfl, rfl⟩
  · have q1 : decide (n < 1) = false := decide_eq_false (by omega)
    have q2 : decide ((65536 : Int) < n) = false := decide_eq_false (by omega)
    have q3 : decide (s < 1) = true := decide_eq_true h3
    clear hn
    go_enter Try.func25, Try.ntmps25
    go_wp2
    refine bodyPost_ret (results_tmp2 rfl _ _ _) rfl ?_
    exact ⟨rfl, rfl⟩
  · have q1 : decide (n < 1) = false := decide_eq_false (by omega)
    have q2 : decide ((65536 : Int) < n) = false := decide_eq_false (by omega)
    have q3 : decide (s < 1) = false := decide_eq_false (by omega)
    have q4 : decide ((8192 : Int) < s) = true := decide_eq_true h4
    clear hn
    go_enter Try.func25, Try.ntmps25
    go_wp2
    refine bodyPost_ret (results_tmp2 rfl _ _ _) rfl ?_
    exact ⟨rfl, rfl⟩
end
end Go.Proofs.Ytdianokikhggnaa
